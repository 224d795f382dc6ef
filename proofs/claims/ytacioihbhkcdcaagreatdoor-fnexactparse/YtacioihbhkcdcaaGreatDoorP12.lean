/-
  GrowO StepPush PSpecA PSpecB TreeO PSpecC PSpecD PBox
-/
import Derived.Test.YtacioihbhkcdcaaGreatDoorP07
import Derived.Deep.AppendLies
set_option maxHeartbeats 16000000
set_option linter.unusedVariables false
set_option maxRecDepth 100000
namespace Go.Proofs.YtacioihbhkcdcaaGreatDoor
open Go.ChangeShapes Go.WideShapes Go.ChangeAt Go.RowKit
section
def Zh {α:Type} (e:TypeId) (c:Nat) (O:World->List Value->α->List Nat->Prop) (w:World) (B C:Nat) (v:Value) (xs:List α):Prop :=
 ∃ (cells:List Value) (fps:List (List Nat)),w.ownsRow B e c v xs.length cells/\fps.length=xs.length/\fps.flatten.Nodup /\
  (∀ (i:Nat) x f,xs[i]?=some x->fps[i]?=some f->∃ cs:List Value,cs.length=c/\(∀ j,j<c->cells[i * c+j]?=cs[j]?)/\O w cs x f) /\
  (∀ a ∈ fps.flatten,B<=a/\a<C/\v.ownBlock≠some a)/\(∀ a,v.ownBlock=some a->B<=a/\a<C)/\B<=C/\C<=w.heap.size
def ZbC {α:Type} (O:World->List Value->α->List Nat->Prop):Prop:=∀ (w w':World) (cs:List Value) (x:α) (fp:List Nat),O w cs x fp->Zu fp w w'->O w' cs x fp
section
variable {α:Type} {e:TypeId} {c:Nat} {O:World->List Value->α->List Nat->Prop} {w w':World} {B C:Nat} {v:Value} {xs:List α}
theorem Zbi {n:Nat} {cells:List Value} (h:w.ownsRow B e c v n cells) (hk:∀ a,v.ownBlock=some a->w'.heap[a]?=w.heap[a]?):w'.ownsRow B e c v n cells:=by
 refine ⟨h.1,?_⟩
 rcases h.2 with hn | ⟨g,cap,cur,hv,hB,hg,hr⟩
 . exact .inl hn
 . exact .inr ⟨g,cap,cur,hv,hB,(hk g (by rw [hv];rfl)).trans hg,hr⟩
theorem Zh.keep (hO:ZbC O) (h:Zh e c O w B C v xs) (hs:w.heap.size<=w'.heap.size) (hk:∀ a,B<=a->a<C->w'.heap[a]?=w.heap[a]?):Zh e c O w' B C v xs:=by
 obtain ⟨cells,fps,h1,h2,h3,h4,h5,h6,h7,h8⟩:=h;refine ⟨cells,fps,Zbi h1 (λa ha=>hk a (h6 a ha).1 (h6 a ha).2),h2,h3,λi x f hi hf=>?_,h5,h6,h7,Nat.le_trans h8 hs⟩;obtain ⟨cs,g1,g2,g3⟩:=h4 i x f hi hf
 exact ⟨cs,g1,g2,hO _ _ _ _ _ g3 (λa ha=>by
  have:=h5 a (List.mem_flatten.2 ⟨f,List.mem_of_getElem? hf,ha⟩)
  exact hk a this.1 this.2.1)⟩
theorem Zh.next (hO:ZbC O) (h:Zh e c O w B C v xs) (hb:Bz w w'):Zh e c O w' B C v xs:=by
 have h8:C<=w.heap.size:=(by obtain ⟨_,_,_,_,_,_,_,_,_,h8⟩:=h;exact h8);exact h.keep hO hb.size (λa _ ha=>hb.block a (by omega))
theorem Zh.off (hO:ZbC O) {pb:Nat} (h:Zh e c O w B C v xs) (ho:Off [pb] w w') (hp:pb<B):Zh e c O w' B C v xs:=by
 have h8:C<=w.heap.size:=(by obtain ⟨_,_,_,_,_,_,_,_,_,h8⟩:=h;exact h8);exact h.keep hO ho.size (λa h1 h2=>ho.block a (by omega) (by simp;omega))
theorem Zh.more {B' C':Nat} (h:Zh e c O w B C v xs) (hB:B'<=B) (hC:C<=C') (hs:C'<=w.heap.size):Zh e c O w B' C' v xs:=by
 obtain ⟨cells,fps,h1,h2,h3,h4,h5,h6,h7,h8⟩:=h;refine ⟨cells,fps,⟨h1.1,?_⟩,h2,h3,h4,λa ha=>⟨by have:=h5 a ha;omega,by have:=h5 a ha;omega,(h5 a ha).2.2⟩,λa ha=>⟨by have:=h6 a ha;omega,by have:=h6 a ha;omega⟩,by omega,hs⟩
 rcases h1.2 with hn | ⟨g,cap,cur,hv,hb,hr⟩
 . exact .inl hn
 . exact .inr ⟨g,cap,cur,hv,Nat.le_trans hB hb,hr⟩
theorem Zh.nil (h:B<=w.heap.size):Zh e c O w B B (.slice none 0 0) [] :=
 ⟨[],[],⟨by simp,.inl ⟨rfl,rfl⟩⟩,rfl,by simp,λi x f hi=>by simp at hi,λa ha=>by simp at ha,λa ha=>by simp [Value.ownBlock] at ha,Nat.le_refl _,h⟩
theorem Zh.fresh:Zh e c O (w.alloc (.cells #[] e)) w.heap.size (w.heap.size+1) (.slice (some ⟨w.heap.size,0,none⟩) 0 0) []:=by
 refine ⟨[],[],⟨by simp,.inr ⟨w.heap.size,0,#[],rfl,Nat.le_refl _,Blk.new (w:=w) (cs:=#[]) (t:=e),Nat.le_refl _,Nat.zero_le _,?_,by simp⟩⟩,rfl,by simp,λi x f hi=>by simp at hi,λa ha=>by simp at ha,λa ha=>?_,by omega,by simp⟩
 . simp
 . simp [Value.ownBlock] at ha;subst ha;exact ⟨Nat.le_refl _,by omega⟩
theorem Zh.shape (h:Zh e c O w B C v xs):∃ p cap,v=.slice p xs.length cap/\xs.length<=cap/\cap<=maxLen:=by
 obtain ⟨cells,fps,h1,h2,-⟩:=h
 rcases h1.2 with ⟨hv,hn⟩ | ⟨g,cap,cur,hv,hb,hg,hc,hm,hr⟩
 . exact ⟨none,0,by rw [hv,hn],by omega,Nat.zero_le _⟩
 . exact ⟨_,cap,hv,hc,hm⟩
theorem Zh.push (hO:ZbC O) {wb:World} {cells:List Value} {fps:List (List Nat)} {x:α} {cs:List Value} {f:List Nat} {v':Value} {D:Nat}
 (h1:w.ownsRow B e c v xs.length cells) (h2:fps.length=xs.length) (h3:fps.flatten.Nodup)
 (h4:∀ (i:Nat) x f,xs[i]?=some x->fps[i]?=some f->∃ cs:List Value,cs.length=c/\(∀ j,j<c->cells[i * c+j]?=cs[j]?)/\O w cs x f)
 (h5:∀ a ∈ fps.flatten,B<=a/\a<C/\v.ownBlock≠some a) (h6:∀ a,v.ownBlock=some a->B<=a/\a<C) (h7:B<=C)
 (hf:O w cs x f) (hfn:f.Nodup) (hfr:∀ a ∈ f,C<=a/\a<w.heap.size) (hcl:cs.length=c) (hwb:Bz w wb) (hC:C<=w.heap.size)
 (hown:w'.ownsRow B e c v' (xs.length+1) (cells ++ cs)) (hgr:wb.grownBy w' v.ownBlock) (hat:v'.ownBlock=v.ownBlock\/∀ a,v'.ownBlock=some a->wb.heap.size<=a) (hD:w'.heap.size=D) :
 Zh e c O w' B D v' (xs ++ [x]):=by
 have s1:=hwb.size;have s2:=hgr.size;have blk:∀ a,a<w.heap.size->v.ownBlock≠some a->w'.heap[a]?=w.heap[a]?:=λa ha hn=>(hgr.block a (by omega) (λe=>hn e.symm)).trans (hwb.block a ha);have hxl:cells.length=xs.length * c:=h1.1
 have hfv:∀ a ∈ f,v.ownBlock≠some a:=λa ha e=>by have:=h6 a e;have:=hfr a ha;omega
 have hlt:∀ a,v'.ownBlock=some a->B<=a/\a<w'.heap.size:=λa ha=>by
  rcases hown.2 with ⟨hv,_⟩ | ⟨g,cap,cur,hv,hb,hg,_⟩
  . rw [hv] at ha;cases ha
  . rw [hv] at ha;simp [Value.ownBlock] at ha;subst ha;exact ⟨hb,(Array.getElem?_eq_some_iff.1 hg).1⟩
 have hne:∀ a,a<w.heap.size->v.ownBlock≠some a->v'.ownBlock≠some a:=λa ha hn e=>by
  rcases hat with h | h
  . rw [h] at e;exact hn e
  . have:=h a e;omega
 refine ⟨cells ++ cs,fps ++ [f],by rw [List.length_append];exact hown,by rw [List.length_append,List.length_append,h2];rfl,?_,λi y f' hi hf'=>?_,λa ha=>?_,λa ha=>by rw [<-hD];exact hlt a ha,by omega,by omega⟩
 . rw [List.flatten_append,List.nodup_append]
   refine ⟨h3,by simpa using hfn,λa ha b hb=>?_⟩;have:=(h5 a ha).2.1;have:=(hfr b (by simpa using hb)).1;omega
 . by_cases hik:i<xs.length
   . rw [List.getElem?_append_left hik] at hi
     rw [List.getElem?_append_left (by rw [h2];exact hik)] at hf';obtain ⟨cs',g1,g2,g3⟩:=h4 i y f' hi hf';have hil:i * c+c<=xs.length * c:=(by rw [<-Nat.succ_mul];exact Nat.mul_le_mul_right c hik);refine ⟨cs',g1,λj hj=>?_,hO _ _ _ _ _ g3 (λa ha=>?_)⟩
     . rw [List.getElem?_append_left (by omega)];exact g2 j hj
     . have:=h5 a (List.mem_flatten.2 ⟨f',List.mem_of_getElem? hf',ha⟩)
       exact blk a (by omega) this.2.2
   . have hil:i<xs.length+1:=by
      have:=(List.getElem?_eq_some_iff.1 hi).1;rw [List.length_append] at this;simpa using this
     obtain rfl:i=xs.length:=(by omega);rw [List.getElem?_append_right (sqR _),Nat.sub_self] at hi;rw [List.getElem?_append_right (by rw [h2];exact Nat.le_refl _),h2,Nat.sub_self] at hf';simp at hi hf';subst hi;subst hf';refine ⟨cs,hcl,λj hj=>?_,hO _ _ _ _ _ hf (λa ha=>blk a (hfr a ha).2 (hfv a ha))⟩;rw [List.getElem?_append_right (by omega),hxl];congr 1;omega
 . rw [List.flatten_append,List.mem_append] at ha
   rcases ha with ha | ha
   . have:=h5 a ha
     exact ⟨this.1,by omega,hne a (by omega) this.2.2⟩
   . have ha':a ∈ f:=by simpa using ha
     have:=hfr a ha';exact ⟨by omega,by omega,hne a this.2 (hfv a ha')⟩
theorem Zh.done (h:Zh e c O w B C v xs):∃ fp,Zy w e c (O w) v xs fp/\fp.Nodup/\(∀ a ∈ fp,B<=a/\a<C)/\B<=C/\C<=w.heap.size:=by
 obtain ⟨cells,fps,h1,h2,h3,h4,h5,h6,h7,h8⟩:=h;by_cases hne:xs = []
 . subst hne
   refine ⟨[],.inl ⟨rfl,rfl,?_⟩,by simp,λa ha=>by simp at ha,h7,h8⟩
   rcases h1.2 with ⟨hv,hn⟩ | ⟨g,cap,cur,hv,hb,hg,hc,hm,hr⟩
   . exact ⟨none,0,hv,Nat.zero_le _⟩
   . exact ⟨_,cap,hv,hm⟩
 . rcases h1.2 with ⟨hv,hn⟩ | ⟨g,cap,cur,hv,hb,hg,hr⟩
   . exact absurd (List.length_eq_zero_iff.1 hn) hne
   . have hgo:v.ownBlock=some g:=by rw [hv];rfl
     refine ⟨g :: fps.flatten,.inr ⟨hne,cells,g,cap,fps,⟨h1.1,.inr ⟨g,cap,cur,hv,Nat.zero_le _,hg,hr⟩⟩,hv,h2,rfl,h4⟩,?_,λa ha=>?_,h7,h8⟩
     . rw [List.nodup_cons]
       exact ⟨λhm=>(h5 g hm).2.2 hgo,h3⟩
     . rcases List.mem_cons.1 ha with rfl | ha
       . exact h6 _ hgo
       . exact ⟨(h5 a ha).1,(h5 a ha).2.1⟩
end
theorem ZaM {α:Type} {O:World->List Value->α->List Nat->Prop} (hO:ZbC O) {ops:Array Oper} {rest:List Oper} {o:Oper} {a:Act} {Q:Exit->Act->World->Prop} {w:World} (t e:TypeId) (size bytes:Nat) (z:Value) (hgd:o.guard=none) (s x:Operand)
 (ho:o.op=.call { callee:=.builtin .append,args:=#[s,x],argTypes:=#[t,t] }) (ht:Tryz.prog.underlying t=some (.slice e)) (hinfo:(Tryz.prog.info? e).map (λi=>(i.zero,i.size,i.bytes))=some (some z,size,bytes))
 (hzs:z.cells.size=size) (hsz:0<size) (hby:bytes<=1000) (B C:Nat) (v:Value) (xs:List α) (hs:a.eval s=v) (cs:List Value) (hx:a.eval x=.slice (some ⟨w.heap.size,0,none⟩) 1 1) (y:α) (f:List Nat)
 (hG:Zh e size O w B C v xs) (hf:O w cs y f) (hfn:f.Nodup) (hfr:∀ a ∈ f,C<=a/\a<w.heap.size) (hcl:cs.length=size) (h1:∀ u ∈ cs,u.oneCell'=true) (hl:xs.length<=100000000)
 (h:∀ v' w',Zh e size O w' B w'.heap.size v' (xs ++ [y])->Below B (w.alloc (.cells cs.toArray e)) w'->wpList Tryz.prog ops Q rest (a.put o.dst v') w') :
 wpList Tryz.prog ops Q (o :: rest) a (w.alloc (.cells cs.toArray e)):=by
 cases hi:Tryz.prog.info? e with
 | none=>rw [hi] at hinfo;cases hinfo
 | some i =>
  rw [hi] at hinfo;simp only [Option.map_some,Option.some.injEq,Prod.mk.injEq] at hinfo;obtain ⟨hz,hsize,hbytes⟩:=hinfo;obtain ⟨cells,fps,g1,g2,g3,g4,g5,g6,g7,g8⟩:=hG;have hb:Bz w (w.alloc (.cells cs.toArray e)):=(sqN _ _);have hown:=Zbi (w':=w.alloc (.cells cs.toArray e)) g1 (λa ha=>hb.block a (by have:=g6 a ha;omega))
  have hnews:∀ j u,cs[j]?=some u->(w.alloc (.cells cs.toArray e)).cell? ((⟨w.heap.size,0,none⟩:Addr).add j)=some u:=λj u hj=>by
   have:=(Blk.new (w:=w) (cs:=cs.toArray) (t:=e)).cell j u (by simpa using hj);rw [<-this];unfold Addr.add;by_cases h0:j=0
   . simp [h0]
   . simp [h0]
  have hb2:(xs.length+1) * bytes<=140737488355328:=Nat.le_trans (Nat.mul_le_mul (show xs.length+1<=100000001 by omega) hby) (by decide);refine wpList_append_own_at _ hgd s x t ho B e i z size bytes ht hi hz hsize hbytes hzs hsz v xs.length cells hs hown ⟨w.heap.size,0,none⟩ 1 1 cs hx (by omega) hnews h1 (by unfold maxLen;omega) hb2 (by simp;omega) ?_;intro v' w' hown' hgr _ hat;refine h v' w' (Zh.push hO g1 g2 g3 g4 g5 g6 g7 hf hfn hfr hcl hb g8 hown' hgr ?_ rfl) ⟨hgr.os,hgr.tape,hgr.output,hgr.size,λj hj=>hgr.block j (by simp;omega) (λe=>by have:=(g6 j e.symm).1;omega)⟩
  rcases hat with h | h
  . exact .inl h
  . refine .inr (λa ha=>?_)
    rw [h] at ha;exact Nat.le_of_eq (Option.some.inj ha)
end
theorem Zac {α:Type} {O:World->List Value->α->List Nat->Prop} (hO:ZbC O) {ops:Array Oper} {o:Oper} {a:Act} {K:Act->World->Prop} {Q:Exit->Act->World->Prop} {E:Prop} {w:World} (t e:TypeId) (size bytes:Nat) (z:Value) (hgd:o.guard=none) (s x:Operand)
 (ho:o.op=.call { callee:=.builtin .append,args:=#[s,x],argTypes:=#[t,t] }) (ht:Tryz.prog.underlying t=some (.slice e)) (hinfo:(Tryz.prog.info? e).map (λi=>(i.zero,i.size,i.bytes))=some (some z,size,bytes))
 (hzs:z.cells.size=size) (hsz:0<size) (hby:bytes<=1000) (B C:Nat) (v:Value) (xs:List α) (hs:a.eval s=v) (cs:List Value) (ab:Nat) (hx:a.eval x=.slice (some ⟨ab,0,none⟩) 1 1) (hab:ab=w.heap.size) (y:α) (f:List Nat)
 (hG:Zh e size O w B C v xs) (hf:O w cs y f) (hfn:f.Nodup) (hfr:∀ a ∈ f,C<=a/\a<w.heap.size) (hcl:cs.length=size) (h1:∀ u ∈ cs,u.oneCell'=true) (hl:xs.length<=100000000)
 (h:∀ g cap w',Zh e size O w' B w'.heap.size (.slice (some ⟨g,0,none⟩) (xs.length+1) cap) (xs ++ [y])->Below B (w.alloc (.cells cs.toArray e)) w'->K (a.put o.dst (.slice (some ⟨g,0,none⟩) (xs.length+1) cap)) w') :
 if Region.wanted o (yielded ops a.tmps)=true then Oper.wp Tryz.prog o a (w.alloc (.cells cs.toArray e)) K Q else E:=by
 subst hab
 cases hi:Tryz.prog.info? e with
 | none=>rw [hi] at hinfo;cases hinfo
 | some i =>
  rw [hi] at hinfo;simp only [Option.map_some,Option.some.injEq,Prod.mk.injEq] at hinfo;obtain ⟨hz,hsize,hbytes⟩:=hinfo;obtain ⟨cells,fps,g1,g2,g3,g4,g5,g6,g7,g8⟩:=hG;have hb:Bz w (w.alloc (.cells cs.toArray e)):=(sqN _ _);have hown:=Zbi (w':=w.alloc (.cells cs.toArray e)) g1 (λa ha=>hb.block a (by have:=g6 a ha;omega))
  have hnews:∀ j u,cs[j]?=some u->(w.alloc (.cells cs.toArray e)).cell? ((⟨w.heap.size,0,none⟩:Addr).add j)=some u:=λj u hj=>by
   have:=(Blk.new (w:=w) (cs:=cs.toArray) (t:=e)).cell j u (by simpa using hj);rw [<-this];unfold Addr.add;by_cases h0:j=0
   . simp [h0]
   . simp [h0]
  have hb2:(xs.length+1) * bytes<=140737488355328:=Nat.le_trans (Nat.mul_le_mul (show xs.length+1<=100000001 by omega) hby) (by decide);refine step_append_lies _ hgd s x t ho B e i z size bytes ht hi hz hsize hbytes hzs hsz v xs.length cells hs hown ⟨w.heap.size,0,none⟩ 1 1 cs hx (by omega) hnews h1 (by omega) (by unfold maxLen;omega) hb2 (by simp;omega) (w.heap.size+1) (by simp) ?_;intro g cap w' hown' hgr hat hlt;refine h g cap w' (Zh.push hO g1 g2 g3 g4 g5 g6 g7 hf hfn hfr hcl hb g8 hown' hgr ?_ rfl) ⟨hgr.os,hgr.tape,hgr.output,hgr.size,λj hj=>hgr.block j (by simp;omega) (λe=>by have:=(g6 j e.symm).1;omega)⟩
  rcases hat with h | h
  . exact .inl h.symm
  . refine .inr (λa ha=>?_)
    have:g=a:=(by simpa [Value.ownBlock] using ha);rw [<-this,h];simp
section
open Go.Proofs.Tryz
def ZbO (w:World) (pb:Nat) (lp:Option Addr) (ts:List Tok):Prop :=
 ∀ i t,ts[i]?=some t->∃ g,lp=some ⟨g,0,none⟩/\g<pb/\g<w.heap.size/\w.cell? ⟨g,i * 4,none⟩=some (.int .i64 t.kind)/\w.cell? ⟨g,i * 4+1,none⟩=some (.string (bs t.text))/\w.cell? ⟨g,i * 4+2,none⟩=some (.int .i64 t.n)/\w.cell? ⟨g,i * 4+3,none⟩=some (.int .i64 t.line)
theorem ZbO.off {w w':World} {pb:Nat} {lp:Option Addr} {ts:List Tok} (h:ZbO w pb lp ts) (ho:Off [pb] w w'):ZbO w' pb lp ts:=λi t hi=>by
 obtain ⟨g,h1,h2,h3,h4,h5,h6,h7⟩:=h i t hi;have hb:=ho.block g h3 (by simp;omega);exact ⟨g,h1,h2,Nat.lt_of_lt_of_le h3 ho.size,(sqK hb).trans h4,(sqK hb).trans h5,(sqK hb).trans h6,(sqK hb).trans h7⟩
structure Zl (w:World) (pb:Nat) (lp:Option Addr) (cap:Nat) (ts:List Tok) (st:St):Prop where
 blk:Blk w pb #[.slice lp ts.length cap,.int .i64 (st.1:Nat),.bool st.2] 36
 words:ZbO w pb lp ts
theorem Zl.next {w w':World} {pb:Nat} {lp:Option Addr} {cap:Nat} {ts:List Tok} {st:St} (h:Zl w pb lp cap ts st) (hb:Bz w w'):Zl w' pb lp cap ts st :=
 ⟨h.blk.next hb,h.words.off (Off.of_below hb)⟩
theorem Zl.below {w w':World} {pb N:Nat} {lp:Option Addr} {cap:Nat} {ts:List Tok} {st:St} (h:Zl w pb lp cap ts st) (hb:Below N w w') (hN:pb<N):Zl w' pb lp cap ts st :=
 ⟨h.blk.below hb hN,λi t hi=>by
  obtain ⟨g,h1,h2,h3,h4,h5,h6,h7⟩:=h.words i t hi;have hb:=hb.block g (by omega)
  exact ⟨g,h1,h2,by rename_i hb0;exact Nat.lt_of_lt_of_le h3 hb0.size,(sqK hb).trans h4,(sqK hb).trans h5,(sqK hb).trans h6,(sqK hb).trans h7⟩⟩
theorem Zl.lt {w:World} {pb:Nat} {lp:Option Addr} {cap:Nat} {ts:List Tok} {st:St} (h:Zl w pb lp cap ts st):pb<w.heap.size:=h.blk.lt
structure TsOk (ts:List Tok):Prop where
 len:ts.length<=4000
 text:∀ t ∈ ts,t.text.length<=4000
 num:∀ t ∈ ts,okI t.n
theorem ZjJ (s:ByteArray):bs s.data.toList=s:=by
 obtain ⟨d⟩:=s;simp [bs]
theorem ZgA (l:List UInt8) (s:ByteArray):((bs l).toList == s.toList)=(l == s.data.toList):=by
 rw [ByteArray.toList_eq,ByteArray.toList_eq];simp [bs]
theorem ZbY (w:World) (pb:Nat) (lp:Option Addr) (cap:Nat) (ts:List Tok) (st:St) (s:ByteArray) (h:Zl w pb lp cap ts st) (hl:ts.length<=4000) :
 Calls prog 28 #[.pointer (some ⟨pb,0,none⟩),.string s] w λe w'=>e=.returned (.bool (isS ts st s.data.toList))/\Bz w w':=by
 obtain ⟨i,b⟩:=st;have x0:w.cell? ⟨pb,0,none⟩=some (.slice lp ts.length cap):=h.blk.cell 0 _ rfl;have x1:w.cell? ⟨pb,1,none⟩=some (.int .i64 (i:Nat)):=h.blk.cell 1 _ rfl;have x2:w.cell? ⟨pb,2,none⟩=some (.bool b):=h.blk.cell 2 _ rfl;have HW:=h.words
 cases b with
 | true =>
  have HE:Hid (isS ts (i,true) s.data.toList=false):=rfl;go_enter func28,ntmps28;go_wp2
  go_quiet (fail)
  go_wp2;go_ret;exact ⟨by rw [HE.out];rfl,⟨rfl,rfl,rfl,Nat.le_refl _,λ_ _=>rfl⟩⟩
 | false =>
  by_cases hlt:i<ts.length
  . obtain ⟨t,ht⟩:∃ t,ts[i]?=some t:=⟨ts[i],List.getElem?_eq_getElem hlt⟩
    obtain ⟨g,rfl,hg1,hg2,y0,y1,y2,y3⟩:=HW i t ht;have hi1:(i:Int)<(ts.length:Int):=(by omega);have hi0:=sqI i;have hi2:(i:Int)<=4000:=(by omega)
    have HE:Hid (isS ts (i,false) s.data.toList=(decide (t.kind=3) && ((bs t.text).toList == s.toList))):=by
     show _=_;unfold isS;rw [ht,ZgA]
     rfl
    generalize isS ts (i,false) s.data.toList=R at *;clear HW h;by_cases hk:t.kind=3
    . rw [hk] at y0 HE
      by_cases hx:bs t.text=s
      . rw [hx] at y1 HE
        go_enter func28,ntmps28;go_wp2
        go_quiet (fail)
        go_wp2;go_ret;exact ⟨by rw [HE.out];simp,⟨rfl,rfl,rfl,Nat.le_refl _,λ_ _=>rfl⟩⟩
      . have q1:=Zgx hx
        have q2:=ZfV hx;go_enter func28,ntmps28;go_wp2
        go_quiet (fail)
        go_wp2;go_ret;exact ⟨by rw [HE.out,q2];rfl,⟨rfl,rfl,rfl,Nat.le_refl _,λ_ _=>rfl⟩⟩
    . have hkb:(t.kind == 3)=false:=by simpa using hk
      have HE2:Hid (R=false):=(by show _=_;rw [HE.out];simp [hk]);clear HE;go_enter func28,ntmps28;go_wp2
      go_quiet (fail)
      go_wp2;go_ret;exact ⟨by rw [HE2.out];rfl,⟨rfl,rfl,rfl,Nat.le_refl _,λ_ _=>rfl⟩⟩
  . have hge:¬ (i:Int)<(ts.length:Int):=by omega
    have HE:Hid (isS ts (i,false) s.data.toList=false):=by
     show _=_;unfold isS;rw [List.getElem?_eq_none (by omega)]
     rfl
    go_enter func28,ntmps28;go_wp2
    go_quiet (fail)
    go_wp2;go_ret;exact ⟨by rw [HE.out];rfl,⟨rfl,rfl,rfl,Nat.le_refl _,λ_ _=>rfl⟩⟩
theorem ZN (w:World) (pb:Nat) (lp:Option Addr) (cap:Nat) (ts:List Tok) (st:St) (k:Int) (h:Zl w pb lp cap ts st) (hl:ts.length<=4000) :
 Calls prog 57 #[.pointer (some ⟨pb,0,none⟩),.int .i64 k] w λe w'=>e=.returned (.bool (isK ts st k))/\Bz w w':=by
 obtain ⟨i,b⟩:=st;have x0:w.cell? ⟨pb,0,none⟩=some (.slice lp ts.length cap):=h.blk.cell 0 _ rfl;have x1:w.cell? ⟨pb,1,none⟩=some (.int .i64 (i:Nat)):=h.blk.cell 1 _ rfl;have x2:w.cell? ⟨pb,2,none⟩=some (.bool b):=h.blk.cell 2 _ rfl;have HW:=h.words
 cases b with
 | true =>
  have HE:Hid (isK ts (i,true) k=false):=rfl;go_enter func57,ntmps57;go_wp2
  go_quiet (fail)
  go_wp2;go_ret;exact ⟨by rw [HE.out];rfl,⟨rfl,rfl,rfl,Nat.le_refl _,λ_ _=>rfl⟩⟩
 | false =>
  by_cases hlt:i<ts.length
  . obtain ⟨t,ht⟩:∃ t,ts[i]?=some t:=⟨ts[i],List.getElem?_eq_getElem hlt⟩
    obtain ⟨g,rfl,hg1,hg2,y0,y1,y2,y3⟩:=HW i t ht;have hi1:(i:Int)<(ts.length:Int):=(by omega);have hi0:=sqI i;have hi2:(i:Int)<=4000:=(by omega)
    have HE:Hid (isK ts (i,false) k=(t.kind == k)):=by
     show _=_;unfold isK;rw [ht];simp [Bool.beq_eq_decide_eq]
    generalize isK ts (i,false) k=R at *;clear HW h;go_enter func57,ntmps57;go_wp2
    go_quiet (fail)
    go_wp2;go_ret;exact ⟨by rw [HE.out];rfl,⟨rfl,rfl,rfl,Nat.le_refl _,λ_ _=>rfl⟩⟩
  . have hge:¬ (i:Int)<(ts.length:Int):=by omega
    have HE:Hid (isK ts (i,false) k=false):=by
     show _=_;unfold isK;rw [List.getElem?_eq_none (by omega)]
     rfl
    go_enter func57,ntmps57;go_wp2
    go_quiet (fail)
    go_wp2;go_ret;exact ⟨by rw [HE.out];rfl,⟨rfl,rfl,rfl,Nat.le_refl _,λ_ _=>rfl⟩⟩
theorem Off.set1 {w:World} {pb j:Nat} {v:Value}:Off [pb] w (w.setCell ⟨pb,j,none⟩ v) :=
 ⟨rfl,rfl,rfl,by simp [World.setCell],λa _ hf=>Below.heap_setCell _ _ _ _ (by simpa using hf)⟩
theorem Zl.setI {w:World} {pb:Nat} {lp:Option Addr} {cap:Nat} {ts:List Tok} {st:St} (h:Zl w pb lp cap ts st) (j:Nat) (z:Int) (hz:z=j):Zl (w.setCell ⟨pb,1,none⟩ (.int .i64 z)) pb lp cap ts (j,st.2):=by
 subst hz;exact ⟨h.blk.same rfl,h.words.off Off.set1⟩
theorem Zl.setB {w:World} {pb:Nat} {lp:Option Addr} {cap:Nat} {ts:List Tok} {st:St} (h:Zl w pb lp cap ts st) (b:Bool):Zl (w.setCell ⟨pb,2,none⟩ (.bool b)) pb lp cap ts (st.1,b) :=
 ⟨h.blk.same rfl,h.words.off Off.set1⟩
theorem Zs (w:World) (pb:Nat) (lp:Option Addr) (cap:Nat) (ts:List Tok) (st:St) (s:ByteArray) (h:Zl w pb lp cap ts st) (hl:ts.length<=4000) :
 Calls prog 30 #[.pointer (some ⟨pb,0,none⟩),.string s] w λe w'=>e=.returned (.bool (isS ts st s.data.toList))/\Zl w' pb lp cap ts (if isS ts st s.data.toList then adv st else st)/\Off [pb] w w':=by
 cases hs:isS ts st s.data.toList with
 | false =>
  go_enter func30,ntmps30;go_wp2_with fail;refine (ZbY _ pb lp cap ts st s h hl).mono ?_;rintro e w1 ⟨rfl,hb⟩;rw [hs];have P1:=h.next hb;go_wp2;go_ret;exact ⟨rfl,P1,Off.of_below hb⟩
 | true =>
  obtain ⟨hi,hb0⟩:=ZM hs;go_enter func30,ntmps30;go_wp2_with fail;refine (ZbY _ pb lp cap ts st s h hl).mono ?_;rintro e w1 ⟨rfl,hb⟩;rw [hs];have P1:=h.next hb;have HP:=hid P1;have HO:Hid (Off [pb] w w1):=Off.of_below hb;have x1:w1.cell? ⟨pb,1,none⟩=some (.int .i64 (st.1:Nat)):=P1.blk.cell 1 _ rfl;have f1:=P1.blk.frozen 1;have hi2:(st.1:Int)<4000:=(by omega);clear P1 hb h;go_wp2;go_ret;exact ⟨rfl,HP.out.setI (st.1+1) _ (by go_num),HO.out.trans Off.set1⟩
theorem ZL (w:World) (pb:Nat) (lp:Option Addr) (cap:Nat) (ts:List Tok) (st:St) (s:ByteArray) (h:Zl w pb lp cap ts st) (hl:ts.length<=4000) :
 Calls prog 25 #[.pointer (some ⟨pb,0,none⟩),.string s] w λe w'=>e=.returned (.tuple #[])/\Zl w' pb lp cap ts (takeS ts st s.data.toList)/\Off [pb] w w':=by
 cases hs:isS ts st s.data.toList with
 | false =>
  have HT:Hid (takeS ts st s.data.toList=(st.1,true)):=(by show _=_;unfold takeS;rw [hs];rfl);go_enter func25,ntmps25;go_wp2_with fail;refine (Zs _ pb lp cap ts st s h hl).mono ?_;rintro e w1 ⟨rfl,hp,ho⟩;rw [hs] at hp ⊢;have HP:=hid hp;have HO:=hid ho;have x2:w1.cell? ⟨pb,2,none⟩=some (.bool st.2):=HP.out.blk.cell 2 _ rfl;have f2:=HP.out.blk.frozen 2;clear hp ho h;go_wp2;go_end0;exact ⟨rfl,by rw [HT.out];exact HP.out.setB true,HO.out.trans Off.set1⟩
 | true =>
  have HT:Hid (takeS ts st s.data.toList=adv st):=(by show _=_;unfold takeS;rw [hs];rfl);go_enter func25,ntmps25;go_wp2_with fail;refine (Zs _ pb lp cap ts st s h hl).mono ?_;rintro e w1 ⟨rfl,hp,ho⟩;rw [hs] at hp ⊢;have HP:=hid hp;have HO:=hid ho;clear hp ho h;go_wp2;go_end0;exact ⟨rfl,by rw [HT.out];exact HP.out,HO.out⟩
theorem ZaW (w:World) (pb:Nat) (lp:Option Addr) (cap:Nat) (ts:List Tok) (st:St) (h:Zl w pb lp cap ts st) (hl:ts.length<=4000) :
 Calls prog 27 #[.pointer (some ⟨pb,0,none⟩)] w λe w'=>e=.returned (.string (bs (atomP ts st).1))/\Zl w' pb lp cap ts (atomP ts st).2/\Off [pb] w w':=by
 cases hs:isK ts st 0 with
 | false =>
  have HT:Hid (atomP ts st=([],(st.1,true))):=(by show _=_;unfold atomP;rw [hs];rfl);go_enter func27,ntmps27;go_wp2_with fail;refine (ZN _ pb lp cap ts st 0 h hl).mono ?_;rintro e w1 ⟨rfl,hb⟩;rw [hs];have HP:=hid (h.next hb);have HO:Hid (Off [pb] w w1):=Off.of_below hb;have x2:w1.cell? ⟨pb,2,none⟩=some (.bool st.2):=HP.out.blk.cell 2 _ rfl;have f2:=HP.out.blk.frozen 2;clear hb h;go_wp2;go_ret;exact ⟨by rw [HT.out];rfl,by rw [HT.out];exact HP.out.setB true,HO.out.trans Off.set1⟩
 | true =>
  obtain ⟨hi,hb0⟩:=Zbs hs;obtain ⟨t,ht⟩:∃ t,ts[st.1]?=some t:=⟨ts[st.1],List.getElem?_eq_getElem hi⟩;have HT:Hid (atomP ts st=(t.text,adv st)):=(by show _=_;unfold atomP ZaP;rw [hs,ht];rfl);go_enter func27,ntmps27;go_wp2_with fail;refine (ZN _ pb lp cap ts st 0 h hl).mono ?_;rintro e w1 ⟨rfl,hb⟩;rw [hs];have HP:=hid (h.next hb);have HO:Hid (Off [pb] w w1):=Off.of_below hb;have x1:w1.cell? ⟨pb,1,none⟩=some (.int .i64 (st.1:Nat)):=HP.out.blk.cell 1 _ rfl;have f1:=HP.out.blk.frozen 1;have HP2:Hid (Zl (w1.setCell ⟨pb,1,none⟩ (.int .i64 ((st.1:Int)+1))) pb lp cap ts (adv st)):=HP.out.setI (st.1+1) _ (by omega);have hi2:(st.1:Int)<4000:=(by omega);have hi3:(st.1:Int)<(ts.length:Int):=(by omega);have hi0:(0:Int)<=(st.1:Int):=(by omega);obtain ⟨g,rfl,hg1,hg2,y0,y1,y2,y3⟩:=HP2.out.words st.1 t ht;have z0:(w1.setCell ⟨pb,1,none⟩ (.int .i64 ((st.1:Int)+1))).cell? ⟨pb,0,none⟩=some (.slice (some ⟨g,0,none⟩) ts.length cap):=HP2.out.blk.cell 0 _ rfl
  have z1:(w1.setCell ⟨pb,1,none⟩ (.int .i64 ((st.1:Int)+1))).cell? ⟨pb,1,none⟩=some (.int .i64 ((st.1:Int)+1)):=by
   have:=HP2.out.blk.cell 1 _ rfl
   simpa [adv] using this
  clear hb h;go_wp2_with fail
  go_quiet (fail)
  go_wp2;go_ret;exact ⟨by rw [HT.out];rfl,by rw [HT.out];exact ⟨HP2.out.blk,HP2.out.words⟩,(HO.out.trans Off.set1).trans ⟨rfl,rfl,rfl,Nat.le_refl _,λ_ _ _=>rfl⟩⟩
theorem ZdH (w:World) (pb:Nat) (lp:Option Addr) (cap:Nat) (ts:List Tok) (st:St) (h:Zl w pb lp cap ts st) (hl:ts.length<=4000) :
 Calls prog 29 #[.pointer (some ⟨pb,0,none⟩)] w λe w'=>e=.returned (.int .i64 (numP ts st).1)/\Zl w' pb lp cap ts (numP ts st).2/\Off [pb] w w':=by
 cases hs:isK ts st 2 with
 | false =>
  have HT:Hid (numP ts st=(0,(st.1,true))):=(by show _=_;unfold numP;rw [hs];rfl);go_enter func29,ntmps29;go_wp2_with fail;refine (ZN _ pb lp cap ts st 2 h hl).mono ?_;rintro e w1 ⟨rfl,hb⟩;rw [hs];have HP:=hid (h.next hb);have HO:Hid (Off [pb] w w1):=Off.of_below hb;have x2:w1.cell? ⟨pb,2,none⟩=some (.bool st.2):=HP.out.blk.cell 2 _ rfl;have f2:=HP.out.blk.frozen 2;clear hb h;go_wp2;go_ret;exact ⟨by rw [HT.out];rfl,by rw [HT.out];exact HP.out.setB true,HO.out.trans Off.set1⟩
 | true =>
  obtain ⟨hi,hb0⟩:=Zbs hs;obtain ⟨t,ht⟩:∃ t,ts[st.1]?=some t:=⟨ts[st.1],List.getElem?_eq_getElem hi⟩;have HT:Hid (numP ts st=(t.n,adv st)):=(by show _=_;unfold numP ZcT;rw [hs,ht];rfl);go_enter func29,ntmps29;go_wp2_with fail;refine (ZN _ pb lp cap ts st 2 h hl).mono ?_;rintro e w1 ⟨rfl,hb⟩;rw [hs];have HP:=hid (h.next hb);have HO:Hid (Off [pb] w w1):=Off.of_below hb;have x1:w1.cell? ⟨pb,1,none⟩=some (.int .i64 (st.1:Nat)):=HP.out.blk.cell 1 _ rfl;have f1:=HP.out.blk.frozen 1;have HP2:Hid (Zl (w1.setCell ⟨pb,1,none⟩ (.int .i64 ((st.1:Int)+1))) pb lp cap ts (adv st)):=HP.out.setI (st.1+1) _ (by omega);have hi2:(st.1:Int)<4000:=(by omega);have hi3:(st.1:Int)<(ts.length:Int):=(by omega);have hi0:(0:Int)<=(st.1:Int):=(by omega);obtain ⟨g,rfl,hg1,hg2,y0,y1,y2,y3⟩:=HP2.out.words st.1 t ht;have z0:(w1.setCell ⟨pb,1,none⟩ (.int .i64 ((st.1:Int)+1))).cell? ⟨pb,0,none⟩=some (.slice (some ⟨g,0,none⟩) ts.length cap):=HP2.out.blk.cell 0 _ rfl
  have z1:(w1.setCell ⟨pb,1,none⟩ (.int .i64 ((st.1:Int)+1))).cell? ⟨pb,1,none⟩=some (.int .i64 ((st.1:Int)+1)):=by
   have:=HP2.out.blk.cell 1 _ rfl
   simpa [adv] using this
  clear hb h;go_wp2_with fail
  go_quiet (fail)
  go_wp2;go_ret;exact ⟨by rw [HT.out];rfl,by rw [HT.out];exact ⟨HP2.out.blk,HP2.out.words⟩,(HO.out.trans Off.set1).trans ⟨rfl,rfl,rfl,Nat.le_refl _,λ_ _ _=>rfl⟩⟩
theorem Zl.same {w w':World} {pb:Nat} {lp:Option Addr} {cap:Nat} {ts:List Tok} {st:St} (h:Zl w pb lp cap ts st) (hs:Ze All w w'):Zl w' pb lp cap ts st :=
 ⟨h.blk.same_on hs,λi t hi=>by
  obtain ⟨g,h1,h2,h3,h4,h5,h6,h7⟩:=h.words i t hi;have hb:=hs.2 g trivial h3
  exact ⟨g,h1,h2,Nat.lt_of_lt_of_le h3 hs.1,(sqK hb).trans h4,(sqK hb).trans h5,(sqK hb).trans h6,(sqK hb).trans h7⟩⟩
def Quiet (w w':World):Prop:=Ze All w w'/\Bz w w'
theorem Quiet.start (w:World):Quiet w w.drew:=⟨sqS,⟨rfl,rfl,rfl,Nat.le_refl _,λ_ _=>rfl⟩⟩
theorem Quiet.go {w w1 w2:World} (h:Quiet w w1) (hb:Bz w1 w2):Quiet w w2:=⟨h.1.trans (sqO hb),h.2.trans (hb.mono h.2.size)⟩
theorem Quiet.cell {w:World} {a:Addr} {v:Value} (h:w.cell? a=some v) (m:Wd (Quiet w)):m.val.cell? a=some v:=by
 have hl:a.block<w.heap.size:=by
  unfold World.cell? at h
  split at h
  . rename_i heq;exact (Array.getElem?_eq_some_iff.1 heq).1
  . cases h
 exact (sqK (m.ok.1.2 a.block trivial hl)).trans h
theorem Zdu (w:World) (pb:Nat) (lp:Option Addr) (cap:Nat) (ts:List Tok) (st:St) (s:ByteArray) (h:Zl w pb lp cap ts st) (hl:ts.length<=4000) :
 Calls prog 26 #[.pointer (some ⟨pb,0,none⟩),.string s] w λe w'=>e=.returned (.tuple #[])/\Zl w' pb lp cap ts (theP ts st s.data.toList)/\Off [pb] w w':=by
 have HK:∀ w',Zl w' pb lp cap ts st->Calls prog 57 #[.pointer (some ⟨pb,0,none⟩),.int .i64 0] w' λe w''=>e=.returned (.bool (isK ts st 0))/\Below w'.heap.size w' w'':=λw' h'=>ZN w' pb lp cap ts st 0 h' hl;have hCne:Nonempty (Wd (Quiet w)):=⟨⟨_,Quiet.start w⟩⟩;have HPa:=hid h
 cases hs:isK ts st 0 with
 | false =>
  rw [hs] at HK;have HT:Hid (theP ts st s.data.toList=(st.1,true)):=(by show _=_;unfold theP;rw [hs];rfl);go_enter func26,ntmps26;go_wp2_with fail;refine Zw (Quiet w) (by kernel_rfl) (by kernel_rfl) (Quiet.start w) ?_
  repeat (go_big_quiet_step (first | (rename_i m';go_at_call 57;refine (HK _ (HPa.out.same m'.ok.1)).mono ?_;rintro e w1 ⟨rfl,hb1⟩;exact ⟨rfl,⟨⟨w1,m'.ok.go hb1⟩,rfl⟩⟩)))
  refine wpQuiet_nil ?_;rintro _ ⟨mq,rfl⟩;have HP:=hid (HPa.out.same mq.ok.1);have HO:Hid (Off [pb] w mq.val):=Off.of_below mq.ok.2;generalize mq.val=w1 at HP HO ⊢;have x2:w1.cell? ⟨pb,2,none⟩=some (.bool st.2):=HP.out.blk.cell 2 _ rfl;have f2:=HP.out.blk.frozen 2;go_wp2_with fail;refine bodyPost_ret (results_none rfl _ _ _) rfl ?_;exact ⟨rfl,by rw [HT.out];exact HP.out.setB true,HO.out.trans Off.set1⟩
 | true =>
  rw [hs] at HK;obtain ⟨hi,hb0⟩:=Zbs hs;obtain ⟨t,ht⟩:∃ t,ts[st.1]?=some t:=⟨ts[st.1],List.getElem?_eq_getElem hi⟩;have HT:Hid (theP ts st s.data.toList=if ((bs t.text).toList == s.toList) then adv st else (st.1,true)):=(by show _=_;unfold theP ZaP;rw [hs,ht,ZgA];rfl);obtain ⟨g,rfl,hg1,hg2,y0,y1,y2,y3⟩:=h.words st.1 t ht;have x0:∀ m:Wd (Quiet w),m.val.cell? ⟨pb,0,none⟩=some (.slice (some ⟨g,0,none⟩) ts.length cap):=Quiet.cell (h.blk.cell 0 _ rfl);have x1:∀ m:Wd (Quiet w),m.val.cell? ⟨pb,1,none⟩=some (.int .i64 (st.1:Nat)):=Quiet.cell (h.blk.cell 1 _ rfl);have z1:∀ m:Wd (Quiet w),m.val.cell? ⟨g,st.1 * 4+1,none⟩=some (.string (bs t.text)):=Quiet.cell y1;have hi2:(st.1:Int)<4000:=(by omega);have hi3:(st.1:Int)<(ts.length:Int):=(by omega);have hi0:(0:Int)<=(st.1:Int):=(by omega);clear y0 y1 y2 y3 h;by_cases hx:bs t.text=s
  . have hq:(((bs t.text).toList == s.toList))=true:=by rw [hx];simp
    rw [hq] at HT;rw [hx] at z1;go_enter func26,ntmps26;go_wp2_with fail;refine Zw (Quiet w) (by kernel_rfl) (by kernel_rfl) (Quiet.start w) ?_
    repeat (go_big_quiet_step (first | (rename_i m';go_at_call 57;refine (HK _ (HPa.out.same m'.ok.1)).mono ?_;rintro e w1 ⟨rfl,hb1⟩;exact ⟨rfl,⟨⟨w1,m'.ok.go hb1⟩,rfl⟩⟩)))
    refine wpQuiet_nil ?_;rintro _ ⟨mq,rfl⟩;have HP:=hid (HPa.out.same mq.ok.1);have HO:Hid (Off [pb] w mq.val):=Off.of_below mq.ok.2;generalize mq.val=w1 at HP HO ⊢;have p1:w1.cell? ⟨pb,1,none⟩=some (.int .i64 (st.1:Nat)):=HP.out.blk.cell 1 _ rfl;have f1:=HP.out.blk.frozen 1;clear x0 x1 z1;go_wp2;go_end0;exact ⟨rfl,by rw [HT.out];exact HP.out.setI (st.1+1) _ (by go_num),HO.out.trans Off.set1⟩
  . have q1:=Zgx hx
    have q2:=ZfV hx;rw [q2] at HT;go_enter func26,ntmps26;go_wp2_with fail;refine Zw (Quiet w) (by kernel_rfl) (by kernel_rfl) (Quiet.start w) ?_
    repeat (go_big_quiet_step (first | (rename_i m';go_at_call 57;refine (HK _ (HPa.out.same m'.ok.1)).mono ?_;rintro e w1 ⟨rfl,hb1⟩;exact ⟨rfl,⟨⟨w1,m'.ok.go hb1⟩,rfl⟩⟩)))
    refine wpQuiet_nil ?_;rintro _ ⟨mq,rfl⟩;have HP:=hid (HPa.out.same mq.ok.1);have HO:Hid (Off [pb] w mq.val):=Off.of_below mq.ok.2;generalize mq.val=w1 at HP HO ⊢;have p2:w1.cell? ⟨pb,2,none⟩=some (.bool st.2):=HP.out.blk.cell 2 _ rfl;have f2:=HP.out.blk.frozen 2;clear x0 x1 z1;go_wp2_with fail;refine bodyPost_ret (results_none rfl _ _ _) rfl ?_;exact ⟨rfl,by rw [HT.out];exact HP.out.setB true,HO.out.trans Off.set1⟩
end
theorem Zy.imp {α:Type} {w:World} {e:TypeId} {c:Nat} {R R':List Value->α->List Nat->Prop} {v:Value} {xs:List α} {fp:List Nat} (h:Zy w e c R v xs fp) (hR:∀ cs x f,x ∈ xs->R cs x f->R' cs x f):Zy w e c R' v xs fp :=
 h.keep (λa _=>rfl) (λcs x f hx _ h=>hR cs x f hx h)
theorem OEx.deeper {w:World}:∀ {d d':Nat} {cs:List Value} {x:Ex} {fp:List Nat},d<=d'->OEx w d cs x fp->OEx w d' cs x fp
 | 0,_,_,_,_,_,h=>h.elim
 | d+1,0,_,_,_,hd,_=>by omega
 | d+1,d'+1,cs,x,fp,hd,h=>by
  obtain ⟨kv,cv,f1,f2,rfl,rfl,h1,h2,h3,h4,hr,hc⟩:=h;refine ⟨kv,cv,f1,f2,rfl,rfl,h1,h2,h3,h4,hr.imp (λcs x f _ h=>h.deeper (by omega)),hc.imp (λcs x f _ h=>?_)⟩;exact h.keep' (λa _=>rfl) (λcs x g _ h=>h.deeper (by omega))
def OXT (w:World) (cs:List Value) (x:Ex) (fp:List Nat):Prop:=∃ D,OEx w D cs x fp
theorem OXT.keeps:ZbC OXT:=λw w' cs x fp ⟨D,h⟩ hk=>⟨D,h.keep hk⟩
theorem OXT.lt {w:World} {cs:List Value} {x:Ex} {fp:List Nat} (h:OXT w cs x fp):∀ a ∈ fp,a<w.heap.size:=by
 obtain ⟨D,h⟩:=h;exact h.lt
theorem OXT.shape {w:World} {cs:List Value} {x:Ex} {fp:List Nat} (h:OXT w cs x fp):∃ sk sn st se p1 n1 q1 p2 n2 q2,cs = [.int .i64 sk,.int .i64 sn,.string st,.string se,.slice p1 n1 q1,.slice p2 n2 q2]:=by
 obtain ⟨D,h⟩:=h;exact h.shape
theorem OXT.one {w:World} {v:Value} {xs:List Ex} {fp:List Nat} (h:Zy w 108 6 (OXT w) v xs fp):∃ D,Zy w 108 6 (OEx w D) v xs fp:=by
 rcases h with h | ⟨hne,cells,g,cap,fps,ho,hv,hl,hfp,hat⟩
 . exact ⟨0,.inl h⟩
 . have key:∀ n,n<=xs.length->∃ D,∀ (i:Nat) x f,i<n->xs[i]?=some x->fps[i]?=some f->∃ cs:List Value,cs.length=6/\(∀ j,j<6->cells[i * 6+j]?=cs[j]?)/\OEx w D cs x f:=by
    intro n
    induction n with
    | zero=>intro _;exact ⟨0,λi x f hi=>by omega⟩
    | succ n ih =>
     intro hn;obtain ⟨D1,h1⟩:=ih (by omega);obtain ⟨x,hx⟩:∃ x,xs[n]?=some x:=⟨xs[n],List.getElem?_eq_getElem (by omega)⟩;obtain ⟨f,hf⟩:∃ f,fps[n]?=some f:=⟨fps[n]'(by omega),List.getElem?_eq_getElem _⟩;obtain ⟨cs,g1,g2,D2,g3⟩:=hat n x f hx hf;refine ⟨D1+D2,λi y f' hi hy hf'=>?_⟩;by_cases hin:i<n
     . obtain ⟨cs',k1,k2,k3⟩:=h1 i y f' hin hy hf'
       exact ⟨cs',k1,k2,k3.deeper (by omega)⟩
     . obtain rfl:i=n:=by omega
       obtain rfl:=Option.some.inj (hx.symm.trans hy);obtain rfl:=Option.some.inj (hf.symm.trans hf');exact ⟨cs,g1,g2,g3.deeper (by omega)⟩
   obtain ⟨D,hD⟩:=key xs.length (sqR _);exact ⟨D,.inr ⟨hne,cells,g,cap,fps,ho,hv,hl,hfp,λi x f hi hf=>hD i x f (List.getElem?_eq_some_iff.1 hi).1 hi hf⟩⟩
def OCT (w:World) (cs:List Value) (c:Cl) (fp:List Nat):Prop:=∃ D,OCl w (OEx w D) cs c fp
theorem OCT.keeps:ZbC OCT:=λw w' cs x fp ⟨D,h⟩ hk=>⟨D,OCls.keep h hk⟩
theorem OCls.deeper {w:World} {d d':Nat} {cs:List Value} {c:Cl} {fp:List Nat} (h:OCl w (OEx w d) cs c fp) (hd:d<=d'):OCl w (OEx w d') cs c fp :=
 h.keep' (λa _=>rfl) (λcs x g _ h=>h.deeper hd)
theorem OCT.one {w:World} {v:Value} {xs:List Cl} {fp:List Nat} (h:Zy w 64 2 (OCT w) v xs fp):∃ D,Zy w 64 2 (OCl w (OEx w D)) v xs fp:=by
 rcases h with h | ⟨hne,cells,g,cap,fps,ho,hv,hl,hfp,hat⟩
 . exact ⟨0,.inl h⟩
 . have key:∀ n,n<=xs.length->∃ D,∀ (i:Nat) x f,i<n->xs[i]?=some x->fps[i]?=some f->∃ cs:List Value,cs.length=2/\(∀ j,j<2->cells[i * 2+j]?=cs[j]?)/\OCl w (OEx w D) cs x f:=by
    intro n
    induction n with
    | zero=>intro _;exact ⟨0,λi x f hi=>by omega⟩
    | succ n ih =>
     intro hn;obtain ⟨D1,h1⟩:=ih (by omega);obtain ⟨x,hx⟩:∃ x,xs[n]?=some x:=⟨xs[n],List.getElem?_eq_getElem (by omega)⟩;obtain ⟨f,hf⟩:∃ f,fps[n]?=some f:=⟨fps[n]'(by omega),List.getElem?_eq_getElem _⟩;obtain ⟨cs,g1,g2,D2,g3⟩:=hat n x f hx hf;refine ⟨D1+D2,λi y f' hi hy hf'=>?_⟩;by_cases hin:i<n
     . obtain ⟨cs',k1,k2,k3⟩:=h1 i y f' hin hy hf'
       exact ⟨cs',k1,k2,OCls.deeper k3 (by omega)⟩
     . obtain rfl:i=n:=by omega
       obtain rfl:=Option.some.inj (hx.symm.trans hy);obtain rfl:=Option.some.inj (hf.symm.trans hf');exact ⟨cs,g1,g2,OCls.deeper g3 (by omega)⟩
   obtain ⟨D,hD⟩:=key xs.length (sqR _);exact ⟨D,.inr ⟨hne,cells,g,cap,fps,ho,hv,hl,hfp,λi x f hi hf=>hD i x f (List.getElem?_eq_some_iff.1 hi).1 hi hf⟩⟩
theorem OXT.mk {w:World} {k n:Int} {t m:ByteArray} {kv cv:Value} {ks:List Ex} {cl:List Cl} {f1 f2:List Nat} (hk:okI k) (hn:okI n) (ht:okS t) (hm:okS m) (h1:Zy w 108 6 (OXT w) kv ks f1) (h2:Zy w 64 2 (OCT w) cv cl f2) :
 OXT w [.int .i64 k,.int .i64 n,.string t,.string m,kv,cv] (.mk k n t m ks cl) (f1 ++ f2):=by
 obtain ⟨D1,h1⟩:=OXT.one h1;obtain ⟨D2,h2⟩:=OCT.one h2;exact ⟨D1+D2+1,kv,cv,f1,f2,rfl,rfl,hk,hn,ht,hm,h1.imp (λcs x f _ h=>h.deeper (by omega)),h2.imp (λcs x f _ h=>OCls.deeper h (by omega))⟩
theorem Zy.empty {α:Type} {w:World} {e:TypeId} {c:Nat} {R:List Value->α->List Nat->Prop}:Zy w e c R (.slice none 0 0) [] []:=.inl ⟨rfl,rfl,none,0,rfl,Nat.zero_le _⟩
theorem OXT.leaf {w:World} {k n:Int} {t m:ByteArray} (hk:okI k) (hn:okI n) (ht:okS t) (hm:okS m):OXT w [.int .i64 k,.int .i64 n,.string t,.string m,.slice none 0 0,.slice none 0 0] (.mk k n t m [] []) [] :=
 OXT.mk (f1:=[]) (f2:=[]) hk hn ht hm Zy.empty Zy.empty
theorem OXT.tree {w:World} {S:Nat->Prop} {cs:List Value} {x:Ex} {fp:List Nat} (h:OXT w cs x fp) (hS:∀ a ∈ fp,S a):∃ D,HEx w S D cs x:=by
 obtain ⟨D,h⟩:=h;exact ⟨D,h.tree hS⟩
theorem Zi {n:Int} (h0:-1000<=n) (h1:n<=1000):okI n:=by
 show (Lit.int .i64 n).wf=true;simp only [Lit.wf,Bool.and_eq_true,decide_eq_true_eq];exact ⟨Int.le_trans (by decide) h0,Int.le_trans h1 (by decide)⟩
theorem Zy.two {w:World} {a0 a1 a2 a3 a4 a5 b0 b1 b2 b3 b4 b5:Value} {x y:Ex} {f1 f2:List Nat} (h1:OXT w [a0,a1,a2,a3,a4,a5] x f1) (h2:OXT w [b0,b1,b2,b3,b4,b5] y f2) :
 Zy (w.alloc (.cells #[a0,a1,a2,a3,a4,a5,b0,b1,b2,b3,b4,b5] 108)) 108 6 (OXT (w.alloc (.cells #[a0,a1,a2,a3,a4,a5,b0,b1,b2,b3,b4,b5] 108))) (.slice (some ⟨w.heap.size,0,none⟩) 2 2) [x,y] (w.heap.size :: (f1 ++ f2)):=by
 have hb:Bz w (w.alloc (.cells #[a0,a1,a2,a3,a4,a5,b0,b1,b2,b3,b4,b5] 108)):=(sqN _ _);refine .inr ⟨by simp,[a0,a1,a2,a3,a4,a5,b0,b1,b2,b3,b4,b5],w.heap.size,2,[f1,f2],⟨rfl,.inr ⟨w.heap.size,2,#[a0,a1,a2,a3,a4,a5,b0,b1,b2,b3,b4,b5],rfl,Nat.zero_le _,Blk.new (w:=w),Nat.le_refl _,by unfold maxLen;omega,rfl,rfl⟩⟩,rfl,rfl,by simp,λi z f hi hf=>?_⟩
 match i,hi,hf with
 | 0,hi,hf =>
  simp at hi hf;subst hi;subst hf;refine ⟨_,rfl,λj hj=>?_,OXT.keeps _ _ _ _ _ h1 (Zu.below hb h1.lt)⟩
  match j,hj with
  | 0,_=>rfl
  | 1,_=>rfl
  | 2,_=>rfl
  | 3,_=>rfl
  | 4,_=>rfl
  | 5,_=>rfl
 | 1,hi,hf =>
  simp at hi hf;subst hi;subst hf;refine ⟨_,rfl,λj hj=>?_,OXT.keeps _ _ _ _ _ h2 (Zu.below hb h2.lt)⟩
  match j,hj with
  | 0,_=>rfl
  | 1,_=>rfl
  | 2,_=>rfl
  | 3,_=>rfl
  | 4,_=>rfl
  | 5,_=>rfl
 | i+2,hi,hf=>simp at hi
theorem Zh.one {w:World} {a0 a1 a2 a3 a4 a5:Value} {x:Ex} {f:List Nat} {B:Nat} (h1:OXT w [a0,a1,a2,a3,a4,a5] x f) (hn:f.Nodup) (hr:∀ a ∈ f,B<=a/\a<w.heap.size) (hB:B<=w.heap.size) :
 Zh 108 6 OXT (w.alloc (.cells #[a0,a1,a2,a3,a4,a5] 108)) B (w.heap.size+1) (.slice (some ⟨w.heap.size,0,none⟩) 1 1) [x]:=by
 have hb:Bz w (w.alloc (.cells #[a0,a1,a2,a3,a4,a5] 108)):=(sqN _ _);refine ⟨[a0,a1,a2,a3,a4,a5],[f],⟨rfl,.inr ⟨w.heap.size,1,#[a0,a1,a2,a3,a4,a5],rfl,hB,Blk.new (w:=w),Nat.le_refl _,by unfold maxLen;omega,rfl,rfl⟩⟩,rfl,by simpa using hn,λi z f' hi hf=>?_,λa ha=>?_,λa ha=>?_,by omega,by simp⟩
 . match i,hi,hf with
   | 0,hi,hf =>
    simp at hi hf;subst hi;subst hf;refine ⟨_,rfl,λj hj=>?_,OXT.keeps _ _ _ _ _ h1 (Zu.below hb h1.lt)⟩
    match j,hj with
    | 0,_=>rfl
    | 1,_=>rfl
    | 2,_=>rfl
    | 3,_=>rfl
    | 4,_=>rfl
    | 5,_=>rfl
   | i+1,hi,hf=>simp at hi
 . have ha':a ∈ f:=by simpa using ha
   have:=hr a ha';exact ⟨this.1,by omega,by simp [Value.ownBlock];omega⟩
 . simp [Value.ownBlock] at ha;subst ha;exact ⟨hB,by omega⟩
section
open Go.Proofs.Tryz
theorem Zcz:(prog.info? 108).map (λi=>(i.zero,i.size,i.bytes))=some (some (.agg #[.int .i64 0,.int .i64 0,.string ⟨#[]⟩,.string ⟨#[]⟩,.slice none 0 0,.slice none 0 0]),6,96):=by kernel_rfl
def PEc (ts:List Tok) (F:FuncId) (n:Nat) (E:St->Ex × St):Prop :=
 ∀ (w:World) (pb:Nat) (lp:Option Addr) (cap:Nat) (st:St),Zl w pb lp cap ts st->st.1<=ts.length->ts.length - st.1<n ->
  Calls prog F #[.pointer (some ⟨pb,0,none⟩)] w λe w'=>∃ cs fp,e=.returned (.agg cs.toArray)/\OXT w' cs (E st).1 fp/\fp.Nodup/\(∀ a ∈ fp,w.heap.size<=a/\a<w'.heap.size)/\Zl w' pb lp cap ts (E st).2/\Off [pb] w w'
def PSc (ts:List Tok) (F:FuncId) (n:Nat) (E:St->List Ex × St):Prop :=
 ∀ (w:World) (pb:Nat) (lp:Option Addr) (cap:Nat) (st:St),Zl w pb lp cap ts st->st.1<=ts.length->ts.length - st.1<n ->
  Calls prog F #[.pointer (some ⟨pb,0,none⟩)] w λe w'=>∃ u,e=.returned u/\Zh 108 6 OXT w' w.heap.size w'.heap.size u (E st).1/\Zl w' pb lp cap ts (E st).2/\Off [pb] w w'
theorem ZdI {sk sn:Int} {st se:ByteArray} {p1 p2:Option Addr} {n1 q1 n2 q2:Nat}:∀ u ∈ [Value.int .i64 sk,.int .i64 sn,.string st,.string se,.slice p1 n1 q1,.slice p2 n2 q2],u.oneCell'=true:=by
 intro u hu;simp at hu
 rcases hu with rfl | rfl | rfl | rfl | rfl | rfl <;> rfl
def posM (w:World) (pb:Nat):Nat:=match w.cell? ⟨pb,1,none⟩ with | some (.int _ z)=>z.toNat | _=>0
theorem Zl.pos {w:World} {pb:Nat} {lp:Option Addr} {cap:Nat} {ts:List Tok} {st:St} (h:Zl w pb lp cap ts st):posM w pb=st.1:=by
 have h1:w.cell? ⟨pb,1,none⟩=some (.int .i64 (st.1:Nat)):=h.blk.cell 1 _ rfl;unfold posM;rw [h1];simp
theorem ZeN {ts:List Tok} (hT:TsOk ts) {n:Nat} {E:St->Ex × St} (hE:PEc ts 58 n E) (hG:ZV ts E):PSc ts 32 n (pBody ts E):=by
 intro w pb lp cap st hp hst hn;have hlen:=hT.len;have HE:=hid hE;have HP0:=hid hp;have hpb:=hp.lt;have HB:Hid (pBody ts E st=Zap ts E (ts.length+1) [(E st).1] (E st).2):=rfl;have HG:=hid hG;clear hE hp hG;go_enter func32,ntmps32;go_wp2_with fail;refine (HE.out _ pb lp cap st HP0.out hst hn).mono ?_;rintro e w1 ⟨cs,fp,rfl,hx,hnd,hrg,hp1,ho1⟩;obtain ⟨sk,sn,st',se,p1,n1,q1,p2,n2,q2,rfl⟩:=hx.shape;have G1:=hid (Zh.one hx hnd hrg ho1.size);have KA:Bz w1 (w1.alloc (.cells #[.int .i64 sk,.int .i64 sn,.string st',.string se,.slice p1 n1 q1,.slice p2 n2 q2] 108)):=(sqN _ _);have P1:=hid (hp1.next KA);have O1:=hid (ho1.trans (Off.of_below KA));have G2:=hid (G1.out.more (sqR _) (by rw [Zg];exact Nat.le_refl _) (sqR _));have g1:=HG.out st;have hge:=g1.ge;have hle:=g1.le hst;generalize hS1:(E st).2=s1 at *;generalize (E st).1=x1 at *;clear hx hnd hrg hp1 ho1 KA G1 hS1 g1;go_wp2_with fail
 go_loopw [3] (λuv wr=>∃ (k:Nat) (acc:List Ex) (s:St),Hid (Zh 108 6 OXT wr w.heap.size wr.heap.size uv acc)/\Hid (Zl wr pb lp cap ts s)/\Hid (Off [pb] w wr)/\Hid (Zap ts E k acc s=Zap ts E (ts.length+1) [x1] s1)/\s.1<=ts.length/\st.1<=s.1/\ts.length<k+s.1/\acc.length<=1+s.1/\k<=ts.length+1) (λ_ wr=>ts.length+1 - posM wr pb)
 case atStart=>exact ⟨ts.length+1,[x1],s1,G2.out,P1.out,O1.out,rfl,hle,hge,by omega,by simp,Nat.le_refl _⟩
 case round =>
  clear G2 P1 O1;obtain ⟨k,acc,s,HGr,HP,HO,HQ,hs1,hs2,hs3,hs4,hs5⟩:=hrel
  cases hc:isS ts s [44] with
  | false =>
   have HR:Hid (pBody ts E st=(acc,s)):=by
    show _=_;rw [HB.out,<-HQ.out]
    cases k with
    | zero=>rfl
    | succ k=>unfold Zap;rw [hc];rfl
   clear HQ;go_wp2_with fail;refine (Zs _ pb lp cap ts s _ HP.out hlen).mono ?_;rintro e w2 ⟨rfl,hp2,ho2⟩;rw [hc] at hp2 ⊢;have P2:=hid hp2;have G2:Hid (Zh 108 6 OXT w2 w.heap.size w2.heap.size u3 acc):=(HGr.out.off OXT.keeps ho2 hpb).more (sqR _) ho2.size (sqR _);have O2:=hid (HO.out.trans ho2);clear hp2 ho2;go_wp2;go_ret;exact ⟨_,rfl,by rw [HR.out];exact G2.out,by rw [HR.out];exact P2.out,O2.out⟩
  | true =>
   obtain ⟨hlt,hb0⟩:=ZM hc;obtain ⟨k',rfl⟩:∃ k',k=k'+1:=⟨k - 1,by omega⟩
   have HQ2:Hid (Zap ts E k' (acc ++ [(E (adv s)).1]) (E (adv s)).2=Zap ts E (ts.length+1) [x1] s1):=by
    show _=_;rw [<-HQ.out]
    conv=>rhs;unfold Zap
    rw [hc]
    rfl
   have g2:=HG.out (adv s);have hge2:s.1+1<=(E (adv s)).2.1:=g2.ge;have hle2:(E (adv s)).2.1<=ts.length:=g2.le hlt;have HA1:Hid ((adv s).1<=ts.length/\ts.length - (adv s).1<n):=⟨hlt,by show ts.length - (s.1+1)<n;omega⟩;have HPO:=hid HP.out.pos;generalize hS2:(E (adv s)).2=s2 at *;generalize hX2:(E (adv s)).1=x2 at *;have HS2:=hid hS2;have HX2:=hid hX2;clear HQ g2 hS2 hX2;go_wp2_with fail;refine (Zs _ pb lp cap ts s _ HP.out hlen).mono ?_;rintro e w2 ⟨rfl,hp2,ho2⟩;rw [hc] at hp2 ⊢;have P2:=hid hp2;have G2:Hid (Zh 108 6 OXT w2 w.heap.size w2.heap.size u3 acc):=(HGr.out.off OXT.keeps ho2 hpb).more (sqR _) ho2.size (sqR _);have O2:=hid (HO.out.trans ho2);clear hp2 ho2;go_wp2_with fail;refine (HE.out _ pb lp cap (adv s) P2.out HA1.out.1 HA1.out.2).mono ?_;rintro e w3 ⟨cs3,fp3,rfl,hx3,hnd3,hrg3,hp3,ho3⟩;obtain ⟨k3,m3,t3,e3,p13,n13,q13,p23,n23,q23,rfl⟩:=hx3.shape;rw [HX2.out] at hx3;rw [HS2.out] at hp3;have G3:=hid (G2.out.off OXT.keeps ho3 hpb);have P3:=hid hp3;have O3:=hid (O2.out.trans ho3);have X3:Hid (OXT w3 [.int .i64 k3,.int .i64 m3,.string t3,.string e3,.slice p13 n13 q13,.slice p23 n23 q23] x2 fp3/\fp3.Nodup/\∀ a ∈ fp3,w2.heap.size<=a/\a<w3.heap.size):=⟨hx3,hnd3,hrg3⟩;clear hx3 hnd3 hrg3 hp3 ho3;go_wp2_with (at_builtin;refine ZaM OXT.keeps 61 108 6 96 _ rfl _ _ rfl underlying61 Zcz rfl (by decide) (by decide) w.heap.size w2.heap.size u3 acc rfl [.int .i64 k3,.int .i64 m3,.string t3,.string e3,.slice p13 n13 q13,.slice p23 n23 q23] rfl x2 fp3 G3.out X3.out.1 X3.out.2.1 X3.out.2.2 rfl ZdI (by omega) ?_);intro v4 w4 hg4 hb4;have K4:Bz w3 (w3.alloc (.cells #[.int .i64 k3,.int .i64 m3,.string t3,.string e3,.slice p13 n13 q13,.slice p23 n23 q23] 108)):=(sqN _ _);have G4:=hid hg4;have P4:Hid (Zl w4 pb lp cap ts s2):=(P3.out.next K4).below hb4 hpb;have O4:Hid (Off [pb] w w4):=(O3.out.trans (Off.of_below K4)).under (sqR _) hb4;clear hg4 hb4 K4;go_wp2_with fail;exact ⟨⟨k',acc ++ [x2],s2,G4.out,P4.out,O4.out,HQ2.out,hle2,by omega,by omega,by rw [List.length_append];simp;omega,by omega⟩,by rw [P4.out.pos,HPO.out];omega⟩
def PSo (ts:List Tok) (F:FuncId) (n:Nat) (E:St->List UInt8->List Ex × St):Prop :=
 ∀ (w:World) (pb:Nat) (lp:Option Addr) (cap:Nat) (st:St) (s:ByteArray),Zl w pb lp cap ts st->st.1<=ts.length->ts.length - st.1<n ->
  Calls prog F #[.pointer (some ⟨pb,0,none⟩),.string s] w λe w'=>∃ u,e=.returned u/\Zh 108 6 OXT w' w.heap.size w'.heap.size u (E st s.data.toList).1/\Zl w' pb lp cap ts (E st s.data.toList).2/\Off [pb] w w'
theorem ZeO {ts:List Tok} (hT:TsOk ts) {n:Nat} {E:St->Ex × St} (hE:PEc ts 58 n E) (hG:ZV ts E):PSo ts 31 n (pSome ts E):=by
 intro w pb lp cap st sfin hp hst hn;have hlen:=hT.len;have HE:=hid hE;have hpb:=hp.lt;have HG:=hid hG;have KZ:Bz w (w.alloc (.cells #[] 108)):=(sqN _ _);have PZ:=hid (hp.next KZ);have OZ:Hid (Off [pb] w (w.alloc (.cells #[] 108))):=Off.of_below KZ;have GZ:Hid (Zh 108 6 OXT (w.alloc (.cells #[] 108)) w.heap.size (w.heap.size+1) (.slice (some ⟨w.heap.size,0,none⟩) 0 0) []):=Zh.fresh;have HSZ:Hid ((w.alloc (.cells #[] 108)).heap.size=w.heap.size+1):=Zg _ _;clear hE hp hG KZ
 cases hf:isS ts st sfin.data.toList with
 | true =>
  have HR:Hid (pSome ts E st sfin.data.toList=([],adv st)):=(by show _=_;unfold pSome;rw [hf];rfl);go_enter func31,ntmps31;go_wp2_with fail;refine (Zs _ pb lp cap ts st sfin PZ.out hlen).mono ?_;rintro e w1 ⟨rfl,hp1,ho1⟩;rw [hf] at hp1 ⊢;have P1:=hid hp1;have O1:=hid (OZ.out.trans ho1);have G1:Hid (Zh 108 6 OXT w1 w.heap.size w1.heap.size (.slice (some ⟨w.heap.size,0,none⟩) 0 0) []):=(GZ.out.off OXT.keeps ho1 hpb).more (sqR _) (by have:=ho1.size;rw [HSZ.out] at this;exact this) (sqR _);clear hp1 ho1;go_wp2;go_ret;exact ⟨_,rfl,by rw [HR.out];exact G1.out,by rw [HR.out];exact P1.out,O1.out⟩
 | false =>
  have HB:Hid (pBody ts E st=Zap ts E (ts.length+1) [(E st).1] (E st).2):=rfl;have HR0:Hid (pSome ts E st sfin.data.toList=((pBody ts E st).1,takeS ts (pBody ts E st).2 sfin.data.toList)):=(by show _=_;unfold pSome;rw [hf];rfl);go_enter func31,ntmps31;go_wp2_with fail;refine (Zs _ pb lp cap ts st sfin PZ.out hlen).mono ?_;rintro e w0 ⟨rfl,hp0,ho0⟩;rw [hf] at hp0 ⊢;have P0:=hid hp0;have O0:=hid (OZ.out.trans ho0);have G0:Hid (Zh 108 6 OXT w0 w.heap.size w0.heap.size (.slice (some ⟨w.heap.size,0,none⟩) 0 0) []):=(GZ.out.off OXT.keeps ho0 hpb).more (sqR _) (by have:=ho0.size;rw [HSZ.out] at this;exact this) (sqR _);clear hp0 ho0 PZ OZ GZ HSZ;go_wp2_with fail;refine (HE.out _ pb lp cap st P0.out hst hn).mono ?_;rintro e w1 ⟨cs,fp,rfl,hx,hnd,hrg,hp1,ho1⟩;obtain ⟨sk,sn,st',se,p1,n1,q1,p2,n2,q2,rfl⟩:=hx.shape;have G3:=hid (G0.out.off OXT.keeps ho1 hpb);have P3:=hid hp1;have O3:=hid (O0.out.trans ho1);have X3:Hid (OXT w1 [.int .i64 sk,.int .i64 sn,.string st',.string se,.slice p1 n1 q1,.slice p2 n2 q2] (E st).1 fp/\fp.Nodup/\∀ a ∈ fp,w0.heap.size<=a/\a<w1.heap.size):=⟨hx,hnd,hrg⟩;have g1:=HG.out st;have hge:=g1.ge;have hle:=g1.le hst;generalize hS1:(E st).2=s1 at *;generalize (E st).1=x1 at *;clear hx hnd hrg hp1 ho1 hS1 g1 P0 O0 G0;go_wp2_with (at_builtin;refine ZaM OXT.keeps 61 108 6 96 _ rfl _ _ rfl underlying61 Zcz rfl (by decide) (by decide) w.heap.size w0.heap.size (.slice (some ⟨w.heap.size,0,none⟩) 0 0) [] rfl [.int .i64 sk,.int .i64 sn,.string st',.string se,.slice p1 n1 q1,.slice p2 n2 q2] rfl x1 fp G3.out X3.out.1 X3.out.2.1 X3.out.2.2 rfl ZdI (by simp) ?_);intro v4 w4 hg4 hb4;have K4:Bz w1 (w1.alloc (.cells #[.int .i64 sk,.int .i64 sn,.string st',.string se,.slice p1 n1 q1,.slice p2 n2 q2] 108)):=(sqN _ _);have G2:=hid hg4;have P1:Hid (Zl w4 pb lp cap ts s1):=(P3.out.next K4).below hb4 hpb;have O1:Hid (Off [pb] w w4):=(O3.out.trans (Off.of_below K4)).under (sqR _) hb4;clear hg4 hb4 K4 G3 P3 O3 X3;go_wp2_with fail
  go_loopw [5] (λuv wr=>∃ (k:Nat) (acc:List Ex) (s:St),Hid (Zh 108 6 OXT wr w.heap.size wr.heap.size uv acc)/\Hid (Zl wr pb lp cap ts s)/\Hid (Off [pb] w wr)/\Hid (Zap ts E k acc s=Zap ts E (ts.length+1) [x1] s1)/\s.1<=ts.length/\st.1<=s.1/\ts.length<k+s.1/\acc.length<=1+s.1/\k<=ts.length+1) (λ_ wr=>ts.length+1 - posM wr pb)
  case atStart=>exact ⟨ts.length+1,[x1],s1,G2.out,P1.out,O1.out,rfl,hle,hge,by omega,by simp,Nat.le_refl _⟩
  case round =>
   clear G2 P1 O1;obtain ⟨k,acc,s,HGr,HP,HO,HQ,hs1,hs2,hs3,hs4,hs5⟩:=hrel
   cases hc:isS ts s [44] with
   | false =>
    have HR:Hid (pBody ts E st=(acc,s)):=by
     show _=_;rw [HB.out,<-HQ.out]
     cases k with
     | zero=>rfl
     | succ k=>unfold Zap;rw [hc];rfl
    clear HQ;go_wp2_with fail;refine (Zs _ pb lp cap ts s _ HP.out hlen).mono ?_;rintro e w2 ⟨rfl,hp2,ho2⟩;rw [hc] at hp2 ⊢;have P2:=hid hp2;have G2:Hid (Zh 108 6 OXT w2 w.heap.size w2.heap.size u5 acc):=(HGr.out.off OXT.keeps ho2 hpb).more (sqR _) ho2.size (sqR _);have O2:=hid (HO.out.trans ho2);clear hp2 ho2;have HR2:Hid (pSome ts E st sfin.data.toList=(acc,takeS ts s sfin.data.toList)):=(by show _=_;rw [HR0.out,HR.out]);go_wp2_with fail;refine (ZL _ pb lp cap ts s sfin P2.out hlen).mono ?_;rintro e w3 ⟨rfl,hp3,ho3⟩;have P3:=hid hp3;have G3:Hid (Zh 108 6 OXT w3 w.heap.size w3.heap.size u5 acc):=(G2.out.off OXT.keeps ho3 hpb).more (sqR _) ho3.size (sqR _);have O3:=hid (O2.out.trans ho3);clear hp3 ho3;go_wp2;go_ret;exact ⟨_,rfl,by rw [HR2.out];exact G3.out,by rw [HR2.out];exact P3.out,O3.out⟩
   | true =>
    obtain ⟨hlt,hb0⟩:=ZM hc;obtain ⟨k',rfl⟩:∃ k',k=k'+1:=⟨k - 1,by omega⟩
    have HQ2:Hid (Zap ts E k' (acc ++ [(E (adv s)).1]) (E (adv s)).2=Zap ts E (ts.length+1) [x1] s1):=by
     show _=_;rw [<-HQ.out]
     conv=>rhs;unfold Zap
     rw [hc]
     rfl
    have g2:=HG.out (adv s);have hge2:s.1+1<=(E (adv s)).2.1:=g2.ge;have hle2:(E (adv s)).2.1<=ts.length:=g2.le hlt;have HA1:Hid ((adv s).1<=ts.length/\ts.length - (adv s).1<n):=⟨hlt,by show ts.length - (s.1+1)<n;omega⟩;have HPO:=hid HP.out.pos;generalize hS2:(E (adv s)).2=s2 at *;generalize hX2:(E (adv s)).1=x2 at *;have HS2:=hid hS2;have HX2:=hid hX2;clear HQ g2 hS2 hX2;go_wp2_with fail;refine (Zs _ pb lp cap ts s _ HP.out hlen).mono ?_;rintro e w2 ⟨rfl,hp2,ho2⟩;rw [hc] at hp2 ⊢;have P2:=hid hp2;have G2:Hid (Zh 108 6 OXT w2 w.heap.size w2.heap.size u5 acc):=(HGr.out.off OXT.keeps ho2 hpb).more (sqR _) ho2.size (sqR _);have O2:=hid (HO.out.trans ho2);clear hp2 ho2;go_wp2_with fail;refine (HE.out _ pb lp cap (adv s) P2.out HA1.out.1 HA1.out.2).mono ?_;rintro e w3 ⟨cs3,fp3,rfl,hx3,hnd3,hrg3,hp3,ho3⟩;obtain ⟨k3,m3,t3,e3,p13,n13,q13,p23,n23,q23,rfl⟩:=hx3.shape;rw [HX2.out] at hx3;rw [HS2.out] at hp3;have G3:=hid (G2.out.off OXT.keeps ho3 hpb);have P3:=hid hp3;have O3:=hid (O2.out.trans ho3);have X3:Hid (OXT w3 [.int .i64 k3,.int .i64 m3,.string t3,.string e3,.slice p13 n13 q13,.slice p23 n23 q23] x2 fp3/\fp3.Nodup/\∀ a ∈ fp3,w2.heap.size<=a/\a<w3.heap.size):=⟨hx3,hnd3,hrg3⟩;clear hx3 hnd3 hrg3 hp3 ho3;go_wp2_with (at_builtin;refine ZaM OXT.keeps 61 108 6 96 _ rfl _ _ rfl underlying61 Zcz rfl (by decide) (by decide) w.heap.size w2.heap.size u5 acc rfl [.int .i64 k3,.int .i64 m3,.string t3,.string e3,.slice p13 n13 q13,.slice p23 n23 q23] rfl x2 fp3 G3.out X3.out.1 X3.out.2.1 X3.out.2.2 rfl ZdI (by omega) ?_);intro v4 w4 hg4 hb4;have K4:Bz w3 (w3.alloc (.cells #[.int .i64 k3,.int .i64 m3,.string t3,.string e3,.slice p13 n13 q13,.slice p23 n23 q23] 108)):=(sqN _ _);have G4:=hid hg4;have P4:Hid (Zl w4 pb lp cap ts s2):=(P3.out.next K4).below hb4 hpb;have O4:Hid (Off [pb] w w4):=(O3.out.trans (Off.of_below K4)).under (sqR _) hb4;clear hg4 hb4 K4;go_wp2_with fail;exact ⟨⟨k',acc ++ [x2],s2,G4.out,P4.out,O4.out,HQ2.out,hle2,by omega,by omega,by rw [List.length_append];simp;omega,by omega⟩,by rw [P4.out.pos,HPO.out];omega⟩
end
structure Zv (b:Nat) (w w':World):Prop where
 os:w'.os=w.os
 tape:w'.tape=w.tape
 output:w'.output=w.output
 size:w'.heap.size=w.heap.size
 block:∀ a,a≠b->w'.heap[a]?=w.heap[a]?
theorem Zv.set {b j:Nat} {w:World} {v:Value}:Zv b w (w.setCell ⟨b,j,none⟩ v):=⟨rfl,rfl,rfl,ZaQ _ _ _,λa ha=>Below.heap_setCell _ _ _ _ ha⟩
theorem Zv.trans {b:Nat} {w1 w2 w3:World} (h:Zv b w1 w2) (k:Zv b w2 w3):Zv b w1 w3 :=
 ⟨k.os.trans h.os,k.tape.trans h.tape,k.output.trans h.output,k.size.trans h.size,λa ha=>(k.block a ha).trans (h.block a ha)⟩
theorem Zv.drew {b:Nat} {w w':World} (h:Zv b w w'):Zv b w w'.drew:=⟨h.os,h.tape,h.output,h.size,h.block⟩
theorem Zo {b:Nat} {w:World} {c0 c1 c2 c3 c4 c5:Value}:Zv b w ((((((w.setCell ⟨b,0,none⟩ c0).setCell ⟨b,1,none⟩ c1).setCell ⟨b,2,none⟩ c2).setCell ⟨b,3,none⟩ c3).setCell ⟨b,4,none⟩ c4).setCell ⟨b,5,none⟩ c5) :=
 ((((Zv.set.trans Zv.set).trans Zv.set).trans Zv.set).trans Zv.set).trans Zv.set
theorem Zx {b:Nat} {w:World} {z0 z1 z2 z3 z4 z5:Value} {t:TypeId} (h:Blk w b #[z0,z1,z2,z3,z4,z5] t) (c0 c1 c2 c3 c4 c5:Value) :
 Blk ((((((w.setCell ⟨b,0,none⟩ c0).setCell ⟨b,1,none⟩ c1).setCell ⟨b,2,none⟩ c2).setCell ⟨b,3,none⟩ c3).setCell ⟨b,4,none⟩ c4).setCell ⟨b,5,none⟩ c5) b #[c0,c1,c2,c3,c4,c5] t :=
 (((((h.same (j:=0) (v:=c0) rfl).same (j:=1) (v:=c1) rfl).same (j:=2) (v:=c2) rfl).same (j:=3) (v:=c3) rfl).same (j:=4) (v:=c4) rfl).same (j:=5) (v:=c5) rfl
theorem Zv.keep {b:Nat} {w w':World} (h:Zv b w w') {fp:List Nat} (hb:b ∉ fp):Zu fp w w':=λa ha=>h.block a (λe=>hb (e ▸ ha))
theorem OXT.only {b:Nat} {w w':World} {cs:List Value} {x:Ex} {fp:List Nat} (h:OXT w cs x fp) (ho:Zv b w w') (hb:b ∉ fp):OXT w' cs x fp:=OXT.keeps _ _ _ _ _ h (ho.keep hb)
theorem OXT.off {pb:Nat} {w w':World} {cs:List Value} {x:Ex} {fp:List Nat} (h:OXT w cs x fp) (ho:Off [pb] w w') (hb:∀ a ∈ fp,a≠pb):OXT w' cs x fp :=
 OXT.keeps _ _ _ _ _ h (λa ha=>ho.block a (h.lt a ha) (by simpa using hb a ha))
theorem Blk.off {pb b:Nat} {w w':World} {cs:Array Value} {t:TypeId} (h:Blk w b cs t) (ho:Off [pb] w w') (hne:b≠pb):Blk w' b cs t:=(ho.block b h.lt (by simpa using hne)).trans h
theorem Blk.only {b b':Nat} {w w':World} {cs:Array Value} {t:TypeId} (h:Blk w b cs t) (ho:Zv b' w w') (hne:b≠b'):Blk w' b cs t:=(ho.block b hne).trans h
theorem Zl.only {b:Nat} {w w':World} {pb:Nat} {lp:Option Addr} {cap:Nat} {ts:List Tok} {st:St} (h:Zl w pb lp cap ts st) (ho:Zv b w w') (hb:pb<b):Zl w' pb lp cap ts st :=
 h.below (N:=b) ⟨ho.os,ho.tape,ho.output,Nat.le_of_eq ho.size.symm,λa ha=>ho.block a (by omega)⟩ hb
theorem Off.only {b pb:Nat} {w w1 w':World} (h:Off [pb] w w1) (ho:Zv b w1 w') (hb:w.heap.size<=b):Off [pb] w w' :=
 ⟨ho.os.trans h.os,ho.tape.trans h.tape,ho.output.trans h.output,by rw [ho.size];exact h.size,λa ha hf=>(ho.block a (by omega)).trans (h.block a ha hf)⟩
theorem Zh.only {α:Type} {e:TypeId} {c:Nat} {O:World->List Value->α->List Nat->Prop} (hO:ZbC O) {b:Nat} {w w':World} {B C:Nat} {v:Value} {xs:List α} (h:Zh e c O w B C v xs) (ho:Zv b w w') (hb:b<B\/C<=b):Zh e c O w' B C v xs :=
 h.keep hO (Nat.le_of_eq ho.size.symm) (λa h1 h2=>ho.block a (by omega))
abbrev ZhN:Array Value:=#[.int .i64 0,.int .i64 0,.string ⟨#[]⟩,.string ⟨#[]⟩,.slice none 0 0,.slice none 0 0]
theorem Zah {l:List UInt8} (h:l.length<=4000):okS (bs l):=by
 unfold okS bs maxLen;show l.toArray.size<=_;simp;omega
theorem ZA:okS (bs []):=Zah (by simp)
theorem ZcX {ts:List Tok} (hT:TsOk ts) (i:Nat):(ZaP ts i).length<=4000:=by
 unfold ZaP
 cases h:ts[i]? with
 | none=>simp
 | some t=>exact hT.text t (List.mem_of_getElem? h)
theorem ZaK {ts:List Tok} (hT:TsOk ts) (st:St):(atomP ts st).1.length<=4000:=by
 unfold atomP
 split
 . exact ZcX hT _
 . simp
theorem ZgB {ts:List Tok} (hT:TsOk ts) (i:Nat):okI (ZcT ts i):=by
 unfold ZcT
 cases h:ts[i]? with
 | none=>exact Zi (n:=0) (by omega) (by omega)
 | some t=>exact hT.num t (List.mem_of_getElem? h)
end Go.Proofs.YtacioihbhkcdcaaGreatDoor
