/-
  GrowO StepPush
-/
import Derived.Test.YtbdhpganbbandaaGreatDoorP15
import Derived.Deep.AppendLies
set_option maxHeartbeats 16000000
set_option linter.unusedVariables false
set_option maxRecDepth 100000
namespace Go.Proofs.YtbdhpganbbandaaGreatDoor
open Go.ChangeShapes Go.WideShapes Go.ChangeAt Go.RowKit
section
def GrowO {α:Type} (e:TypeId) (c:Nat) (O:World->List Value->α->List Nat->Prop) (w:World) (B C:Nat) (v:Value) (xs:List α):Prop :=
 ∃ (cells:List Value) (fps:List (List Nat)),w.ownsRow B e c v xs.length cells/\fps.length=xs.length/\fps.flatten.Nodup /\
  (∀ (i:Nat) x f,xs[i]?=some x->fps[i]?=some f->∃ cs:List Value,cs.length=c/\(∀ j,j<c->cells[i * c+j]?=cs[j]?)/\O w cs x f) /\
  (∀ a ∈ fps.flatten,B<=a/\a<C/\v.ownBlock≠some a)/\(∀ a,v.ownBlock=some a->B<=a/\a<C)/\B<=C/\C<=w.heap.size
def KeepsC {α:Type} (O:World->List Value->α->List Nat->Prop):Prop:=∀ (w w':World) (cs:List Value) (x:α) (fp:List Nat),O w cs x fp->KeepOn fp w w'->O w' cs x fp
section
variable {α:Type} {e:TypeId} {c:Nat} {O:World->List Value->α->List Nat->Prop} {w w':World} {B C:Nat} {v:Value} {xs:List α}
theorem ownsRow_blk {n:Nat} {cells:List Value} (h:w.ownsRow B e c v n cells) (hk:∀ a,v.ownBlock=some a->w'.heap[a]?=w.heap[a]?):w'.ownsRow B e c v n cells:=by
 refine ⟨h.1,?_⟩
 rcases h.2 with hn | ⟨g,cap,cur,hv,hB,hg,hr⟩
 . exact .inl hn
 . exact .inr ⟨g,cap,cur,hv,hB,(hk g (by rw [hv];rfl)).trans hg,hr⟩
theorem GrowO.keep (hO:KeepsC O) (h:GrowO e c O w B C v xs) (hs:w.heap.size<=w'.heap.size) (hk:∀ a,B<=a->a<C->w'.heap[a]?=w.heap[a]?):GrowO e c O w' B C v xs:=by
 obtain ⟨cells,fps,h1,h2,h3,h4,h5,h6,h7,h8⟩:=h;refine ⟨cells,fps,ownsRow_blk h1 (λa ha=>hk a (h6 a ha).1 (h6 a ha).2),h2,h3,λi x f hi hf=>?_,h5,h6,h7,Nat.le_trans h8 hs⟩;obtain ⟨cs,g1,g2,g3⟩:=h4 i x f hi hf
 exact ⟨cs,g1,g2,hO _ _ _ _ _ g3 (λa ha=>by
  have:=h5 a (List.mem_flatten.2 ⟨f,List.mem_of_getElem? hf,ha⟩)
  exact hk a this.1 this.2.1)⟩
theorem GrowO.next (hO:KeepsC O) (h:GrowO e c O w B C v xs) (hb:Bz w w'):GrowO e c O w' B C v xs:=by
 have h8:C<=w.heap.size:=(by obtain ⟨_,_,_,_,_,_,_,_,_,h8⟩:=h;exact h8);exact h.keep hO hb.size (λa _ ha=>hb.block a (by omega))
theorem GrowO.off (hO:KeepsC O) {pb:Nat} (h:GrowO e c O w B C v xs) (ho:Off [pb] w w') (hp:pb<B):GrowO e c O w' B C v xs:=by
 have h8:C<=w.heap.size:=(by obtain ⟨_,_,_,_,_,_,_,_,_,h8⟩:=h;exact h8);exact h.keep hO ho.size (λa h1 h2=>ho.block a (by omega) (by simp;omega))
theorem GrowO.nil (h:B<=w.heap.size):GrowO e c O w B B (.slice none 0 0) [] :=
 ⟨[],[],⟨by simp,.inl ⟨rfl,rfl⟩⟩,rfl,by simp,λi x f hi=>by simp at hi,λa ha=>by simp at ha,λa ha=>by simp [Value.ownBlock] at ha,Nat.le_refl _,h⟩
theorem GrowO.fresh:GrowO e c O (w.alloc (.cells #[] e)) w.heap.size (w.heap.size+1) (.slice (some ⟨w.heap.size,0,none⟩) 0 0) []:=by
 refine ⟨[],[],⟨by simp,.inr ⟨w.heap.size,0,#[],rfl,Nat.le_refl _,Blk.new (w:=w) (cs:=#[]) (t:=e),Nat.le_refl _,Nat.zero_le _,?_,by simp⟩⟩,rfl,by simp,λi x f hi=>by simp at hi,λa ha=>by simp at ha,λa ha=>?_,by omega,by simp⟩
 . simp
 . simp [Value.ownBlock] at ha;subst ha;exact ⟨Nat.le_refl _,by omega⟩
theorem GrowO.shape (h:GrowO e c O w B C v xs):∃ p cap,v=.slice p xs.length cap/\xs.length<=cap/\cap<=maxLen:=by
 obtain ⟨cells,fps,h1,h2,-⟩:=h
 rcases h1.2 with ⟨hv,hn⟩ | ⟨g,cap,cur,hv,hb,hg,hc,hm,hr⟩
 . exact ⟨none,0,by rw [hv,hn],by omega,Nat.zero_le _⟩
 . exact ⟨_,cap,hv,hc,hm⟩
theorem GrowO.push (hO:KeepsC O) {wb:World} {cells:List Value} {fps:List (List Nat)} {x:α} {cs:List Value} {f:List Nat} {v':Value} {D:Nat}
 (h1:w.ownsRow B e c v xs.length cells) (h2:fps.length=xs.length) (h3:fps.flatten.Nodup)
 (h4:∀ (i:Nat) x f,xs[i]?=some x->fps[i]?=some f->∃ cs:List Value,cs.length=c/\(∀ j,j<c->cells[i * c+j]?=cs[j]?)/\O w cs x f)
 (h5:∀ a ∈ fps.flatten,B<=a/\a<C/\v.ownBlock≠some a) (h6:∀ a,v.ownBlock=some a->B<=a/\a<C) (h7:B<=C)
 (hf:O w cs x f) (hfn:f.Nodup) (hfr:∀ a ∈ f,C<=a/\a<w.heap.size) (hcl:cs.length=c) (hwb:Bz w wb) (hC:C<=w.heap.size)
 (hown:w'.ownsRow B e c v' (xs.length+1) (cells ++ cs)) (hgr:wb.grownBy w' v.ownBlock) (hat:v'.ownBlock=v.ownBlock\/∀ a,v'.ownBlock=some a->wb.heap.size<=a) (hD:w'.heap.size=D) :
 GrowO e c O w' B D v' (xs ++ [x]):=by
 have s1:=hwb.size;have s2:=hgr.size;have blk:∀ a,a<w.heap.size->v.ownBlock≠some a->w'.heap[a]?=w.heap[a]?:=λa ha hn=>(hgr.block a (by omega) (λe=>hn e.symm)).trans (hwb.block a ha);have hxl:cells.length=xs.length * c:=h1.1
 have hfv:∀ a ∈ f,v.ownBlock≠some a:=λa ha e=>by have:=h6 a e;have:=hfr a ha;omega
 have hlt:∀ a,v'.ownBlock=some a->B<=a/\a<w'.heap.size:=λa ha=>by
  rcases hown.2 with ⟨hv,_⟩ | ⟨g,cap,cur,hv,hb,hg,_⟩
  . rw [hv] at ha;cases ha
  . rw [hv] at ha;simp [Value.ownBlock] at ha;subst ha;exact ⟨hb,(Array.getElem?_eq_some_iff.1 hg).1⟩
 have hne:∀ a,a<w.heap.size->v.ownBlock≠some a->v'.ownBlock≠some a:=λa ha hn e=>by
  rcases hat with h | h
  . rw [h] at e;exact hn e
  . have:=h a e;omega
 refine ⟨cells ++ cs,fps ++ [f],by rw [List.length_append];exact hown,by rw [List.length_append,List.length_append,h2];rfl,?_,λi y f' hi hf'=>?_,λa ha=>?_,λa ha=>by rw [<-hD];exact hlt a ha,by omega,by omega⟩
 . rw [List.flatten_append,List.nodup_append]
   refine ⟨h3,by simpa using hfn,λa ha b hb=>?_⟩;have:=(h5 a ha).2.1;have:=(hfr b (by simpa using hb)).1;omega
 . by_cases hik:i<xs.length
   . rw [List.getElem?_append_left hik] at hi
     rw [List.getElem?_append_left (by rw [h2];exact hik)] at hf';obtain ⟨cs',g1,g2,g3⟩:=h4 i y f' hi hf';have hil:i * c+c<=xs.length * c:=(by rw [<-Nat.succ_mul];exact Nat.mul_le_mul_right c hik);refine ⟨cs',g1,λj hj=>?_,hO _ _ _ _ _ g3 (λa ha=>?_)⟩
     . rw [List.getElem?_append_left (by omega)];exact g2 j hj
     . have:=h5 a (List.mem_flatten.2 ⟨f',List.mem_of_getElem? hf',ha⟩)
       exact blk a (by omega) this.2.2
   . have hil:i<xs.length+1:=by
      have:=(List.getElem?_eq_some_iff.1 hi).1;rw [List.length_append] at this;simpa using this
     obtain rfl:i=xs.length:=(by omega);rw [List.getElem?_append_right (sqR _),Nat.sub_self] at hi;rw [List.getElem?_append_right (by rw [h2];exact Nat.le_refl _),h2,Nat.sub_self] at hf';simp at hi hf';subst hi;subst hf';refine ⟨cs,hcl,λj hj=>?_,hO _ _ _ _ _ hf (λa ha=>blk a (hfr a ha).2 (hfv a ha))⟩;rw [List.getElem?_append_right (by omega),hxl];congr 1;omega
 . rw [List.flatten_append,List.mem_append] at ha
   rcases ha with ha | ha
   . have:=h5 a ha
     exact ⟨this.1,by omega,hne a (by omega) this.2.2⟩
   . have ha':a ∈ f:=by simpa using ha
     have:=hfr a ha';exact ⟨by omega,by omega,hne a this.2 (hfv a ha')⟩
theorem GrowO.done (h:GrowO e c O w B C v xs):∃ fp,ORows w e c (O w) v xs fp/\fp.Nodup/\(∀ a ∈ fp,B<=a/\a<C)/\B<=C/\C<=w.heap.size:=by
 obtain ⟨cells,fps,h1,h2,h3,h4,h5,h6,h7,h8⟩:=h;by_cases hne:xs = []
 . subst hne
   refine ⟨[],.inl ⟨rfl,rfl,?_⟩,by simp,λa ha=>by simp at ha,h7,h8⟩
   rcases h1.2 with ⟨hv,hn⟩ | ⟨g,cap,cur,hv,hb,hg,hc,hm,hr⟩
   . exact ⟨none,0,hv,Nat.zero_le _⟩
   . exact ⟨_,cap,hv,hm⟩
 . rcases h1.2 with ⟨hv,hn⟩ | ⟨g,cap,cur,hv,hb,hg,hr⟩
   . exact absurd (List.length_eq_zero_iff.1 hn) hne
   . have hgo:v.ownBlock=some g:=by rw [hv];rfl
     refine ⟨g :: fps.flatten,.inr ⟨hne,cells,g,cap,fps,⟨h1.1,.inr ⟨g,cap,cur,hv,Nat.zero_le _,hg,hr⟩⟩,hv,h2,rfl,h4⟩,?_,λa ha=>?_,h7,h8⟩
     . rw [List.nodup_cons]
       exact ⟨λhm=>(h5 g hm).2.2 hgo,h3⟩
     . rcases List.mem_cons.1 ha with rfl | ha
       . exact h6 _ hgo
       . exact ⟨(h5 a ha).1,(h5 a ha).2.1⟩
end
theorem wpList_push {α:Type} {O:World->List Value->α->List Nat->Prop} (hO:KeepsC O) {ops:Array Oper} {rest:List Oper} {o:Oper} {a:Act} {Q:Exit->Act->World->Prop} {w:World} (t e:TypeId) (size bytes:Nat) (z:Value) (hgd:o.guard=none) (s x:Operand)
 (ho:o.op=.call { callee:=.builtin .append,args:=#[s,x],argTypes:=#[t,t] }) (ht:Tryz.prog.underlying t=some (.slice e)) (hinfo:(Tryz.prog.info? e).map (λi=>(i.zero,i.size,i.bytes))=some (some z,size,bytes))
 (hzs:z.cells.size=size) (hsz:0<size) (hby:bytes<=1000) (B C:Nat) (v:Value) (xs:List α) (hs:a.eval s=v) (cs:List Value) (hx:a.eval x=.slice (some ⟨w.heap.size,0,none⟩) 1 1) (y:α) (f:List Nat)
 (hG:GrowO e size O w B C v xs) (hf:O w cs y f) (hfn:f.Nodup) (hfr:∀ a ∈ f,C<=a/\a<w.heap.size) (hcl:cs.length=size) (h1:∀ u ∈ cs,u.oneCell'=true) (hl:xs.length<=100000000)
 (h:∀ v' w',GrowO e size O w' B w'.heap.size v' (xs ++ [y])->Below B (w.alloc (.cells cs.toArray e)) w'->wpList Tryz.prog ops Q rest (a.put o.dst v') w') :
 wpList Tryz.prog ops Q (o :: rest) a (w.alloc (.cells cs.toArray e)):=by
 cases hi:Tryz.prog.info? e with
 | none=>rw [hi] at hinfo;cases hinfo
 | some i =>
  rw [hi] at hinfo;simp only [Option.map_some,Option.some.injEq,Prod.mk.injEq] at hinfo;obtain ⟨hz,hsize,hbytes⟩:=hinfo;obtain ⟨cells,fps,g1,g2,g3,g4,g5,g6,g7,g8⟩:=hG;have hb:Bz w (w.alloc (.cells cs.toArray e)):=(sqN _ _);have hown:=ownsRow_blk (w':=w.alloc (.cells cs.toArray e)) g1 (λa ha=>hb.block a (by have:=g6 a ha;omega))
  have hnews:∀ j u,cs[j]?=some u->(w.alloc (.cells cs.toArray e)).cell? ((⟨w.heap.size,0,none⟩:Addr).add j)=some u:=λj u hj=>by
   have:=(Blk.new (w:=w) (cs:=cs.toArray) (t:=e)).cell j u (by simpa using hj);rw [<-this];unfold Addr.add;by_cases h0:j=0
   . simp [h0]
   . simp [h0]
  have hb2:(xs.length+1) * bytes<=140737488355328:=Nat.le_trans (Nat.mul_le_mul (show xs.length+1<=100000001 by omega) hby) (by decide);refine wpList_append_own_at _ hgd s x t ho B e i z size bytes ht hi hz hsize hbytes hzs hsz v xs.length cells hs hown ⟨w.heap.size,0,none⟩ 1 1 cs hx (by omega) hnews h1 (by unfold maxLen;omega) hb2 (by simp;omega) ?_;intro v' w' hown' hgr _ hat;refine h v' w' (GrowO.push hO g1 g2 g3 g4 g5 g6 g7 hf hfn hfr hcl hb g8 hown' hgr ?_ rfl) ⟨hgr.os,hgr.tape,hgr.output,hgr.size,λj hj=>hgr.block j (by simp;omega) (λe=>by have:=(g6 j e.symm).1;omega)⟩
  rcases hat with h | h
  . exact .inl h
  . refine .inr (λa ha=>?_)
    rw [h] at ha;exact Nat.le_of_eq (Option.some.inj ha)
end
theorem step_push {α:Type} {O:World->List Value->α->List Nat->Prop} (hO:KeepsC O) {ops:Array Oper} {o:Oper} {a:Act} {K:Act->World->Prop} {Q:Exit->Act->World->Prop} {E:Prop} {w:World} (t e:TypeId) (size bytes:Nat) (z:Value) (hgd:o.guard=none) (s x:Operand)
 (ho:o.op=.call { callee:=.builtin .append,args:=#[s,x],argTypes:=#[t,t] }) (ht:Tryz.prog.underlying t=some (.slice e)) (hinfo:(Tryz.prog.info? e).map (λi=>(i.zero,i.size,i.bytes))=some (some z,size,bytes))
 (hzs:z.cells.size=size) (hsz:0<size) (hby:bytes<=1000) (B C:Nat) (v:Value) (xs:List α) (hs:a.eval s=v) (cs:List Value) (ab:Nat) (hx:a.eval x=.slice (some ⟨ab,0,none⟩) 1 1) (hab:ab=w.heap.size) (y:α) (f:List Nat)
 (hG:GrowO e size O w B C v xs) (hf:O w cs y f) (hfn:f.Nodup) (hfr:∀ a ∈ f,C<=a/\a<w.heap.size) (hcl:cs.length=size) (h1:∀ u ∈ cs,u.oneCell'=true) (hl:xs.length<=100000000)
 (h:∀ g cap w',GrowO e size O w' B w'.heap.size (.slice (some ⟨g,0,none⟩) (xs.length+1) cap) (xs ++ [y])->Below B (w.alloc (.cells cs.toArray e)) w'->K (a.put o.dst (.slice (some ⟨g,0,none⟩) (xs.length+1) cap)) w') :
 if Region.wanted o (yielded ops a.tmps)=true then Oper.wp Tryz.prog o a (w.alloc (.cells cs.toArray e)) K Q else E:=by
 subst hab
 cases hi:Tryz.prog.info? e with
 | none=>rw [hi] at hinfo;cases hinfo
 | some i =>
  rw [hi] at hinfo;simp only [Option.map_some,Option.some.injEq,Prod.mk.injEq] at hinfo;obtain ⟨hz,hsize,hbytes⟩:=hinfo;obtain ⟨cells,fps,g1,g2,g3,g4,g5,g6,g7,g8⟩:=hG;have hb:Bz w (w.alloc (.cells cs.toArray e)):=(sqN _ _);have hown:=ownsRow_blk (w':=w.alloc (.cells cs.toArray e)) g1 (λa ha=>hb.block a (by have:=g6 a ha;omega))
  have hnews:∀ j u,cs[j]?=some u->(w.alloc (.cells cs.toArray e)).cell? ((⟨w.heap.size,0,none⟩:Addr).add j)=some u:=λj u hj=>by
   have:=(Blk.new (w:=w) (cs:=cs.toArray) (t:=e)).cell j u (by simpa using hj);rw [<-this];unfold Addr.add;by_cases h0:j=0
   . simp [h0]
   . simp [h0]
  have hb2:(xs.length+1) * bytes<=140737488355328:=Nat.le_trans (Nat.mul_le_mul (show xs.length+1<=100000001 by omega) hby) (by decide);refine step_append_lies _ hgd s x t ho B e i z size bytes ht hi hz hsize hbytes hzs hsz v xs.length cells hs hown ⟨w.heap.size,0,none⟩ 1 1 cs hx (by omega) hnews h1 (by omega) (by unfold maxLen;omega) hb2 (by simp;omega) (w.heap.size+1) (by simp) ?_;intro g cap w' hown' hgr hat hlt;refine h g cap w' (GrowO.push hO g1 g2 g3 g4 g5 g6 g7 hf hfn hfr hcl hb g8 hown' hgr ?_ rfl) ⟨hgr.os,hgr.tape,hgr.output,hgr.size,λj hj=>hgr.block j (by simp;omega) (λe=>by have:=(g6 j e.symm).1;omega)⟩
  rcases hat with h | h
  . exact .inl h.symm
  . refine .inr (λa ha=>?_)
    have:g=a:=(by simpa [Value.ownBlock] using ha);rw [<-this,h];simp
end Go.Proofs.YtbdhpganbbandaaGreatDoor
