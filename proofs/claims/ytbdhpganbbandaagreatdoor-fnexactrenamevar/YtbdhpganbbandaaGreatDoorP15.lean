/-
  StrRow RowG RefRow NameMath NameMath2 NameSpecA NameSpecB
-/
import Derived.Test.YtbdhpganbbandaaGreatDoorP03
import Derived.Laws.AppendOwnNone
set_option maxHeartbeats 16000000
set_option linter.unusedVariables false
set_option maxRecDepth 100000
namespace Go.Proofs.YtbdhpganbbandaaGreatDoor
open Go.ChangeShapes Go.WideShapes Go.ChangeAt Go.RowKit
def HStr (cs:List Value) (s:ByteArray):Prop:=cs = [.string s]/\okS s
abbrev StrR (w:World) (v:Value) (xs:List ByteArray):Prop:=Rows w All 1 HStr v xs
theorem StrR.mono {w w':World} {v:Value} {xs:List ByteArray} (h:StrR w v xs) (hs:SameOn All w w'):StrR w' v xs:=Rows.mono h hs sqj (λ_ _ _ h=>h)
theorem StrR.okS {w:World} {v:Value} {xs:List ByteArray} (h:StrR w v xs):∀ x ∈ xs,Go.Proofs.YtbdhpganbbandaaGreatDoor.okS x:=by
 intro x hx;obtain ⟨p,cap,_,_,_,hr⟩:=h;obtain ⟨i,hi⟩:=List.mem_iff_getElem?.1 hx;obtain ⟨g,off,_,_,_,hat⟩:=hr (by intro e;rw [e] at hi;simp at hi);obtain ⟨cs,_,_,hv⟩:=hat i x hi;exact hv.2
def strs (l:List ByteArray):List Value:=l.map Value.string
theorem strs_length (l:List ByteArray):(strs l).length=l.length:=by simp [strs]
theorem strs_append (a b:List ByteArray):strs (a ++ b)=strs a ++ strs b:=by simp [strs]
theorem strs_oneCell (l:List ByteArray):∀ u ∈ strs l,u.oneCell'=true:=by
 intro u hu;simp only [strs,List.mem_map] at hu;obtain ⟨b,_,rfl⟩:=hu
 rfl
theorem info_str:(Tryz.prog.info? 9).map (λi=>(i.zero,i.size,i.bytes))=some (some (.string ⟨#[]⟩),1,16):=by kernel_rfl
def OwnS (w:World) (B:Nat) (v:Value) (l:List ByteArray):Prop:=w.ownsRow B 9 1 v l.length (strs l)/\B<=w.heap.size
theorem OwnS.next {w w':World} {B:Nat} {v:Value} {l:List ByteArray} (h:OwnS w B v l) (hb:Bz w w'):OwnS w' B v l:=by
 refine ⟨⟨h.1.1,?_⟩,Nat.le_trans h.2 hb.size⟩
 rcases h.1.2 with hn | ⟨g,cap,cur,hv,hB,hg,hr⟩
 . exact .inl hn
 . exact .inr ⟨g,cap,cur,hv,hB,(hb.block g (Array.getElem?_eq_some_iff.1 hg).1).trans hg,hr⟩
theorem OwnS.off {w:World} {B:Nat} {v:Value} {l:List ByteArray} (h:OwnS w B v l) {b:Nat} (hb:v.ownBlock=some b):B<=b/\b<w.heap.size:=by
 rcases h.1.2 with hn | ⟨g',cap',cur,hv',hB,hg,hr⟩
 . rw [hn.1] at hb;cases hb
 . rw [hv'] at hb
   simp [Value.ownBlock] at hb;subst hb;exact ⟨hB,(Array.getElem?_eq_some_iff.1 hg).1⟩
theorem OwnS.below {w w':World} {B:Nat} {v:Value} {l:List ByteArray} (h:OwnS w B v l) (hg:w.grownBy w' v.ownBlock):Below B w w' :=
 ⟨hg.os,hg.tape,hg.output,hg.size,λj hj=>hg.block j (by have:=h.2;omega) (λe=>by have:=(h.off e.symm).1;omega)⟩
theorem OwnS.blk {w w':World} {B b:Nat} {v:Value} {l:List ByteArray} {cs:Array Value} {t:TypeId} (h:OwnS w B v l) (hg:w.grownBy w' v.ownBlock) (hb:Blk w b cs t) (hne:v.ownBlock≠some b):Blk w' b cs t :=
 (hg.block b hb.lt (λe=>hne e.symm)).trans hb
theorem OwnS.of {w':World} {B n:Nat} {v:Value} {l m:List ByteArray} {xs:List Value} (h:w'.ownsRow B 9 1 v n xs) (hn:n=(l ++ m).length) (hx:xs=strs l ++ strs m) (hB:B<=w'.heap.size):OwnS w' B v (l ++ m):=by
 subst hn;subst hx;rw [<-strs_append] at h;exact ⟨h,hB⟩
theorem OwnS.fresh {w:World}:OwnS (w.alloc (.cells #[] 9)) w.heap.size (.slice (some ⟨w.heap.size,0,none⟩) 0 0) []:=by
 refine ⟨⟨by simp [strs],.inr ⟨w.heap.size,0,#[],rfl,Nat.le_refl _,?_,Nat.le_refl _,Nat.zero_le _,rfl,rfl⟩⟩,by simp⟩;exact Blk.new (w:=w) (cs:=#[]) (t:=9)
theorem OwnS.rows {w:World} {B:Nat} {v:Value} {l:List ByteArray} (h:OwnS w B v l) (ho:∀ x ∈ l,okS x):Rows w (λg=>B<=g) 1 HStr v l:=by
 obtain ⟨h,_⟩:=h
 rcases h.2 with ⟨rfl,hn⟩ | ⟨g,cap,cur,rfl,hB,hg,h1,h2,h3,h4⟩
 . obtain rfl:=List.length_eq_zero_iff.1 hn
   exact Rows.nil (Nat.zero_le _)
 . refine ⟨_,cap,rfl,h1,h2,λhne=>⟨g,0,rfl,hB,(Array.getElem?_eq_some_iff.1 hg).1,λi x hi=>⟨[.string x],rfl,λj hj=>?_,rfl,ho x (List.mem_of_getElem? hi)⟩⟩⟩
   obtain rfl:j=0:=(by omega);rw [show 0+i * 1+0=i by omega];exact (h.cellAt i (by have:=(List.getElem?_eq_some_iff.1 hi).1;omega)).trans (by simp [strs,hi])
theorem OwnS.strR {w:World} {B:Nat} {v:Value} {l:List ByteArray} (h:OwnS w B v l) (ho:∀ x ∈ l,okS x):StrR w v l:=Rows.mono (h.rows ho) sqS (λ_ _=>trivial) (λ_ _ _ h=>h)
def StrV (w:World) (v:Value) (xs:List ByteArray):Prop:=StrR w v xs/\∀ n c,v=.slice none n c->v=.slice none 0 0
theorem OwnS.strV {w:World} {B:Nat} {v:Value} {l:List ByteArray} (h:OwnS w B v l) (ho:∀ x ∈ l,okS x):StrV w v l:=by
 refine ⟨h.strR ho,λn c hv=>?_⟩
 rcases h.1.2 with hn | ⟨g,cap,cur,hv',_⟩
 . exact hn.1
 . rw [hv] at hv';simp at hv'
theorem StrV.next {w w':World} {v:Value} {xs:List ByteArray} (h:StrV w v xs) (hs:SameOn All w w'):StrV w' v xs:=⟨h.1.mono hs,h.2⟩
def hasS (l:List ByteArray) (s:ByteArray):Bool:=l.any λx=>x.toList == s.toList
def onceS (l:List ByteArray):List ByteArray->List ByteArray
 | []=>l
 | y :: ys=>onceS (if hasS l y then l else l ++ [y]) ys
theorem onceS_snoc (l ys:List ByteArray) (y:ByteArray):onceS l (ys ++ [y])=if hasS (onceS l ys) y then onceS l ys else onceS l ys ++ [y]:=by
 induction ys generalizing l with
 | nil=>rfl
 | cons z zs ih=>exact ih _
theorem onceS_length (l ys:List ByteArray):(onceS l ys).length<=l.length+ys.length:=by
 induction ys generalizing l with
 | nil=>simp [onceS]
 | cons z zs ih =>
  have:=ih (if hasS l z then l else l ++ [z])
  have h2:(if hasS l z then l else l ++ [z]).length<=l.length+1:=by split <;> simp
  simp only [onceS,List.length_cons];omega
theorem onceS_mem (l ys:List ByteArray):∀ x ∈ onceS l ys,x ∈ l\/x ∈ ys:=by
 induction ys generalizing l with
 | nil=>intro x hx;exact .inl hx
 | cons z zs ih =>
  intro x hx
  rcases ih _ x hx with h | h
  . split at h
    . exact .inl h
    . rcases List.mem_append.1 h with h | h
      . exact .inl h
      . simp at h;subst h;exact .inr (by simp)
  . exact .inr (by simp [h])
section
def CellsR {α:Type} (c:Nat) (R:List Value->α->Prop) (cells:List Value) (l:List α):Prop :=
 cells.length=l.length * c/\∀ i y,l[i]?=some y->∃ cs,cs.length=c/\(∀ j,j<c->cells[i * c+j]?=cs[j]?)/\R cs y
section
variable {α:Type} {c:Nat} {R R':List Value->α->Prop} {cells more:List Value} {l m:List α}
theorem CellsR.nil:CellsR c R [] ([]:List α):=⟨by simp,λi y h=>by simp at h⟩
theorem CellsR.append (h:CellsR c R cells l) (k:CellsR c R more m):CellsR c R (cells ++ more) (l ++ m):=by
 refine ⟨by rw [List.length_append,List.length_append,h.1,k.1,Nat.add_mul],λi y hi=>?_⟩;by_cases hl:i<l.length
 . rw [List.getElem?_append_left hl] at hi
   obtain ⟨cs,h1,h2,h3⟩:=h.2 i y hi;refine ⟨cs,h1,λj hj=>?_,h3⟩;rw [List.getElem?_append_left,h2 j hj];rw [h.1];have:(i+1) * c<=l.length * c:=Nat.mul_le_mul_right _ hl;rw [Nat.add_mul] at this;omega
 . rw [List.getElem?_append_right (by omega)] at hi
   obtain ⟨cs,h1,h2,h3⟩:=k.2 _ y hi;refine ⟨cs,h1,λj hj=>?_,h3⟩
   have e:i * c+j - cells.length=(i - l.length) * c+j:=by
    rw [h.1,Nat.sub_mul];have:l.length * c<=i * c:=Nat.mul_le_mul_right _ (by omega);omega
   rw [List.getElem?_append_right (by rw [h.1];have:l.length * c<=i * c:=Nat.mul_le_mul_right _ (by omega);omega),e];exact h2 j hj
theorem CellsR.mono (h:CellsR c R cells l) (hR:∀ cs y,y ∈ l->R cs y->R' cs y):CellsR c R' cells l :=
 ⟨h.1,λi y hi=>by obtain ⟨cs,h1,h2,h3⟩:=h.2 i y hi;exact ⟨cs,h1,h2,hR cs y (List.mem_of_getElem? hi) h3⟩⟩
theorem CellsR.one {cs:List Value} {y:α} (hc:cs.length=c) (h:R cs y):CellsR c R cs [y] :=
 ⟨by simp [hc],λi z hi=>by
  cases i with
  | zero=>simp at hi;subst hi;exact ⟨cs,hc,λj _=>by simp,h⟩
  | succ i=>simp at hi⟩
theorem CellsR.oneCell (hc:0<c) (h:CellsR c R cells l) (hR:∀ cs y,R cs y->∀ u ∈ cs,u.oneCell'=true):∀ u ∈ cells,u.oneCell'=true:=by
 intro u hu;obtain ⟨j,hj⟩:=List.mem_iff_getElem?.1 hu;have hlt:=(List.getElem?_eq_some_iff.1 hj).1;rw [h.1] at hlt;have hd:j / c<l.length:=Nat.div_lt_of_lt_mul (by rw [Nat.mul_comm];exact hlt);obtain ⟨cs,h1,h2,h3⟩:=h.2 (j / c) (l[j / c]) (List.getElem?_eq_getElem hd);have h4:=h2 (j % c) (Nat.mod_lt _ hc);rw [show j / c * c+j % c=j by rw [Nat.mul_comm];exact Nat.div_add_mod j c,hj] at h4;exact hR cs _ h3 u (List.mem_of_getElem? h4.symm)
theorem rowsCellsR (hc:0<c) {w:World} {S:Nat->Prop} {ad:Addr} {n cap:Nat} (h:Rows w S c R (.slice (some ad) n cap) l):n=l.length/\∃ cells,CellsR c R cells l/\∀ j u,cells[j]?=some u->w.cell? (ad.add j)=some u:=by
 obtain ⟨p,cap',hv,h1,h2,hx⟩:=h;simp only [Value.slice.injEq] at hv;obtain ⟨rfl,rfl,rfl⟩:=hv;refine ⟨rfl,?_⟩
 cases l with
 | nil=>exact ⟨[],CellsR.nil,λj u h=>by simp at h⟩
 | cons y0 l =>
  obtain ⟨g,off,hp,-,-,hat⟩:=hx (by simp);obtain rfl:=Option.some.inj hp
  have hadd:∀ j,(⟨g,off,none⟩:Addr).add j=⟨g,off+j,none⟩:=λj=>by by_cases h:j=0 <;> simp [Addr.add,h]
  have key:∀ j,j<(y0 :: l).length * c->∃ u,w.cell? ⟨g,off+j,none⟩=some u:=λj hj=>by
   have hd:j / c<(y0 :: l).length:=Nat.div_lt_of_lt_mul (by rw [Nat.mul_comm];exact hj);obtain ⟨cs,k1,k2,k3⟩:=hat (j / c) _ (List.getElem?_eq_getElem hd);have h4:=k2 (j % c) (Nat.mod_lt _ hc);rw [show off+j / c * c+j % c=off+j by rw [Nat.add_assoc,Nat.mul_comm,Nat.div_add_mod]] at h4;exact ⟨cs[j % c]'(by rw [k1];exact Nat.mod_lt _ hc),h4.trans (List.getElem?_eq_getElem _)⟩
  refine ⟨(List.range ((y0 :: l).length * c)).map λj=>(w.cell? ⟨g,off+j,none⟩).getD undef,⟨by simp,λi y hi=>?_⟩,λj u hj=>?_⟩
  . obtain ⟨cs,k1,k2,k3⟩:=hat i y hi
    refine ⟨cs,k1,λj hj=>?_,k3⟩;have hil:=(List.getElem?_eq_some_iff.1 hi).1
    have hlt:i * c+j<(y0 :: l).length * c:=by
     have:(i+1) * c<=(y0 :: l).length * c:=Nat.mul_le_mul_right _ hil;rw [Nat.add_mul] at this;omega
    rw [List.getElem?_map,List.getElem?_range hlt];obtain ⟨u,hu⟩:=key _ hlt;have h5:=k2 j hj;rw [Nat.add_assoc,hu] at h5;simp only [Option.map_some,hu,Option.getD_some];exact h5
  . have hlt:j<(y0 :: l).length * c:=by simpa using (List.getElem?_eq_some_iff.1 hj).1
    rw [List.getElem?_map,List.getElem?_range hlt] at hj;obtain ⟨v,hv⟩:=key j hlt;simp only [Option.map_some,hv,Option.getD_some,Option.some.injEq] at hj;rw [hadd,hv,hj]
theorem CellsR.rows {w:World} {B:Nat} {e:TypeId} {v:Value} {n:Nat} (h:w.ownsRow B e c v n cells) (k:CellsR c R cells l) (hn:n=l.length):Rows w All c R v l:=by
 subst hn;have hl:=k.1
 rcases h.2 with ⟨rfl,hz⟩ | ⟨g,cap,cur,rfl,hB,hg,h1,h2,h3,h4⟩
 . obtain rfl:=List.length_eq_zero_iff.1 hz
   exact Rows.nil (Nat.zero_le _)
 . refine ⟨_,cap,rfl,h1,h2,λhne=>⟨g,0,rfl,trivial,(Array.getElem?_eq_some_iff.1 hg).1,λi x hi=>?_⟩⟩
   obtain ⟨cs,k1,k2,k3⟩:=k.2 i x hi;refine ⟨cs,k1,λj hj=>?_,k3⟩;have hil:=(List.getElem?_eq_some_iff.1 hi).1
   have hlt:i * c+j<l.length * c:=by
    have:(i+1) * c<=l.length * c:=Nat.mul_le_mul_right _ hil;rw [Nat.add_mul] at this;omega
   rw [<-k2 j hj,Nat.zero_add];exact h.cellAt _ hlt
end
section
variable {P:Program} {w:World}
theorem run_append_nil (base:Nat) (t ty e:TypeId) (i:TypeInfo) (size:Nat) (ht:P.underlying t=some (.slice e)) (hi:P.info? e=some i)
 (v:Value) (n:Nat) (xs:List Value) (c:Nat) (hown:w.ownsRow base e size v n xs) :
 (Builtin.append_ #[t,t] ty #[v,.slice none 0 c]).run P w=.ok v w:=by
 rcases hown.2 with ⟨rfl,rfl⟩ | ⟨g,cap,cur,rfl,_,_,hnc,_⟩
 . simp [Builtin.append_,run_underlying ht,sizeOf,typeInfo,hi,Builtin.lenOf,Builtin.firstCells]
 . simp [Builtin.append_,run_underlying ht,sizeOf,typeInfo,hi,Builtin.lenOf,Builtin.firstCells,hnc,storeCells]
theorem wpList_append_nil {ops:Array Oper} {rest:List Oper} {o:Oper} {a:Act} {Q:Exit->Act->World->Prop} (hgd:o.guard=none) (s x:Operand) (t:TypeId)
 (ho:o.op=.call { callee:=.builtin .append,args:=#[s,x],argTypes:=#[t,t] })
 (base:Nat) (e:TypeId) (i:TypeInfo) (size:Nat) (ht:P.underlying t=some (.slice e)) (hi:P.info? e=some i)
 (v:Value) (n:Nat) (xs:List Value) (c:Nat) (hs:a.eval s=v) (hown:w.ownsRow base e size v n xs) (hx:a.eval x=.slice none 0 c)
 (h:wpList P ops Q rest (a.put o.dst v) w):wpList P ops Q (o :: rest) a w:=by
 refine wpList_plain hgd λK hK=>?_;have hrun:=run_append_nil (P:=P) (w:=w) base t o.type e i size ht hi v n xs c hown;unfold Oper.wp;simp [execOp,ho,resolve,invoke,builtin,hs,hx,hrun,Result.andThen];exact hK _ _ h
theorem wpList_append_rows {α:Type} {R:List Value->α->Prop} {S:Nat->Prop} {ops:Array Oper} {rest:List Oper} {o:Oper} {a:Act} {Q:Exit->Act->World->Prop} (hgd:o.guard=none) (s x:Operand) (t:TypeId)
 (ho:o.op=.call { callee:=.builtin .append,args:=#[s,x],argTypes:=#[t,t] })
 (base:Nat) (e:TypeId) (i:TypeInfo) (z:Value) (size bytes:Nat) (ht:P.underlying t=some (.slice e)) (hi:P.info? e=some i) (hz:i.zero=some z)
 (hsize:i.size=size) (hby:i.bytes=bytes) (hzs:z.cells.size=size) (hsz:0<size)
 (v:Value) (n:Nat) (xs:List Value) (hs:a.eval s=v) (hown:w.ownsRow base e size v n xs)
 (u:Value) (m:List α) (hx:a.eval x=u) (hr:Rows w S size R u m) (hone:∀ cs y,R cs y->∀ q ∈ cs,q.oneCell'=true)
 (h63:n+m.length<=maxLen) (hbytes:(n+m.length) * bytes<=140737488355328) (hbase:base<=w.heap.size)
 (h:∀ v' w' news,CellsR size R news m->w'.ownsRow base e size v' (n+m.length) (xs ++ news)->w.grownBy w' v.ownBlock->wpList P ops Q rest (a.put o.dst v') w'):wpList P ops Q (o :: rest) a w:=by
 obtain ⟨p,cap,hv,h1,h2,hat⟩:=id hr
 cases p with
 | none =>
  have hm:m = []:=Classical.byContradiction λhne=>by
   obtain ⟨g,off,hp,_⟩:=hat hne
   cases hp
  subst hm;simp only [List.length_nil] at *;refine wpList_append_nil hgd s x t ho base e i size ht hi v n xs cap hs hown (hx.trans hv) ?_;exact h v w [] CellsR.nil (by simpa using hown) ⟨rfl,rfl,rfl,Nat.le_refl _,λ_ _ _=>rfl⟩
 | some ad =>
  rw [hv] at hr;obtain ⟨-,news,hc,hnews⟩:=rowsCellsR hsz hr;refine wpList_append_own _ hgd s x t ho base e i z size bytes ht hi hz hsize hby hzs hsz v n xs hs hown ad m.length cap news (hx.trans hv) hc.1 hnews (hc.oneCell hsz hone) h63 hbytes hbase ?_;intro v' w' k1 k2 _;exact h v' w' news hc k1 k2
theorem step_append_rows {α:Type} {R:List Value->α->Prop} {S:Nat->Prop} {ops:Array Oper} {o:Oper} {a:Act} {K:Act->World->Prop} {Q:Exit->Act->World->Prop} {E:Prop} (hgd:o.guard=none) (s x:Operand) (t:TypeId)
 (ho:o.op=.call { callee:=.builtin .append,args:=#[s,x],argTypes:=#[t,t] })
 (base:Nat) (e:TypeId) (i:TypeInfo) (z:Value) (size bytes:Nat) (ht:P.underlying t=some (.slice e)) (hi:P.info? e=some i) (hz:i.zero=some z)
 (hsize:i.size=size) (hby:i.bytes=bytes) (hzs:z.cells.size=size) (hsz:0<size)
 (v:Value) (n:Nat) (xs:List Value) (hs:a.eval s=v) (hown:w.ownsRow base e size v n xs)
 (u:Value) (m:List α) (hx:a.eval x=u) (hr:Rows w S size R u m) (hone:∀ cs y,R cs y->∀ q ∈ cs,q.oneCell'=true)
 (h63:n+m.length<=maxLen) (hbytes:(n+m.length) * bytes<=140737488355328) (hbase:base<=w.heap.size)
 (h:∀ v' w' news,CellsR size R news m->w'.ownsRow base e size v' (n+m.length) (xs ++ news)->w.grownBy w' v.ownBlock->K (a.put o.dst v') w') :
 if Region.wanted o (yielded ops a.tmps)=true then Oper.wp P o a w K Q else E:=by
 have hw:Region.wanted o (yielded ops a.tmps)=true:=(by simp [Region.wanted,hgd]);rw [if_pos hw];obtain ⟨p,cap,hv,h1,h2,hat⟩:=id hr
 cases p with
 | none =>
  have hm:m = []:=Classical.byContradiction λhne=>by
   obtain ⟨g,off,hp,_⟩:=hat hne
   cases hp
  subst hm;simp only [List.length_nil] at *;have hrun:=run_append_nil (P:=P) (w:=w) base t o.type e i size ht hi v n xs cap hown;unfold Oper.wp;simp [execOp,ho,resolve,invoke,builtin,hs,hx.trans hv,hrun,Result.andThen];exact h v w [] CellsR.nil (by simpa using hown) ⟨rfl,rfl,rfl,Nat.le_refl _,λ_ _ _=>rfl⟩
 | some ad =>
  rw [hv] at hr;obtain ⟨-,news,hc,hnews⟩:=rowsCellsR hsz hr;refine wp_append_own w s x t ho base e i z size bytes ht hi hz hsize hby hzs hsz v n xs hs hown ad m.length cap news (hx.trans hv) hc.1 hnews (hc.oneCell hsz hone) h63 hbytes hbase ?_;intro v' w' k1 k2 _;exact h v' w' news hc k1 k2
end
theorem cellsR_str {news:List Value} {l:List ByteArray} (h:CellsR 1 HStr news l):news=strs l:=by
 refine List.ext_getElem? λi=>?_;by_cases hi:i<l.length
 . obtain ⟨cs,h1,h2,rfl,-⟩:=h.2 i (l[i]) (List.getElem?_eq_getElem hi)
   have h4:=h2 0 (by omega);rw [show i * 1+0=i by omega] at h4;rw [h4];simp [strs,hi]
 . rw [List.getElem?_eq_none (by rw [h.1];omega),List.getElem?_eq_none (by rw [strs_length];omega)]
theorem str_oneCell (cs:List Value) (s:ByteArray) (h:HStr cs s):∀ u ∈ cs,u.oneCell'=true:=by
 obtain ⟨rfl,-⟩:=h;intro u hu;simp at hu;subst hu;rfl
end
def refs (l:List Rf):List Value:=l.flatMap λr=>[.string r.name,.int .i64 r.arity]
theorem refs_append (a b:List Rf):refs (a ++ b)=refs a ++ refs b:=by simp [refs]
theorem refs_at:∀ (l:List Rf) (i:Nat) (r:Rf),l[i]?=some r->∀ j,j<2->(refs l)[i * 2+j]? = [Value.string r.name,.int .i64 r.arity][j]?
 | [],i,r,h,_,_=>by simp at h
 | x :: xs,0,r,h,j,hj=>by
  simp at h;subst h;have e:refs (x :: xs) = [.string x.name,.int .i64 x.arity] ++ refs xs:=rfl;rw [e,Nat.zero_mul,Nat.zero_add,List.getElem?_append_left (by simpa using hj)]
 | x :: xs,i+1,r,h,j,hj=>by
  have e:refs (x :: xs) = [.string x.name,.int .i64 x.arity] ++ refs xs:=rfl;simp at h;rw [e,List.getElem?_append_right (by simp;omega),<-refs_at xs i r h j hj]
  congr 1
  simp;omega
theorem refs_oneCell (l:List Rf):∀ u ∈ refs l,u.oneCell'=true:=by
 intro u hu;simp only [refs,List.mem_flatMap] at hu;obtain ⟨b,_,hu⟩:=hu;simp at hu
 rcases hu with rfl | rfl <;> rfl
theorem info_ref:(Tryz.prog.info? 110).map (λi=>(i.zero,i.size,i.bytes))=some (some (.agg #[.string ⟨#[]⟩,.int .i64 0]),2,24):=by kernel_rfl
def OwnR (w:World) (B:Nat) (v:Value) (l:List Rf):Prop:=w.ownsRow B 110 2 v l.length (refs l)/\B<=w.heap.size
theorem OwnR.next {w w':World} {B:Nat} {v:Value} {l:List Rf} (h:OwnR w B v l) (hb:Bz w w'):OwnR w' B v l:=by
 refine ⟨⟨h.1.1,?_⟩,Nat.le_trans h.2 hb.size⟩
 rcases h.1.2 with hn | ⟨g,cap,cur,hv,hB,hg,hr⟩
 . exact .inl hn
 . exact .inr ⟨g,cap,cur,hv,hB,(hb.block g (Array.getElem?_eq_some_iff.1 hg).1).trans hg,hr⟩
theorem OwnR.off {w:World} {B:Nat} {v:Value} {l:List Rf} (h:OwnR w B v l) {b:Nat} (hb:v.ownBlock=some b):B<=b/\b<w.heap.size:=by
 rcases h.1.2 with hn | ⟨g',cap',cur,hv',hB,hg,hr⟩
 . rw [hn.1] at hb;cases hb
 . rw [hv'] at hb
   simp [Value.ownBlock] at hb;subst hb;exact ⟨hB,(Array.getElem?_eq_some_iff.1 hg).1⟩
theorem OwnR.below {w w':World} {B:Nat} {v:Value} {l:List Rf} (h:OwnR w B v l) (hg:w.grownBy w' v.ownBlock):Below B w w' :=
 ⟨hg.os,hg.tape,hg.output,hg.size,λj hj=>hg.block j (by have:=h.2;omega) (λe=>by have:=(h.off e.symm).1;omega)⟩
theorem OwnR.of {w':World} {B n:Nat} {v:Value} {l m:List Rf} {xs:List Value} (h:w'.ownsRow B 110 2 v n xs) (hn:n=(l ++ m).length) (hx:xs=refs l ++ refs m) (hB:B<=w'.heap.size):OwnR w' B v (l ++ m):=by
 subst hn;subst hx;rw [<-refs_append] at h;exact ⟨h,hB⟩
theorem OwnR.base {w:World} {B B':Nat} {v:Value} {l:List Rf} (h:OwnR w B v l) (hB:B'<=B):OwnR w B' v l:=by
 refine ⟨⟨h.1.1,?_⟩,Nat.le_trans hB h.2⟩
 rcases h.1.2 with hn | ⟨g,cap,cur,hv,hb,hr⟩
 . exact .inl hn
 . exact .inr ⟨g,cap,cur,hv,Nat.le_trans hB hb,hr⟩
theorem OwnR.fresh {w:World}:OwnR (w.alloc (.cells #[] 110)) w.heap.size (.slice (some ⟨w.heap.size,0,none⟩) 0 0) []:=by
 refine ⟨⟨by simp [refs],.inr ⟨w.heap.size,0,#[],rfl,Nat.le_refl _,?_,Nat.le_refl _,Nat.zero_le _,rfl,rfl⟩⟩,by simp⟩;exact Blk.new (w:=w) (cs:=#[]) (t:=110)
theorem one_ref {w:World} {s:ByteArray} {n:Int}:∀ j u,(refs [⟨s,n⟩])[j]?=some u->(w.alloc (.cells #[.string s,.int .i64 n] 110)).cell? ((⟨w.heap.size,0,none⟩:Addr).add j)=some u:=by
 intro j u h;have hb:=Blk.new (w:=w) (cs:=#[.string s,.int .i64 n]) (t:=110);have e:refs [⟨s,n⟩] = [.string s,.int .i64 n]:=rfl;rw [e] at h
 match j,h with
 | 0,h=>simp at h;subst h;exact hb.cell 0 _ rfl
 | 1,h=>simp at h;subst h;exact hb.cell 1 _ rfl
 | j+2,h=>simp at h
def OwnT {α:Type} (O:World->Value->α->List Nat->Prop) (w:World) (B C:Nat) (v:Value) (x:α):Prop :=
 ∃ fp,O w v x fp/\fp.Nodup/\(∀ a ∈ fp,B<=a/\a<C)/\B<=C/\C<=w.heap.size
def ORs (w:World) (v:Value) (l:List Rf) (fp:List Nat):Prop:=ORows w 110 2 (ORf w 0) v l fp
theorem ORs.rows {w:World} {B C:Nat} {v:Value} {l:List Rf} (h:OwnT ORs w B C v l):Rows w All 2 HRf v l:=by
 obtain ⟨fp,h1,-⟩:=h;exact ORows.rows h1 (λ_ _=>trivial) (λcs x f _ hs h=>h.1)
theorem OwnR.tree {w:World} {B:Nat} {v:Value} {l:List Rf} (h:OwnR w B v l) (hl:∀ r ∈ l,okS r.name/\okI r.arity):OwnT ORs w B w.heap.size v l:=by
 obtain ⟨h,hB⟩:=h
 rcases h.2 with ⟨rfl,hn⟩ | ⟨g,cap,cur,rfl,hb,hg,h1,h2,h3,h4⟩
 . obtain rfl:=List.length_eq_zero_iff.1 hn
   exact ⟨[],.inl ⟨rfl,rfl,_,_,rfl,Nat.zero_le _⟩,by simp,λa ha=>by simp at ha,hB,Nat.le_refl _⟩
 . by_cases hne:l = []
   . subst hne
     exact ⟨[],.inl ⟨rfl,rfl,_,_,rfl,h2⟩,by simp,λa ha=>by simp at ha,hB,Nat.le_refl _⟩
   . have hgl:g<w.heap.size:=(Array.getElem?_eq_some_iff.1 hg).1
     refine ⟨[g],.inr ⟨hne,refs l,g,cap,l.map (λ_=>[]),⟨h.1,.inr ⟨g,cap,cur,rfl,Nat.zero_le _,hg,h1,h2,h3,h4⟩⟩,rfl,by simp,?_,λi x f hi hf=>?_⟩,by simp,λa ha=>?_,hB,Nat.le_refl _⟩
     . have:(l.map λ_=>([]:List Nat)).flatten = []:=by
        rw [List.flatten_eq_nil_iff];intro x hx;simp at hx;exact hx.2
       rw [this]
     . rw [List.getElem?_map,hi] at hf
       simp at hf;subst hf;exact ⟨_,rfl,λj hj=>refs_at l i x hi j hj,⟨rfl,hl x (List.mem_of_getElem? hi)⟩,rfl⟩
     . simp at ha;subst ha;exact ⟨hb,hgl⟩
def foldV {α:Type} (f:α->List ByteArray) (l:List ByteArray) (ks:List α):List ByteArray:=ks.foldl (λacc y=>onceS acc (f y)) l
theorem foldV_snoc {α:Type} (f:α->List ByteArray) (l:List ByteArray) (ks:List α) (k:Nat) (y:α) (h:ks[k]?=some y):foldV f l (ks.take (k+1))=onceS (foldV f l (ks.take k)) (f y):=by
 unfold foldV;rw [List.take_add_one,h];simp
theorem foldV_len {α:Type} (f:α->List ByteArray) (wt:α->Nat):∀ (ks:List α) (l:List ByteArray),(∀ y ∈ ks,(f y).length<=1+wt y)->(foldV f l ks).length<=l.length+wtS wt ks
 | [],l,_=>by simp [foldV]
 | y :: ys,l,h=>by
  have h1:=foldV_len f wt ys (onceS l (f y)) (λz hz=>h z (by simp [hz]));have h2:=onceS_length l (f y);have h3:=h y (by simp);have h4:wtS wt (y :: ys)=1+wt y+wtS wt ys:=(by simp [wtS];omega);have h5:foldV f l (y :: ys)=foldV f (onceS l (f y)) ys:=rfl;rw [h5,h4];omega
theorem foldV_mem {α:Type} (f:α->List ByteArray):∀ (ks:List α) (l:List ByteArray),∀ s ∈ foldV f l ks,s ∈ l\/∃ y ∈ ks,s ∈ f y
 | [],l,s,h=>.inl h
 | y :: ys,l,s,h=>by
  rcases foldV_mem f ys (onceS l (f y)) s h with h | ⟨z,hz,hs⟩
  . rcases onceS_mem l (f y) s h with h | h
    . exact .inl h
    . exact .inr ⟨y,by simp,h⟩
  . exact .inr ⟨z,by simp [hz],hs⟩
def patV:Nat->Ex->List ByteArray
 | 0,_=>[]
 | d+1,.mk k n t m ks cs=>foldV (patV d) (if k=2 then [t] else []) ks
theorem patV_len:∀ (d:Nat) (x:Ex),(patV d x).length<=1+wtEx d x
 | 0,_=>by simp [patV]
 | d+1,.mk k n t m ks cs=>by
  have h1:=foldV_len (patV d) (wtEx d) ks (if k=2 then [t] else []) (λy _=>patV_len d y)
  have h2:(if k=2 then [t] else ([]:List ByteArray)).length<=1:=by split <;> simp
  have hw:wtEx (d+1) (.mk k n t m ks cs)=t.size+m.size+wtS (wtEx d) ks+wtS (wtCl (wtEx d)) cs:=rfl;have h3:patV (d+1) (.mk k n t m ks cs)=foldV (patV d) (if k=2 then [t] else []) ks:=rfl;rw [h3,hw];omega
def bndV:Nat->Ex->List ByteArray
 | 0,_=>[]
 | d+1,.mk k n t m ks cs=>match k,ks with
  | 9,[a,b]=>onceS (bndV d b) (patV d a)
  | _,ks=>foldV (bndV d) [] ks
def exS:Nat->Ex->Prop
 | 0,_=>False
 | d+1,.mk k n t m ks cs=>okS t/\(∀ y ∈ ks,exS d y)/\∀ c ∈ cs,(∀ y ∈ c.1,exS d y)/\∀ y ∈ c.2,exS d y
theorem rows_mem' {α:Type} {w:World} {S:Nat->Prop} {c:Nat} {R:List Value->α->Prop} {v:Value} {es:List α} (h:Rows w S c R v es):∀ y ∈ es,∃ cs,R cs y:=by
 intro y hy;obtain ⟨p,cap,_,_,_,hr⟩:=h;obtain ⟨i,hi⟩:=List.mem_iff_getElem?.1 hy;obtain ⟨g,off,_,_,_,hat⟩:=hr (by intro e;rw [e] at hi;simp at hi);obtain ⟨cs,_,_,hv⟩:=hat i y hi;exact ⟨cs,hv⟩
theorem HEx.txts {w:World} {S:Nat->Prop}:∀ {d:Nat} {cs:List Value} {x:Ex},HEx w S d cs x->exS d x
 | 0,_,_,h=>h.elim
 | d+1,cs,.mk k n t m ks cl,h=>by
  obtain ⟨kv,cv,rfl,h1,h2,h3,h4,f0,f1⟩:=h;refine ⟨h3,λy hy=>?_,λc hc=>?_⟩
  . obtain ⟨_,hv⟩:=rows_mem' f0 y hy
    exact hv.txts
  . obtain ⟨_,p,b,_,g0,g1⟩:=rows_mem' f1 c hc
    exact ⟨λy hy=>by obtain ⟨_,hv⟩:=rows_mem' g0 y hy;exact hv.txts,λy hy=>by obtain ⟨_,hv⟩:=rows_mem' g1 y hy;exact hv.txts⟩
theorem patV_ok:∀ (d:Nat) (x:Ex),exS d x->∀ s ∈ patV d x,okS s
 | 0,_,h,_,_=>h.elim
 | d+1,.mk k n t m ks cs,h,s,hs=>by
  rcases foldV_mem (patV d) ks _ s hs with h1 | ⟨y,hy,h1⟩
  . split at h1
    . simp at h1;subst h1;exact h.1
    . simp at h1
  . exact patV_ok d y (h.2.1 y hy) s h1
abbrev keyS (s:ByteArray):List UInt8:=s.toList
def NdK (l:List ByteArray):Prop:=(l.map keyS).Nodup
def SubK (l:List ByteArray) (m:List (List UInt8)):Prop:=∀ s ∈ l,keyS s ∈ m
theorem nodup_len {α:Type} [BEq α] [LawfulBEq α]:∀ (l m:List α),l.Nodup->(∀ x ∈ l,x ∈ m)->l.length<=m.length
 | [],m,_,_=>Nat.zero_le _
 | x :: xs,m,hn,hs=>by
  have hx:x ∈ m:=hs x (by simp);rw [List.nodup_cons] at hn;have h1:=nodup_len xs (m.erase x) hn.2 (λy hy=>(List.mem_erase_of_ne (by intro e;subst e;exact hn.1 hy)).2 (hs y (by simp [hy])));have h2:=List.length_erase_of_mem hx;have h3:0<m.length:=List.length_pos_of_mem hx;simp only [List.length_cons];omega
theorem NdK.len {l:List ByteArray} {m:List (List UInt8)} (h:NdK l) (hs:SubK l m):l.length<=m.length:=by
 have:=nodup_len (l.map keyS) m h (λx hx=>by
  obtain ⟨s,hs',rfl⟩:=List.mem_map.1 hx
  exact hs s hs')
 simpa using this
theorem hasS_mem (l:List ByteArray) (s:ByteArray):hasS l s=true ↔ keyS s ∈ l.map keyS:=by
 unfold hasS;rw [List.any_eq_true,List.mem_map]
 constructor
 . rintro ⟨x,hx,e⟩;exact ⟨x,hx,beq_iff_eq.1 e⟩
 . rintro ⟨x,hx,e⟩;exact ⟨x,hx,beq_iff_eq.2 e⟩
theorem onceS_nd:∀ (ys l:List ByteArray),NdK l->NdK (onceS l ys)
 | [],l,h=>h
 | y :: ys,l,h=>by
  refine onceS_nd ys _ ?_
  split
  . exact h
  . rename_i hy
    unfold NdK at *;rw [List.map_append,List.nodup_append];refine ⟨h,by simp,λa ha b hb=>?_⟩;simp at hb;subst hb;intro e;subst e;exact hy ((hasS_mem l y).2 ha)
theorem onceS_left:∀ (ys l:List ByteArray) (k:List UInt8),k ∈ l.map keyS->k ∈ (onceS l ys).map keyS
 | [],l,k,h=>h
 | y :: ys,l,k,h=>by
  refine onceS_left ys _ k ?_
  split
  . exact h
  . rw [List.map_append];exact List.mem_append_left _ h
theorem onceS_right:∀ (ys l:List ByteArray) (k:List UInt8),k ∈ ys.map keyS->k ∈ (onceS l ys).map keyS
 | [],l,k,h=>by simp at h
 | y :: ys,l,k,h=>by
  simp only [List.map_cons,List.mem_cons] at h
  rcases h with rfl | h
  . refine onceS_left ys _ _ ?_
    split
    . rename_i hy;exact (hasS_mem l y).1 hy
    . simp
  . exact onceS_right ys _ k h
theorem foldV_nd {α:Type} (f:α->List ByteArray):∀ (ks:List α) (l:List ByteArray),NdK l->NdK (foldV f l ks)
 | [],l,h=>h
 | y :: ys,l,h=>foldV_nd f ys _ (onceS_nd _ _ h)
theorem foldV_left {α:Type} (f:α->List ByteArray):∀ (ks:List α) (l:List ByteArray) (k:List UInt8),k ∈ l.map keyS->k ∈ (foldV f l ks).map keyS
 | [],l,k,h=>h
 | y :: ys,l,k,h=>foldV_left f ys _ k (onceS_left _ _ k h)
theorem foldV_right {α:Type} (f:α->List ByteArray):∀ (ks:List α) (l:List ByteArray) (y:α),y ∈ ks->∀ k,k ∈ (f y).map keyS->k ∈ (foldV f l ks).map keyS
 | [],l,y,hy,k,h=>by simp at hy
 | z :: ys,l,y,hy,k,h=>by
  rcases List.mem_cons.1 hy with rfl | hy
  . exact foldV_left f ys _ k (onceS_right _ _ k h)
  . exact foldV_right f ys _ y hy k h
def varL:Nat->Ex->List (List UInt8)
 | 0,_=>[]
 | d+1,.mk k n t m ks cs=>(if k=2 then [keyS t] else []) ++ (ks.flatMap (varL d) ++ cs.flatMap λc=>c.1.flatMap (varL d) ++ c.2.flatMap (varL d))
theorem flat_len {α:Type} (f:α->List (List UInt8)) (wt:α->Nat):∀ (ks:List α),(∀ y ∈ ks,(f y).length<=1+wt y)->(ks.flatMap f).length<=wtS wt ks
 | [],_=>by simp [wtS]
 | y :: ys,h=>by
  have h1:=flat_len f wt ys (λz hz=>h z (by simp [hz]));have h2:=h y (by simp);have h4:wtS wt (y :: ys)=1+wt y+wtS wt ys:=(by simp [wtS];omega);rw [List.flatMap_cons,List.length_append,h4];omega
theorem varL_len:∀ (d:Nat) (x:Ex),(varL d x).length<=1+wtEx d x
 | 0,_=>by simp [varL]
 | d+1,.mk k n t m ks cs=>by
  have h1:=flat_len (varL d) (wtEx d) ks (λy _=>varL_len d y)
  have h2:(if k=2 then [keyS t] else ([]:List (List UInt8))).length<=1:=by split <;> simp
  have h3:=flat_len (λc:Cl=>c.1.flatMap (varL d) ++ c.2.flatMap (varL d)) (wtCl (wtEx d)) cs (λc _=>by
   have g1:=flat_len (varL d) (wtEx d) c.1 (λy _=>varL_len d y);have g2:=flat_len (varL d) (wtEx d) c.2 (λy _=>varL_len d y);rw [List.length_append];have:wtCl (wtEx d) c=wtS (wtEx d) c.1+wtS (wtEx d) c.2:=rfl
   omega)
  have hw:wtEx (d+1) (.mk k n t m ks cs)=t.size+m.size+wtS (wtEx d) ks+wtS (wtCl (wtEx d)) cs:=rfl;have hv:varL (d+1) (.mk k n t m ks cs)=(if k=2 then [keyS t] else []) ++ (ks.flatMap (varL d) ++ cs.flatMap λc=>c.1.flatMap (varL d) ++ c.2.flatMap (varL d)):=rfl;have h5:(cs.flatMap λc=>c.1.flatMap (varL d) ++ c.2.flatMap (varL d)).length<=wtS (wtCl (wtEx d)) cs:=h3;rw [hv,hw,List.length_append,List.length_append];exact Nat.le_trans (Nat.add_le_add h2 (Nat.add_le_add h1 h5)) (by omega)
theorem patV_nd (d:Nat) (x:Ex):NdK (patV d x):=by
 cases d with
 | zero=>simp [patV,NdK]
 | succ d =>
  obtain ⟨k,n,t,m,ks,cs⟩:=x;refine foldV_nd _ _ _ ?_
  split <;> simp [NdK]
theorem patV_sub:∀ (d:Nat) (x:Ex),SubK (patV d x) (varL d x)
 | 0,_=>λs hs=>by simp [patV] at hs
 | d+1,.mk k n t m ks cs=>λs hs=>by
  have hv:varL (d+1) (.mk k n t m ks cs)=(if k=2 then [keyS t] else []) ++ (ks.flatMap (varL d) ++ cs.flatMap λc=>c.1.flatMap (varL d) ++ c.2.flatMap (varL d)):=rfl;rw [hv]
  rcases foldV_mem (patV d) ks _ s hs with h | ⟨y,hy,h⟩
  . split at h
    . rename_i hk
      simp at h;subst h;simp [hk]
    . simp at h
  . exact List.mem_append_right _ (List.mem_append_left _ (List.mem_flatMap.2 ⟨y,hy,patV_sub d y s h⟩))
def allC (f:Ex->List ByteArray) (acc:List ByteArray) (c:Cl):List ByteArray:=foldV f (foldV f acc c.1) c.2
def allV:Nat->Ex->List ByteArray
 | 0,_=>[]
 | d+1,.mk k n t m ks cs=>cs.foldl (allC (allV d)) (foldV (allV d) (patV (d+1) (.mk k n t m ks cs)) ks)
theorem foldC_nd (f:Ex->List ByteArray):∀ (cs:List Cl) (l:List ByteArray),NdK l->NdK (cs.foldl (allC f) l)
 | [],l,h=>h
 | c :: cs,l,h=>foldC_nd f cs _ (foldV_nd _ _ _ (foldV_nd _ _ _ h))
theorem foldC_left (f:Ex->List ByteArray):∀ (cs:List Cl) (l:List ByteArray) (k:List UInt8),k ∈ l.map keyS->k ∈ (cs.foldl (allC f) l).map keyS
 | [],l,k,h=>h
 | c :: cs,l,k,h=>foldC_left f cs _ k (foldV_left _ _ _ k (foldV_left _ _ _ k h))
theorem foldC_right (f:Ex->List ByteArray):∀ (cs:List Cl) (l:List ByteArray) (c:Cl),c ∈ cs->∀ y,(y ∈ c.1\/y ∈ c.2)->∀ k,k ∈ (f y).map keyS->k ∈ (cs.foldl (allC f) l).map keyS
 | [],l,c,hc,y,hy,k,h=>by simp at hc
 | b :: cs,l,c,hc,y,hy,k,h=>by
  rcases List.mem_cons.1 hc with rfl | hc
  . refine foldC_left f cs _ k ?_
    rcases hy with hy | hy
    . exact foldV_left _ _ _ k (foldV_right _ _ _ y hy k h)
    . exact foldV_right _ _ _ y hy k h
  . exact foldC_right f cs _ c hc y hy k h
theorem foldC_mem (f:Ex->List ByteArray):∀ (cs:List Cl) (l:List ByteArray),∀ s ∈ cs.foldl (allC f) l,s ∈ l\/∃ c ∈ cs,∃ y,(y ∈ c.1\/y ∈ c.2)/\s ∈ f y
 | [],l,s,h=>.inl h
 | c :: cs,l,s,h=>by
  rcases foldC_mem f cs (allC f l c) s h with h | ⟨b,hb,y,hy,hs⟩
  . rcases foldV_mem f c.2 _ s h with h | ⟨y,hy,hs⟩
    . rcases foldV_mem f c.1 _ s h with h | ⟨y,hy,hs⟩
      . exact .inl h
      . exact .inr ⟨c,by simp,y,.inl hy,hs⟩
    . exact .inr ⟨c,by simp,y,.inr hy,hs⟩
  . exact .inr ⟨b,by simp [hb],y,hy,hs⟩
theorem allV_nd (d:Nat) (x:Ex):NdK (allV d x):=by
 cases d with
 | zero=>simp [allV,NdK]
 | succ d =>
  obtain ⟨k,n,t,m,ks,cs⟩:=x;exact foldC_nd _ _ _ (foldV_nd _ _ _ (patV_nd _ _))
theorem varL_kid {d:Nat} {k n:Int} {t m:ByteArray} {ks:List Ex} {cs:List Cl} {y:Ex} (hy:y ∈ ks) {z:List UInt8} (h:z ∈ varL d y):z ∈ varL (d+1) (.mk k n t m ks cs):=by
 show z ∈ (if k=2 then [keyS t] else []) ++ (ks.flatMap (varL d) ++ cs.flatMap λc=>c.1.flatMap (varL d) ++ c.2.flatMap (varL d));exact List.mem_append_right _ (List.mem_append_left _ (List.mem_flatMap.2 ⟨y,hy,h⟩))
theorem varL_cl {d:Nat} {k n:Int} {t m:ByteArray} {ks:List Ex} {cs:List Cl} {c:Cl} (hc:c ∈ cs) {y:Ex} (hy:y ∈ c.1\/y ∈ c.2) {z:List UInt8} (h:z ∈ varL d y):z ∈ varL (d+1) (.mk k n t m ks cs):=by
 show z ∈ (if k=2 then [keyS t] else []) ++ (ks.flatMap (varL d) ++ cs.flatMap λc=>c.1.flatMap (varL d) ++ c.2.flatMap (varL d));refine List.mem_append_right _ (List.mem_append_right _ (List.mem_flatMap.2 ⟨c,hc,?_⟩))
 rcases hy with hy | hy
 . exact List.mem_append_left _ (List.mem_flatMap.2 ⟨y,hy,h⟩)
 . exact List.mem_append_right _ (List.mem_flatMap.2 ⟨y,hy,h⟩)
structure Got (d:Nat) (x:Ex) (l:List ByteArray):Prop where
 nd:NdK l
 sub:SubK l (varL d x)
 ok:∀ s ∈ l,okS s
theorem Got.len {d:Nat} {x:Ex} {l:List ByteArray} (h:Got d x l) (hw:wtEx d x<=16777216):l.length<=16777217:=by
 have h1:=h.nd.len h.sub;have h2:=varL_len d x;omega
theorem allV_sub:∀ (d:Nat) (x:Ex),SubK (allV d x) (varL d x)
 | 0,_=>λs hs=>by simp [allV] at hs
 | d+1,.mk k n t m ks cs=>λs hs=>by
  rcases foldC_mem (allV d) cs _ s hs with h | ⟨c,hc,y,hy,h⟩
  . rcases foldV_mem (allV d) ks _ s h with h | ⟨y,hy,h⟩
    . exact patV_sub (d+1) _ s h
    . exact varL_kid hy (allV_sub d y s h)
  . exact varL_cl hc hy (allV_sub d y s h)
theorem allV_ok:∀ (d:Nat) (x:Ex),exS d x->∀ s ∈ allV d x,okS s
 | 0,_,h,_,_=>h.elim
 | d+1,.mk k n t m ks cs,h,s,hs=>by
  rcases foldC_mem (allV d) cs _ s hs with h1 | ⟨c,hc,y,hy,h1⟩
  . rcases foldV_mem (allV d) ks _ s h1 with h1 | ⟨y,hy,h1⟩
    . exact patV_ok (d+1) _ h s h1
    . exact allV_ok d y (h.2.1 y hy) s h1
  . rcases hy with hy | hy
    . exact allV_ok d y ((h.2.2 c hc).1 y hy) s h1
    . exact allV_ok d y ((h.2.2 c hc).2 y hy) s h1
theorem allV_got {d:Nat} {x:Ex} (h:exS d x):Got d x (allV d x):=⟨allV_nd d x,allV_sub d x,allV_ok d x h⟩
theorem allV_all:∀ (d:Nat) (x:Ex) (z:List UInt8),z ∈ varL d x->z ∈ (allV d x).map keyS
 | 0,_,z,h=>by simp [varL] at h
 | d+1,.mk k n t m ks cs,z,h=>by
  have hv:varL (d+1) (.mk k n t m ks cs)=(if k=2 then [keyS t] else []) ++ (ks.flatMap (varL d) ++ cs.flatMap λc=>c.1.flatMap (varL d) ++ c.2.flatMap (varL d)):=rfl;rw [hv] at h
  rcases List.mem_append.1 h with h | h
  . refine foldC_left _ _ _ _ (foldV_left _ _ _ _ ?_)
    split at h
    . rename_i hk
      simp at h;subst h;refine foldV_left _ _ _ _ ?_;simp [hk]
    . simp at h
  . rcases List.mem_append.1 h with h | h
    . obtain ⟨y,hy,h⟩:=List.mem_flatMap.1 h
      exact foldC_left _ _ _ _ (foldV_right _ _ _ y hy _ (allV_all d y z h))
    . obtain ⟨c,hc,h⟩:=List.mem_flatMap.1 h
      rcases List.mem_append.1 h with h | h
      . obtain ⟨y,hy,h⟩:=List.mem_flatMap.1 h
        exact foldC_right _ _ _ c hc y (.inl hy) _ (allV_all d y z h)
      . obtain ⟨y,hy,h⟩:=List.mem_flatMap.1 h
        exact foldC_right _ _ _ c hc y (.inr hy) _ (allV_all d y z h)
section
open Go.Proofs.Tryz
theorem anyT_succ' {α:Type} (f:α->Bool) (xs:List α) (k:Nat) (x:α) (h:xs[k]?=some x) (ht:(xs.take k).any f=false) (hx:f x=false):(xs.take (k+1)).any f=false:=by
 rw [List.take_add_one,h,List.any_append,ht];simp [hx]
theorem anyT_at' {α:Type} (f:α->Bool) (xs:List α) (k:Nat) (x:α) (h:xs[k]?=some x) (hx:f x=true):xs.any f=true:=by
 rw [List.any_eq_true];exact ⟨x,List.mem_of_getElem? h,hx⟩
theorem hasS_any (w:World) (v:Value) (xs:List ByteArray) (s:ByteArray) (h:StrR w v xs) :
 Calls prog 17 #[v,.string s] w λe w'=>e=.returned (.bool (hasS xs s))/\w'=w:=by
 have hv:hasS xs s=xs.any (λx=>x.toList == s.toList):=rfl;rw [hv];clear hv;obtain ⟨p,cap,rfl,hcl,hcm,hx⟩:=h;have hnb:=sqM hcl hcm;generalize hn:xs.length=n at *;have HN:=hid hn;have HX:=hid hx;clear hx hn;go_enter func17,ntmps17;go_wp2
 go_loop [5] (λiv=>∃ k:Nat,k<=n/\iv=.int .i64 k/\Hid ((xs.take k).any (λx=>x.toList == s.toList)=false)) (λiv=>n - (intOf iv).toNat)
 case atStart=>exact ⟨0,Nat.zero_le _,rfl,by show _=_;simp⟩
 case round =>
  obtain ⟨k,hk,rfl,hno⟩:=hrel;by_cases hlt:k<n
  . obtain ⟨x,hxk⟩:=sqA (l:=xs) (k:=k) HN.out hlt
    obtain ⟨g,off,rfl,-,hgl,hat⟩:=HX.out (sqE hxk);obtain ⟨cs,hcsl,hcs,rfl,-⟩:=hat k x hxk;have a0:=hcs 0 (by omega);simp at a0;have hki:(k:Int)<(n:Int):=(by omega);have hk0:=sqI k;clear hcs hat hcsl
    cases hq:(x.toList == s.toList) with
    | true =>
     have HS:Hid ((xs.any λx=>x.toList == s.toList)=true):=anyT_at' _ xs k x hxk hq;go_wp2;go_ret;exact ⟨by rw [HS.out];rfl,rfl⟩
    | false =>
     have HS:Hid ((xs.take (k+1)).any (λx=>x.toList == s.toList)=false):=anyT_succ' _ xs k x hxk hno.out hq;go_wp2
     go_round
     case rel=>exact ⟨k+1,by omega,by go_num,HS⟩
     case measure=>simp [intOf];omega
  . have HS:Hid ((xs.any λx=>x.toList == s.toList)=false):=by
     have:=hno.out
     rwa [List.take_of_length_le (by rw [HN.out];omega)] at this
    go_wp2;go_ret;exact ⟨by rw [HS.out];rfl,rfl⟩
theorem one_str (W:World) (s:ByteArray) (g:Nat) (hg:g=W.heap.size):∀ j u,(strs [s])[j]?=some u->(W.alloc (.cells #[.string s] 9)).cell? ((⟨g,0,none⟩:Addr).add j)=some u:=by
 subst hg;intro j u h
 match j,h with
 | 0,h=>simp [strs] at h;subst h;rw [Addr.add];exact cell_new W _ _ 0 _ rfl
theorem once_any (w:World) (v1 v2:Value) (xs ys:List ByteArray) (h1:StrV w v1 xs) (h2:StrR w v2 ys) (hl:xs.length+ys.length<=134217728) :
 Calls prog 43 #[v1,v2] w λe w'=>∃ u,e=.returned u/\OwnS w' w.heap.size u (onceS xs ys)/\Bz w w':=by
 obtain ⟨h1,hnil⟩:=h1;have OX:=h1.okS;have OY:=h2.okS;obtain ⟨p,cap,rfl,hcl,hcm,hx⟩:=h1;obtain ⟨q,cap',rfl,hcl',hcm',hy⟩:=h2;obtain ⟨i,hi,hz0,hz1,hz2⟩:=info_parts info_str;have hlx:xs.length<=134217728:=(by omega);have hly:ys.length<=134217728:=(by omega)
 have LQ:Hid (∀ k,(onceS xs (ys.take k)).length<=134217728):=λk=>by
  have h3:=onceS_length xs (ys.take k);have h4:(ys.take k).length<=ys.length:=(by rw [List.length_take];omega);omega
 have OQ:Hid (∀ k,∀ x ∈ onceS xs (ys.take k),okS x):=λk x hx=>by
  rcases onceS_mem _ _ x hx with h | h
  . exact OX x h
  . exact OY x (List.mem_of_mem_take h)
 have HY:=hid hy;have O0:Hid (OwnS (w.alloc (.cells #[] 9)) w.heap.size (.slice (some ⟨w.heap.size,0,none⟩) 0 0) []):=OwnS.fresh;have BL:Hid (Bz w (w.alloc (.cells #[] 9))):=(sqN _ _)
 have HC:Hid (∀ a,p=some a->∀ j u,(strs xs)[j]?=some u->(w.alloc (.cells #[] 9)).cell? (a.add j)=some u):=λa ha j u hj=>by
  have hne:xs≠[]:=(by intro e;rw [e] at hj;simp [strs] at hj);obtain ⟨g,off,hp,-,hgl,hat⟩:=hx hne;have hj':=hj;simp only [strs,List.getElem?_map,Option.map_eq_some_iff] at hj';obtain ⟨x,hxj,rfl⟩:=hj';obtain ⟨cs,_,hcs,rfl,_⟩:=hat j x hxj;have h0:=hcs 0 (by omega);rw [hp] at ha;obtain rfl:=Option.some.inj ha;have e1:(⟨g,off,none⟩:Addr).add j=⟨g,off+j * 1+0,none⟩:=(by simp [Addr.add]);rw [e1,BL.out.cell (p:=⟨g,_,none⟩) hgl];exact h0
 generalize hn:ys.length=n at *;have HN:=hid hn;clear hy OX OY hx hn
 cases p with
 | none =>
  have hxs:xs = []:=by
   have:=hnil _ _ rfl;simp only [Value.slice.injEq,true_and] at this;exact List.length_eq_zero_iff.1 this.1
  have hcz:cap=0:=by
   have:=hnil _ _ rfl;simp only [Value.slice.injEq,true_and] at this;exact this.2
  subst hxs hcz;simp only [List.length_nil] at *;clear hnil;go_enter func43,ntmps43;go_wp2_with (first | (at_builtin;refine wpList_append_own_none rfl _ _ 49 rfl w.heap.size 9 i 1 underlying49 hi _ _ _ rfl O0.out.1 rfl ?_));have HO1:=O0;have HB1:=BL;go_wp2_with fail
  go_loopw [5,6] (λov iv wr=>∃ k:Nat,k<=n/\iv=.int .i64 k/\Hid (OwnS wr w.heap.size ov (onceS [] (ys.take k)))/\Bz w wr) (λ_ iv _=>n - (intOf iv).toNat)
  case atStart=>exact ⟨0,Nat.zero_le _,rfl,HO1.out,HB1.out⟩
  case round =>
   obtain ⟨k,hk,rfl,ho,hb⟩:=hrel;have HB:=hid hb;by_cases hlt:k<n
   . obtain ⟨y,hyk⟩:=sqA (l:=ys) (k:=k) HN.out hlt
     obtain ⟨g,off,rfl,-,hgl,hat⟩:=HY.out (sqE hyk);obtain ⟨cs,hcsl,hcs,rfl,-⟩:=hat k y hyk;have a0:=hcs 0 (by omega);rw [<-hb.cell (p:=⟨g,_,none⟩) hgl] at a0;simp at a0;have hki:(k:Int)<(n:Int):=(by omega);have hk0:=sqI k
     have HJ:Hid (onceS [] (ys.take (k+1))=if hasS (onceS [] (ys.take k)) y then onceS [] (ys.take k) else onceS [] (ys.take k) ++ [y]):=by
      show _=_;rw [List.take_add_one,hyk];exact onceS_snoc [] (ys.take k) y
     have lq:=LQ.out k;have oq:=OQ.out k;have SR:=hid (ho.out.strR oq);generalize hJ0:onceS [] (ys.take k)=J at *;clear hb hcs hat hcsl oq hJ0
     cases hq:hasS J y with
     | true =>
      have HJ2:Hid (onceS [] (ys.take (k+1))=J):=(by show _=_;rw [HJ.out,hq];rfl);go_wp2_with (first | (go_at_call 17;go_must (refine (hasS_any _ _ _ _ SR.out).mono ?_;rintro e w9 ⟨rfl,hw9⟩;rw [hq,hw9];clear hw9 w9)));exact ⟨⟨k+1,by omega,by go_num,by show OwnS _ _ _ _;rw [HJ2.out];exact ho.out,HB.out⟩,by simp [intOf];omega⟩
     | false =>
      have HJ2:Hid (onceS [] (ys.take (k+1))=J ++ [y]):=(by show _=_;rw [HJ.out,hq];rfl);have OA:Hid (OwnS (wr.alloc (.cells #[.string y] 9)) w.heap.size u5 J):=ho.out.next ((sqN _ _));have N1:=hid (one_str wr y _ rfl);have BA:Hid (Bz w (wr.alloc (.cells #[.string y] 9))):=HB.out.alloc HB.out.size _;go_wp2_with (first | (go_at_call 17;go_must (refine (hasS_any _ _ _ _ SR.out).mono ?_;rintro e w9 ⟨rfl,hw9⟩;rw [hq,hw9];clear hw9 w9)) | (at_builtin;refine wpList_append_own _ rfl _ _ 49 rfl w.heap.size 9 i (.string ⟨#[]⟩) 1 16 underlying49 hi hz0 hz1 hz2 rfl (by decide) u5 _ _ rfl OA.out.1 _ 1 1 (strs [y]) rfl rfl N1.out (strs_oneCell _) (by unfold maxLen;omega) (by omega) OA.out.2 ?_));intro u2 w2 hown2 hgr2 _;have HO2:=hid (OwnS.of hown2 (by simp) rfl (Nat.le_trans OA.out.2 hgr2.size));have HB2:=hid (BA.out.trans (OA.out.below hgr2));clear hown2 hgr2;go_wp2_with fail;exact ⟨⟨k+1,by omega,by go_num,by show OwnS _ _ _ _;rw [HJ2.out];exact HO2.out,HB2.out⟩,by simp [intOf];omega⟩
   . have HS:Hid (OwnS wr w.heap.size u5 (onceS [] ys)):=by
      have:=ho.out
      rwa [List.take_of_length_le (by rw [HN.out];omega)] at this
     clear hb;go_wp2;go_ret;exact ⟨u5,rfl,HS.out,HB.out⟩
 | some a =>
  go_enter func43,ntmps43;go_wp2_with (first | (at_builtin;refine wpList_append_own _ rfl _ _ 49 rfl w.heap.size 9 i (.string ⟨#[]⟩) 1 16 underlying49 hi hz0 hz1 hz2 rfl (by decide) _ _ _ rfl O0.out.1 a xs.length cap (strs xs) rfl (by rw [strs_length];omega) (HC.out a rfl) (strs_oneCell _) (by unfold maxLen;simp only [List.length_nil];omega) (by simp only [List.length_nil];omega) O0.out.2 ?_));intro u1 w1 hown1 hgr1 _
  have HO1:Hid (OwnS w1 w.heap.size u1 xs):=by
   have:=OwnS.of (l:=[]) (m:=xs) hown1 (by simp) (by simp [strs]) (Nat.le_trans O0.out.2 hgr1.size);show OwnS _ _ _ _
   simpa using this
  have HB1:=hid (BL.out.trans (O0.out.below hgr1));clear hown1 hgr1;go_wp2_with fail
  go_loopw [5,6] (λov iv wr=>∃ k:Nat,k<=n/\iv=.int .i64 k/\Hid (OwnS wr w.heap.size ov (onceS xs (ys.take k)))/\Bz w wr) (λ_ iv _=>n - (intOf iv).toNat)
  case atStart=>exact ⟨0,Nat.zero_le _,rfl,HO1.out,HB1.out⟩
  case round =>
   obtain ⟨k,hk,rfl,ho,hb⟩:=hrel;have HB:=hid hb;by_cases hlt:k<n
   . obtain ⟨y,hyk⟩:=sqA (l:=ys) (k:=k) HN.out hlt
     obtain ⟨g,off,rfl,-,hgl,hat⟩:=HY.out (sqE hyk);obtain ⟨cs,hcsl,hcs,rfl,-⟩:=hat k y hyk;have a0:=hcs 0 (by omega);rw [<-hb.cell (p:=⟨g,_,none⟩) hgl] at a0;simp at a0;have hki:(k:Int)<(n:Int):=(by omega);have hk0:=sqI k
     have HJ:Hid (onceS xs (ys.take (k+1))=if hasS (onceS xs (ys.take k)) y then onceS xs (ys.take k) else onceS xs (ys.take k) ++ [y]):=by
      show _=_;rw [List.take_add_one,hyk];exact onceS_snoc xs (ys.take k) y
     have lq:=LQ.out k;have oq:=OQ.out k;have SR:=hid (ho.out.strR oq);generalize hJ0:onceS xs (ys.take k)=J at *;clear hb hcs hat hcsl oq hJ0
     cases hq:hasS J y with
     | true =>
      have HJ2:Hid (onceS xs (ys.take (k+1))=J):=(by show _=_;rw [HJ.out,hq];rfl);go_wp2_with (first | (go_at_call 17;go_must (refine (hasS_any _ _ _ _ SR.out).mono ?_;rintro e w9 ⟨rfl,hw9⟩;rw [hq,hw9];clear hw9 w9)));exact ⟨⟨k+1,by omega,by go_num,by show OwnS _ _ _ _;rw [HJ2.out];exact ho.out,HB.out⟩,by simp [intOf];omega⟩
     | false =>
      have HJ2:Hid (onceS xs (ys.take (k+1))=J ++ [y]):=(by show _=_;rw [HJ.out,hq];rfl);have OA:Hid (OwnS (wr.alloc (.cells #[.string y] 9)) w.heap.size u5 J):=ho.out.next ((sqN _ _));have N1:=hid (one_str wr y _ rfl);have BA:Hid (Bz w (wr.alloc (.cells #[.string y] 9))):=HB.out.alloc HB.out.size _;go_wp2_with (first | (go_at_call 17;go_must (refine (hasS_any _ _ _ _ SR.out).mono ?_;rintro e w9 ⟨rfl,hw9⟩;rw [hq,hw9];clear hw9 w9)) | (at_builtin;refine wpList_append_own _ rfl _ _ 49 rfl w.heap.size 9 i (.string ⟨#[]⟩) 1 16 underlying49 hi hz0 hz1 hz2 rfl (by decide) u5 _ _ rfl OA.out.1 _ 1 1 (strs [y]) rfl rfl N1.out (strs_oneCell _) (by unfold maxLen;omega) (by omega) OA.out.2 ?_));intro u2 w2 hown2 hgr2 _;have HO2:=hid (OwnS.of hown2 (by simp) rfl (Nat.le_trans OA.out.2 hgr2.size));have HB2:=hid (BA.out.trans (OA.out.below hgr2));clear hown2 hgr2;go_wp2_with fail;exact ⟨⟨k+1,by omega,by go_num,by show OwnS _ _ _ _;rw [HJ2.out];exact HO2.out,HB2.out⟩,by simp [intOf];omega⟩
   . have HS:Hid (OwnS wr w.heap.size u5 (onceS xs ys)):=by
      have:=ho.out
      rwa [List.take_of_length_le (by rw [HN.out];omega)] at this
     clear hb;go_wp2;go_ret;exact ⟨u5,rfl,HS.out,HB.out⟩
theorem OwnS.base {w:World} {B B':Nat} {v:Value} {l:List ByteArray} (h:OwnS w B v l) (hB:B'<=B):OwnS w B' v l:=by
 refine ⟨⟨h.1.1,?_⟩,Nat.le_trans hB h.2⟩
 rcases h.1.2 with hn | ⟨g,cap,cur,hv,hb,hr⟩
 . exact .inl hn
 . exact .inr ⟨g,cap,cur,hv,Nat.le_trans hB hb,hr⟩
def NmC (F:FuncId) (d:Nat) (f:Ex->List ByteArray):Prop :=
 ∀ (w:World) (cs:List Value) (x:Ex),HEx w All d cs x->wtEx d x<=16777216->Calls prog F #[.agg cs.toArray] w λe w'=>∃ u,e=.returned u/\OwnS w' w.heap.size u (f x)/\Bz w w'
theorem patVars_of {d:Nat} (hE:NmC 74 d (patV d)):NmC 74 (d+1) (patV (d+1)):=by
 intro w cs x h hwt;have hok:=h.txts;obtain ⟨kv,cv,rfl,-,-,hts,hms,f0,-⟩:=h;obtain ⟨kx,nx,tx,mx,ks,cl⟩:=x;simp only [Ex.kind,Ex.n,Ex.text,Ex.mod,Ex.kids] at *;have hw:wtEx (d+1) (.mk kx nx tx mx ks cl)=tx.size+mx.size+wtS (wtEx d) ks+wtS (wtCl (wtEx d)) cl:=rfl;have wks:wtS (wtEx d) ks<=16777216:=(by omega);obtain ⟨p,cap,rfl,hcl,hcm,hx⟩:=f0;have hnb:=sqM hcl hcm;obtain ⟨i,hi,hz0,hz1,hz2⟩:=info_parts info_str;have hpv:patV (d+1) (.mk kx nx tx mx ks cl)=foldV (patV d) (if kx=2 then [tx] else []) ks:=rfl;rw [hpv]
 have hl0:(if kx=2 then [tx] else ([]:List ByteArray)).length<=1:=by split <;> simp
 have ok0:∀ s ∈ (if kx=2 then [tx] else ([]:List ByteArray)),okS s:=λs hs=>by
  split at hs
  . simp at hs;subst hs;exact hts
  . simp at hs
 have LQ:Hid (∀ k,(foldV (patV d) (if kx=2 then [tx] else []) (ks.take k)).length<=16777217):=λk=>by
  have h1:=foldV_len (patV d) (wtEx d) (ks.take k) (if kx=2 then [tx] else []) (λy _=>patV_len d y)
  have h2:wtS (wtEx d) (ks.take k)<=wtS (wtEx d) ks:=by
   have h3:=sum_take_le (wtEx d) ks k;have h4:(ks.take k).length<=ks.length:=(by rw [List.length_take];omega);unfold wtS;omega
  omega
 have OQ:Hid (∀ k,∀ s ∈ foldV (patV d) (if kx=2 then [tx] else []) (ks.take k),okS s):=λk s hs=>by
  rcases foldV_mem _ _ _ s hs with h | ⟨y,hy,h⟩
  . exact ok0 s h
  . exact patV_ok d y (hok.2.1 y (List.mem_of_mem_take hy)) s h
 have BX:Hid (∀ k x,ks[k]?=some x->wtEx d x<=16777216/\exS d x/\(patV d x).length<=16777217):=λk x hk=>by
  have h1:=sum_take_succ (wtEx d) ks k x hk;have h2:=sum_take_le (wtEx d) ks (k+1);have h3:=patV_len d x;have h4:wtEx d x<=16777216:=(by unfold wtS at wks;omega);exact ⟨h4,hok.2.1 x (List.mem_of_getElem? hk),by omega⟩
 generalize hn:ks.length=n at *;have HN:=hid hn;have HX:=hid hx;obtain ⟨W1,hW1⟩:∃ W1,W1=w.alloc (.cells #[.int .i64 kx,.int .i64 nx,.string tx,.string mx,.slice p n cap,cv] 74):=⟨_,rfl⟩;have bA:Hid (Blk W1 w.heap.size #[.int .i64 kx,.int .i64 nx,.string tx,.string mx,.slice p n cap,cv] 74):=(by show Blk _ _ _ _;rw [hW1];exact Blk.new);have B1:Hid (Bz w W1):=(by show Below _ _ _;rw [hW1];exact (sqN _ _));have hs1:W1.heap.size=w.heap.size+1:=(by rw [hW1];simp);have HW1:=hid hW1
 have O1:Hid (OwnS (W1.alloc (.cells #[] 9)) (w.heap.size+1) (.slice (some ⟨w.heap.size+1,0,none⟩) 0 0) []):=by
  have:=OwnS.fresh (w:=W1)
  rwa [hs1] at this
 have BB:Hid (Bz w (W1.alloc (.cells #[] 9))):=B1.out.alloc B1.out.size _;have bB:Hid (Blk (W1.alloc (.cells #[] 9)) w.heap.size #[.int .i64 kx,.int .i64 nx,.string tx,.string mx,.slice p n cap,cv] 74):=bA.out.alloc;clear hx hn hok ok0 hw hwt hW1 hpv;by_cases k2:kx=2
 . subst k2
   simp only [if_true] at LQ OQ ⊢;have O2:Hid (OwnS ((W1.alloc (.cells #[] 9)).alloc (.cells #[.string tx] 9)) (w.heap.size+1) (.slice (some ⟨w.heap.size+1,0,none⟩) 0 0) []):=O1.out.next ((sqN _ _));have N1:Hid (∀ j u,(strs [tx])[j]?=some u->((W1.alloc (.cells #[] 9)).alloc (.cells #[.string tx] 9)).cell? ((⟨w.heap.size+1+1,0,none⟩:Addr).add j)=some u):=one_str _ tx _ (by simp only [alloc_hs];omega);have B2:Hid (Bz w ((W1.alloc (.cells #[] 9)).alloc (.cells #[.string tx] 9))):=BB.out.alloc BB.out.size _;have bC:Hid (Blk ((W1.alloc (.cells #[] 9)).alloc (.cells #[.string tx] 9)) w.heap.size #[.int .i64 2,.int .i64 nx,.string tx,.string mx,.slice p n cap,cv] 74):=bB.out.alloc;have y0:=bB.out.cell 0 _ rfl;have y2:=bB.out.cell 2 _ rfl;go_enter func74,ntmps74;go_wp2_with (first | (at_builtin;rw [<-HW1.out];refine wpList_append_own _ rfl _ _ 49 rfl (w.heap.size+1) 9 i (.string ⟨#[]⟩) 1 16 underlying49 hi hz0 hz1 hz2 rfl (by decide) (.slice (some ⟨w.heap.size+1,0,none⟩) 0 0) _ _ rfl O2.out.1 ⟨w.heap.size+1+1,0,none⟩ 1 1 (strs [tx]) rfl rfl N1.out (strs_oneCell _) (by unfold maxLen;simp) (by simp) O2.out.2 ?_));intro u2 w2 hown2 hgr2 _
   have HO2:Hid (OwnS w2 w.heap.size u2 [tx]):=by
    have:=OwnS.of (l:=[]) (m:=[tx]) hown2 (by simp) rfl (Nat.le_trans O2.out.2 hgr2.size);exact OwnS.base (by simpa using this) (by omega)
   have bD:=hid (O2.out.blk hgr2 bC.out (by simp [Value.ownBlock]));have HB2:=hid (B2.out.trans ((O2.out.below hgr2).mono (by omega)));clear hown2 hgr2 y0 y2;go_wp2_with fail
   go_loopw [3,4] (λov iv wr=>∃ k:Nat,k<=n/\iv=.int .i64 k/\Hid (OwnS wr w.heap.size ov (foldV (patV d) [tx] (ks.take k)))/\Hid (Blk wr w.heap.size #[.int .i64 2,.int .i64 nx,.string tx,.string mx,.slice p n cap,cv] 74)/\Bz w wr) (λ_ iv _=>n - (intOf iv).toNat)
   case atStart=>exact ⟨0,Nat.zero_le _,rfl,HO2.out,bD.out,HB2.out⟩
   case round =>
    obtain ⟨k,hk,rfl,ho,hbk,hb⟩:=hrel;have HB:=hid hb;have xa4:=hbk.out.cell 4 _ rfl;by_cases hlt:k<n
    . obtain ⟨x,hxk⟩:=sqA (l:=ks) (k:=k) HN.out hlt
      obtain ⟨g,off,rfl,-,hgl,hat⟩:=HX.out (sqE hxk);obtain ⟨cs,hcsl,hcs,r1⟩:=hat k x hxk;have E1:∀ w',Bz w w'->HEx w' All d cs x:=λw' hw=>r1.mono (sqO hw) sqj;obtain ⟨c0,c1,c2,c3,c4,c5,rfl⟩:=len6 hcsl;obtain ⟨a0,a1,a2,a3,a4,a5⟩:=sqC6 hcs (by omega);rw [<-hb.cell (p:=⟨g,_,none⟩) hgl] at a0 a1 a2 a3 a4 a5;simp at a0 a1 a2 a3 a4 a5;have hki:(k:Int)<(n:Int):=(by omega);have hk0:=sqI k;obtain ⟨wx,sx,lx⟩:=BX.out k x hxk;have HJ:Hid (foldV (patV d) [tx] (ks.take (k+1))=onceS (foldV (patV d) [tx] (ks.take k)) (patV d x)):=foldV_snoc _ _ ks k x hxk;have lq:=LQ.out k;have oq:=OQ.out k;generalize hJ0:foldV (patV d) [tx] (ks.take k)=J at *;clear hb hcs hat hcsl r1 hJ0;go_wp2_with fail;refine (hE _ _ x (E1 _ HB.out) wx).mono ?_;rintro e w4 ⟨u4,rfl,ho4,hb4⟩;have HB4:=hid (HB.out.trans (hb4.mono HB.out.size));have SV:Hid (StrV w4 u3 J):=(ho.out.next hb4).strV oq;have SR:=hid (ho4.strR (patV_ok d x sx));have bk4:=hid (hbk.out.next hb4);clear hb4 ho4 xa4 a0 a1 a2 a3 a4 a5;go_wp2_with fail;refine (once_any _ _ _ J (patV d x) SV.out SR.out (by omega)).mono ?_;rintro e w5 ⟨u5,rfl,ho5,hb5⟩;have HB5:=hid (HB4.out.trans (hb5.mono HB4.out.size));have HO5:=hid (ho5.base HB4.out.size);have bk5:=hid (bk4.out.next hb5);clear hb5 ho5;go_wp2_with fail;exact ⟨⟨k+1,by omega,by go_num,by show OwnS _ _ _ _;rw [HJ.out];exact HO5.out,bk5.out,HB5.out⟩,by simp [intOf];omega⟩
    . have HS:Hid (OwnS wr w.heap.size u3 (foldV (patV d) [tx] ks)):=by
       have:=ho.out
       rwa [List.take_of_length_le (by rw [HN.out];omega)] at this
      clear hb;go_wp2;go_ret;exact ⟨u3,rfl,HS.out,HB.out⟩
 . have L2:(if kx=2 then [tx] else ([]:List ByteArray)) = []:=if_neg k2
   simp only [L2] at LQ OQ ⊢;clear L2;have k2b:(kx == 2)=false:=(by simpa using k2);have O9:Hid (OwnS (W1.alloc (.cells #[] 9)) w.heap.size (.slice (some ⟨w.heap.size+1,0,none⟩) 0 0) []):=O1.out.base (by omega);have y0:=bA.out.cell 0 _ rfl;go_enter func74,ntmps74;go_wp2_with fail;rw [<-HW1.out]
   go_loopw [3,4] (λov iv wr=>∃ k:Nat,k<=n/\iv=.int .i64 k/\Hid (OwnS wr w.heap.size ov (foldV (patV d) [] (ks.take k)))/\Hid (Blk wr w.heap.size #[.int .i64 kx,.int .i64 nx,.string tx,.string mx,.slice p n cap,cv] 74)/\Bz w wr) (λ_ iv _=>n - (intOf iv).toNat)
   case atStart=>exact ⟨0,Nat.zero_le _,rfl,O9.out,bB.out,BB.out⟩
   case round =>
    obtain ⟨k,hk,rfl,ho,hbk,hb⟩:=hrel;have HB:=hid hb;have xa4:=hbk.out.cell 4 _ rfl;by_cases hlt:k<n
    . obtain ⟨x,hxk⟩:=sqA (l:=ks) (k:=k) HN.out hlt
      obtain ⟨g,off,rfl,-,hgl,hat⟩:=HX.out (sqE hxk);obtain ⟨cs,hcsl,hcs,r1⟩:=hat k x hxk;have E1:∀ w',Bz w w'->HEx w' All d cs x:=λw' hw=>r1.mono (sqO hw) sqj;obtain ⟨c0,c1,c2,c3,c4,c5,rfl⟩:=len6 hcsl;obtain ⟨a0,a1,a2,a3,a4,a5⟩:=sqC6 hcs (by omega);rw [<-hb.cell (p:=⟨g,_,none⟩) hgl] at a0 a1 a2 a3 a4 a5;simp at a0 a1 a2 a3 a4 a5;have hki:(k:Int)<(n:Int):=(by omega);have hk0:=sqI k;obtain ⟨wx,sx,lx⟩:=BX.out k x hxk;have HJ:Hid (foldV (patV d) [] (ks.take (k+1))=onceS (foldV (patV d) [] (ks.take k)) (patV d x)):=foldV_snoc _ _ ks k x hxk;have lq:=LQ.out k;have oq:=OQ.out k;generalize hJ0:foldV (patV d) [] (ks.take k)=J at *;clear hb hcs hat hcsl r1 hJ0;go_wp2_with fail;refine (hE _ _ x (E1 _ HB.out) wx).mono ?_;rintro e w4 ⟨u4,rfl,ho4,hb4⟩;have HB4:=hid (HB.out.trans (hb4.mono HB.out.size));have SV:Hid (StrV w4 u3 J):=(ho.out.next hb4).strV oq;have SR:=hid (ho4.strR (patV_ok d x sx));have bk4:=hid (hbk.out.next hb4);clear hb4 ho4 xa4 a0 a1 a2 a3 a4 a5;go_wp2_with fail;refine (once_any _ _ _ J (patV d x) SV.out SR.out (by omega)).mono ?_;rintro e w5 ⟨u5,rfl,ho5,hb5⟩;have HB5:=hid (HB4.out.trans (hb5.mono HB4.out.size));have HO5:=hid (ho5.base HB4.out.size);have bk5:=hid (bk4.out.next hb5);clear hb5 ho5;go_wp2_with fail;exact ⟨⟨k+1,by omega,by go_num,by show OwnS _ _ _ _;rw [HJ.out];exact HO5.out,bk5.out,HB5.out⟩,by simp [intOf];omega⟩
    . have HS:Hid (OwnS wr w.heap.size u3 (foldV (patV d) [] ks)):=by
       have:=ho.out
       rwa [List.take_of_length_le (by rw [HN.out];omega)] at this
      clear hb;go_wp2;go_ret;exact ⟨u3,rfl,HS.out,HB.out⟩
theorem patVars_all:∀ d,NmC 74 d (patV d)
 | 0=>λw cs x h _=>h.elim
 | d+1=>patVars_of (patVars_all d)
end
end Go.Proofs.YtbdhpganbbandaaGreatDoor
