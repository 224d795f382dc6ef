/-
  StrRow RowG NameSpecA NameMath NameSpecB
-/
import Derived.Test.YtefpgpbbgclemaaGreatDoorP04
import Derived.Laws.AppendOwnNone
set_option maxHeartbeats 16000000
set_option linter.unusedVariables false
set_option maxRecDepth 100000
namespace Go.Proofs.YtefpgpbbgclemaaGreatDoor
open Go.ChangeShapes Go.WideShapes Go.ChangeAt Go.RowKit
def HStr (cs:List Value) (s:ByteArray):Prop:=cs = [.string s]∧okS s
abbrev StrR (w:World) (v:Value) (xs:List ByteArray):Prop:=Rows w All 1 HStr v xs
theorem StrR.mono {w w':World} {v:Value} {xs:List ByteArray} (h:StrR w v xs) (hs:SameOn All w w'):StrR w' v xs:=Rows.mono h hs (fun _ h=>h) (fun _ _ _ h=>h)
theorem StrR.okS {w:World} {v:Value} {xs:List ByteArray} (h:StrR w v xs):∀ x ∈ xs,Go.Proofs.YtefpgpbbgclemaaGreatDoor.okS x:=by
  intro x hx
  obtain ⟨p,cap,_,_,_,hr⟩:=h
  obtain ⟨i,hi⟩:=List.mem_iff_getElem?.1 hx
  obtain ⟨g,off,_,_,_,hat⟩:=hr (by intro e;rw [e] at hi;simp at hi)
  obtain ⟨cs,_,_,hv⟩:=hat i x hi
  exact hv.2
def strs (l:List ByteArray):List Value:=l.map Value.string
theorem strs_length (l:List ByteArray):(strs l).length=l.length:=by simp [strs]
theorem strs_append (a b:List ByteArray):strs (a ++ b)=strs a ++ strs b:=by simp [strs]
theorem strs_oneCell (l:List ByteArray):∀ u ∈ strs l,u.oneCell'=true:=by
  intro u hu
  simp only [strs,List.mem_map] at hu
  obtain ⟨b,_,rfl⟩:=hu
  rfl
theorem info_str:(Tryz.prog.info? 9).map (fun i=>(i.zero,i.size,i.bytes))=some (some (.string ⟨#[]⟩),1,16):=by kernel_rfl
def OwnS (w:World) (B:Nat) (v:Value) (l:List ByteArray):Prop:=w.ownsRow B 9 1 v l.length (strs l)∧B≤w.heap.size
theorem OwnS.next {w w':World} {B:Nat} {v:Value} {l:List ByteArray} (h:OwnS w B v l) (hb:Below w.heap.size w w'):OwnS w' B v l:=by
  refine ⟨⟨h.1.1,?_⟩,Nat.le_trans h.2 hb.size⟩
  rcases h.1.2 with hn | ⟨g,cap,cur,hv,hB,hg,hr⟩
  · exact .inl hn
  · exact .inr ⟨g,cap,cur,hv,hB,(hb.block g (Array.getElem?_eq_some_iff.1 hg).1).trans hg,hr⟩
theorem OwnS.off {w:World} {B:Nat} {v:Value} {l:List ByteArray} (h:OwnS w B v l) {b:Nat} (hb:v.ownBlock=some b):B≤b∧b<w.heap.size:=by
  rcases h.1.2 with hn | ⟨g',cap',cur,hv',hB,hg,hr⟩
  · rw [hn.1] at hb;cases hb
  · rw [hv'] at hb
    simp [Value.ownBlock] at hb
    subst hb
    exact ⟨hB,(Array.getElem?_eq_some_iff.1 hg).1⟩
theorem OwnS.below {w w':World} {B:Nat} {v:Value} {l:List ByteArray} (h:OwnS w B v l) (hg:w.grownBy w' v.ownBlock):Below B w w' :=
  ⟨hg.os,hg.tape,hg.output,hg.size,fun j hj=>hg.block j (by have:=h.2;omega) (fun e=>by have:=(h.off e.symm).1;omega)⟩
theorem OwnS.blk {w w':World} {B b:Nat} {v:Value} {l:List ByteArray} {cs:Array Value} {t:TypeId} (h:OwnS w B v l) (hg:w.grownBy w' v.ownBlock) (hb:Blk w b cs t) (hne:v.ownBlock≠some b):Blk w' b cs t :=
  (hg.block b hb.lt (fun e=>hne e.symm)).trans hb
theorem OwnS.of {w':World} {B n:Nat} {v:Value} {l m:List ByteArray} {xs:List Value} (h:w'.ownsRow B 9 1 v n xs) (hn:n=(l ++ m).length) (hx:xs=strs l ++ strs m) (hB:B≤w'.heap.size):OwnS w' B v (l ++ m):=by
  subst hn;subst hx;rw [← strs_append] at h;exact ⟨h,hB⟩
theorem OwnS.fresh {w:World}:OwnS (w.alloc (.cells #[] 9)) w.heap.size (.slice (some ⟨w.heap.size,0,none⟩) 0 0) []:=by
  refine ⟨⟨by simp [strs],.inr ⟨w.heap.size,0,#[],rfl,Nat.le_refl _,?_,Nat.le_refl _,Nat.zero_le _,rfl,rfl⟩⟩,by simp⟩
  exact Blk.new (w:=w) (cs:=#[]) (t:=9)
theorem OwnS.rows {w:World} {B:Nat} {v:Value} {l:List ByteArray} (h:OwnS w B v l) (ho:∀ x ∈ l,okS x):Rows w (fun g=>B≤g) 1 HStr v l:=by
  obtain ⟨h,_⟩:=h
  rcases h.2 with ⟨rfl,hn⟩ | ⟨g,cap,cur,rfl,hB,hg,h1,h2,h3,h4⟩
  · obtain rfl:=List.length_eq_zero_iff.1 hn
    exact Rows.nil (Nat.zero_le _)
  · refine ⟨_,cap,rfl,h1,h2,fun hne=>⟨g,0,rfl,hB,(Array.getElem?_eq_some_iff.1 hg).1,fun i x hi=>⟨[.string x],rfl,fun j hj=>?_,rfl,ho x (List.mem_of_getElem? hi)⟩⟩⟩
    obtain rfl:j=0:=by omega
    rw [show 0+i * 1+0=i by omega]
    exact (h.cellAt i (by have:=(List.getElem?_eq_some_iff.1 hi).1;omega)).trans (by simp [strs,hi])
theorem OwnS.strR {w:World} {B:Nat} {v:Value} {l:List ByteArray} (h:OwnS w B v l) (ho:∀ x ∈ l,okS x):StrR w v l:=Rows.mono (h.rows ho) ⟨Nat.le_refl _,fun _ _ _=>rfl⟩ (fun _ _=>trivial) (fun _ _ _ h=>h)
def StrV (w:World) (v:Value) (xs:List ByteArray):Prop:=StrR w v xs∧∀ n c,v=.slice none n c→v=.slice none 0 0
theorem OwnS.strV {w:World} {B:Nat} {v:Value} {l:List ByteArray} (h:OwnS w B v l) (ho:∀ x ∈ l,okS x):StrV w v l:=by
  refine ⟨h.strR ho,fun n c hv=>?_⟩
  rcases h.1.2 with hn | ⟨g,cap,cur,hv',_⟩
  · exact hn.1
  · rw [hv] at hv';simp at hv'
theorem StrV.next {w w':World} {v:Value} {xs:List ByteArray} (h:StrV w v xs) (hs:SameOn All w w'):StrV w' v xs:=⟨h.1.mono hs,h.2⟩
def hasS (l:List ByteArray) (s:ByteArray):Bool:=l.any fun x=>x.toList == s.toList
def onceS (l:List ByteArray):List ByteArray→List ByteArray
  | []=>l
  | y :: ys=>onceS (if hasS l y then l else l ++ [y]) ys
theorem onceS_snoc (l ys:List ByteArray) (y:ByteArray):onceS l (ys ++ [y])=if hasS (onceS l ys) y then onceS l ys else onceS l ys ++ [y]:=by
  induction ys generalizing l with
  | nil=>rfl
  | cons z zs ih=>exact ih _
theorem onceS_length (l ys:List ByteArray):(onceS l ys).length≤l.length+ys.length:=by
  induction ys generalizing l with
  | nil=>simp [onceS]
  | cons z zs ih =>
    have:=ih (if hasS l z then l else l ++ [z])
    have h2:(if hasS l z then l else l ++ [z]).length≤l.length+1:=by split <;> simp
    simp only [onceS,List.length_cons]
    omega
theorem onceS_mem (l ys:List ByteArray):∀ x ∈ onceS l ys,x ∈ l∨x ∈ ys:=by
  induction ys generalizing l with
  | nil=>intro x hx;exact .inl hx
  | cons z zs ih =>
    intro x hx
    rcases ih _ x hx with h | h
    · split at h
      · exact .inl h
      · rcases List.mem_append.1 h with h | h
        · exact .inl h
        · simp at h;subst h;exact .inr (by simp)
    · exact .inr (by simp [h])
section
def CellsR {α:Type} (c:Nat) (R:List Value→α→Prop) (cells:List Value) (l:List α):Prop :=
  cells.length=l.length * c∧∀ i y,l[i]?=some y→∃ cs,cs.length=c∧(∀ j,j<c→cells[i * c+j]?=cs[j]?)∧R cs y
section
variable {α:Type} {c:Nat} {R R':List Value→α→Prop} {cells more:List Value} {l m:List α}
theorem CellsR.nil:CellsR c R [] ([]:List α):=⟨by simp,fun i y h=>by simp at h⟩
theorem CellsR.append (h:CellsR c R cells l) (k:CellsR c R more m):CellsR c R (cells ++ more) (l ++ m):=by
  refine ⟨by rw [List.length_append,List.length_append,h.1,k.1,Nat.add_mul],fun i y hi=>?_⟩
  by_cases hl:i<l.length
  · rw [List.getElem?_append_left hl] at hi
    obtain ⟨cs,h1,h2,h3⟩:=h.2 i y hi
    refine ⟨cs,h1,fun j hj=>?_,h3⟩
    rw [List.getElem?_append_left,h2 j hj]
    rw [h.1]
    have:(i+1) * c≤l.length * c:=Nat.mul_le_mul_right _ hl
    rw [Nat.add_mul] at this
    omega
  · rw [List.getElem?_append_right (by omega)] at hi
    obtain ⟨cs,h1,h2,h3⟩:=k.2 _ y hi
    refine ⟨cs,h1,fun j hj=>?_,h3⟩
    have e:i * c+j - cells.length=(i - l.length) * c+j:=by
      rw [h.1,Nat.sub_mul]
      have:l.length * c≤i * c:=Nat.mul_le_mul_right _ (by omega)
      omega
    rw [List.getElem?_append_right (by rw [h.1];have:l.length * c≤i * c:=Nat.mul_le_mul_right _ (by omega);omega),e]
    exact h2 j hj
theorem CellsR.mono (h:CellsR c R cells l) (hR:∀ cs y,y ∈ l→R cs y→R' cs y):CellsR c R' cells l :=
  ⟨h.1,fun i y hi=>by obtain ⟨cs,h1,h2,h3⟩:=h.2 i y hi;exact ⟨cs,h1,h2,hR cs y (List.mem_of_getElem? hi) h3⟩⟩
theorem CellsR.one {cs:List Value} {y:α} (hc:cs.length=c) (h:R cs y):CellsR c R cs [y] :=
  ⟨by simp [hc],fun i z hi=>by
    cases i with
    | zero=>simp at hi;subst hi;exact ⟨cs,hc,fun j _=>by simp,h⟩
    | succ i=>simp at hi⟩
theorem CellsR.oneCell (hc:0<c) (h:CellsR c R cells l) (hR:∀ cs y,R cs y→∀ u ∈ cs,u.oneCell'=true):∀ u ∈ cells,u.oneCell'=true:=by
  intro u hu
  obtain ⟨j,hj⟩:=List.mem_iff_getElem?.1 hu
  have hlt:=(List.getElem?_eq_some_iff.1 hj).1
  rw [h.1] at hlt
  have hd:j / c<l.length:=Nat.div_lt_of_lt_mul (by rw [Nat.mul_comm];exact hlt)
  obtain ⟨cs,h1,h2,h3⟩:=h.2 (j / c) (l[j / c]) (List.getElem?_eq_getElem hd)
  have h4:=h2 (j % c) (Nat.mod_lt _ hc)
  rw [show j / c * c+j % c=j by rw [Nat.mul_comm];exact Nat.div_add_mod j c,hj] at h4
  exact hR cs _ h3 u (List.mem_of_getElem? h4.symm)
theorem rowsCellsR (hc:0<c) {w:World} {S:Nat→Prop} {ad:Addr} {n cap:Nat} (h:Rows w S c R (.slice (some ad) n cap) l):n=l.length∧∃ cells,CellsR c R cells l∧∀ j u,cells[j]?=some u→w.cell? (ad.add j)=some u:=by
  obtain ⟨p,cap',hv,h1,h2,hx⟩:=h
  simp only [Value.slice.injEq] at hv
  obtain ⟨rfl,rfl,rfl⟩:=hv
  refine ⟨rfl,?_⟩
  cases l with
  | nil=>exact ⟨[],CellsR.nil,fun j u h=>by simp at h⟩
  | cons y0 l =>
    obtain ⟨g,off,hp,-,-,hat⟩:=hx (by simp)
    obtain rfl:=Option.some.inj hp
    have hadd:∀ j,(⟨g,off,none⟩:Addr).add j=⟨g,off+j,none⟩:=fun j=>by by_cases h:j=0 <;> simp [Addr.add,h]
    have key:∀ j,j<(y0 :: l).length * c→∃ u,w.cell? ⟨g,off+j,none⟩=some u:=fun j hj=>by
      have hd:j / c<(y0 :: l).length:=Nat.div_lt_of_lt_mul (by rw [Nat.mul_comm];exact hj)
      obtain ⟨cs,k1,k2,k3⟩:=hat (j / c) _ (List.getElem?_eq_getElem hd)
      have h4:=k2 (j % c) (Nat.mod_lt _ hc)
      rw [show off+j / c * c+j % c=off+j by rw [Nat.add_assoc,Nat.mul_comm,Nat.div_add_mod]] at h4
      exact ⟨cs[j % c]'(by rw [k1];exact Nat.mod_lt _ hc),h4.trans (List.getElem?_eq_getElem _)⟩
    refine ⟨(List.range ((y0 :: l).length * c)).map fun j=>(w.cell? ⟨g,off+j,none⟩).getD undef,⟨by simp,fun i y hi=>?_⟩,fun j u hj=>?_⟩
    · obtain ⟨cs,k1,k2,k3⟩:=hat i y hi
      refine ⟨cs,k1,fun j hj=>?_,k3⟩
      have hil:=(List.getElem?_eq_some_iff.1 hi).1
      have hlt:i * c+j<(y0 :: l).length * c:=by
        have:(i+1) * c≤(y0 :: l).length * c:=Nat.mul_le_mul_right _ hil
        rw [Nat.add_mul] at this
        omega
      rw [List.getElem?_map,List.getElem?_range hlt]
      obtain ⟨u,hu⟩:=key _ hlt
      have h5:=k2 j hj
      rw [Nat.add_assoc,hu] at h5
      simp only [Option.map_some,hu,Option.getD_some]
      exact h5
    · have hlt:j<(y0 :: l).length * c:=by simpa using (List.getElem?_eq_some_iff.1 hj).1
      rw [List.getElem?_map,List.getElem?_range hlt] at hj
      obtain ⟨v,hv⟩:=key j hlt
      simp only [Option.map_some,hv,Option.getD_some,Option.some.injEq] at hj
      rw [hadd,hv,hj]
theorem CellsR.rows {w:World} {B:Nat} {e:TypeId} {v:Value} {n:Nat} (h:w.ownsRow B e c v n cells) (k:CellsR c R cells l) (hn:n=l.length):Rows w All c R v l:=by
  subst hn
  have hl:=k.1
  rcases h.2 with ⟨rfl,hz⟩ | ⟨g,cap,cur,rfl,hB,hg,h1,h2,h3,h4⟩
  · obtain rfl:=List.length_eq_zero_iff.1 hz
    exact Rows.nil (Nat.zero_le _)
  · refine ⟨_,cap,rfl,h1,h2,fun hne=>⟨g,0,rfl,trivial,(Array.getElem?_eq_some_iff.1 hg).1,fun i x hi=>?_⟩⟩
    obtain ⟨cs,k1,k2,k3⟩:=k.2 i x hi
    refine ⟨cs,k1,fun j hj=>?_,k3⟩
    have hil:=(List.getElem?_eq_some_iff.1 hi).1
    have hlt:i * c+j<l.length * c:=by
      have:(i+1) * c≤l.length * c:=Nat.mul_le_mul_right _ hil
      rw [Nat.add_mul] at this
      omega
    rw [← k2 j hj,Nat.zero_add]
    exact h.cellAt _ hlt
end
section
variable {P:Program} {w:World}
theorem run_append_nil (base:Nat) (t ty e:TypeId) (i:TypeInfo) (size:Nat) (ht:P.underlying t=some (.slice e)) (hi:P.info? e=some i)
    (v:Value) (n:Nat) (xs:List Value) (c:Nat) (hown:w.ownsRow base e size v n xs) :
    (Builtin.append_ #[t,t] ty #[v,.slice none 0 c]).run P w=.ok v w:=by
  rcases hown.2 with ⟨rfl,rfl⟩ | ⟨g,cap,cur,rfl,_,_,hnc,_⟩
  · simp [Builtin.append_,run_underlying ht,sizeOf,typeInfo,hi,Builtin.lenOf,Builtin.firstCells]
  · simp [Builtin.append_,run_underlying ht,sizeOf,typeInfo,hi,Builtin.lenOf,Builtin.firstCells,hnc,storeCells]
theorem wpList_append_nil {ops:Array Oper} {rest:List Oper} {o:Oper} {a:Act} {Q:Exit→Act→World→Prop} (hgd:o.guard=none) (s x:Operand) (t:TypeId)
    (ho:o.op=.call { callee:=.builtin .append,args:=#[s,x],argTypes:=#[t,t] })
    (base:Nat) (e:TypeId) (i:TypeInfo) (size:Nat) (ht:P.underlying t=some (.slice e)) (hi:P.info? e=some i)
    (v:Value) (n:Nat) (xs:List Value) (c:Nat) (hs:a.eval s=v) (hown:w.ownsRow base e size v n xs) (hx:a.eval x=.slice none 0 c)
    (h:wpList P ops Q rest (a.put o.dst v) w):wpList P ops Q (o :: rest) a w:=by
  refine wpList_plain hgd fun K hK=>?_
  have hrun:=run_append_nil (P:=P) (w:=w) base t o.type e i size ht hi v n xs c hown
  unfold Oper.wp
  simp [execOp,ho,resolve,invoke,builtin,hs,hx,hrun,Result.andThen]
  exact hK _ _ h
theorem wpList_append_rows {α:Type} {R:List Value→α→Prop} {S:Nat→Prop} {ops:Array Oper} {rest:List Oper} {o:Oper} {a:Act} {Q:Exit→Act→World→Prop} (hgd:o.guard=none) (s x:Operand) (t:TypeId)
    (ho:o.op=.call { callee:=.builtin .append,args:=#[s,x],argTypes:=#[t,t] })
    (base:Nat) (e:TypeId) (i:TypeInfo) (z:Value) (size bytes:Nat) (ht:P.underlying t=some (.slice e)) (hi:P.info? e=some i) (hz:i.zero=some z)
    (hsize:i.size=size) (hby:i.bytes=bytes) (hzs:z.cells.size=size) (hsz:0<size)
    (v:Value) (n:Nat) (xs:List Value) (hs:a.eval s=v) (hown:w.ownsRow base e size v n xs)
    (u:Value) (m:List α) (hx:a.eval x=u) (hr:Rows w S size R u m) (hone:∀ cs y,R cs y→∀ q ∈ cs,q.oneCell'=true)
    (h63:n+m.length≤maxLen) (hbytes:(n+m.length) * bytes≤140737488355328) (hbase:base≤w.heap.size)
    (h:∀ v' w' news,CellsR size R news m→w'.ownsRow base e size v' (n+m.length) (xs ++ news)→w.grownBy w' v.ownBlock→wpList P ops Q rest (a.put o.dst v') w'):wpList P ops Q (o :: rest) a w:=by
  obtain ⟨p,cap,hv,h1,h2,hat⟩:=id hr
  cases p with
  | none =>
    have hm:m = []:=Classical.byContradiction fun hne=>by
      obtain ⟨g,off,hp,_⟩:=hat hne
      cases hp
    subst hm
    simp only [List.length_nil] at *
    refine wpList_append_nil hgd s x t ho base e i size ht hi v n xs cap hs hown (hx.trans hv) ?_
    exact h v w [] CellsR.nil (by simpa using hown) ⟨rfl,rfl,rfl,Nat.le_refl _,fun _ _ _=>rfl⟩
  | some ad =>
    rw [hv] at hr
    obtain ⟨-,news,hc,hnews⟩:=rowsCellsR hsz hr
    refine wpList_append_own _ hgd s x t ho base e i z size bytes ht hi hz hsize hby hzs hsz v n xs hs hown ad m.length cap news (hx.trans hv) hc.1 hnews (hc.oneCell hsz hone) h63 hbytes hbase ?_
    intro v' w' k1 k2 _
    exact h v' w' news hc k1 k2
theorem step_append_rows {α:Type} {R:List Value→α→Prop} {S:Nat→Prop} {ops:Array Oper} {o:Oper} {a:Act} {K:Act→World→Prop} {Q:Exit→Act→World→Prop} {E:Prop} (hgd:o.guard=none) (s x:Operand) (t:TypeId)
    (ho:o.op=.call { callee:=.builtin .append,args:=#[s,x],argTypes:=#[t,t] })
    (base:Nat) (e:TypeId) (i:TypeInfo) (z:Value) (size bytes:Nat) (ht:P.underlying t=some (.slice e)) (hi:P.info? e=some i) (hz:i.zero=some z)
    (hsize:i.size=size) (hby:i.bytes=bytes) (hzs:z.cells.size=size) (hsz:0<size)
    (v:Value) (n:Nat) (xs:List Value) (hs:a.eval s=v) (hown:w.ownsRow base e size v n xs)
    (u:Value) (m:List α) (hx:a.eval x=u) (hr:Rows w S size R u m) (hone:∀ cs y,R cs y→∀ q ∈ cs,q.oneCell'=true)
    (h63:n+m.length≤maxLen) (hbytes:(n+m.length) * bytes≤140737488355328) (hbase:base≤w.heap.size)
    (h:∀ v' w' news,CellsR size R news m→w'.ownsRow base e size v' (n+m.length) (xs ++ news)→w.grownBy w' v.ownBlock→K (a.put o.dst v') w') :
    if Region.wanted o (yielded ops a.tmps)=true then Oper.wp P o a w K Q else E:=by
  have hw:Region.wanted o (yielded ops a.tmps)=true:=by simp [Region.wanted,hgd]
  rw [if_pos hw]
  obtain ⟨p,cap,hv,h1,h2,hat⟩:=id hr
  cases p with
  | none =>
    have hm:m = []:=Classical.byContradiction fun hne=>by
      obtain ⟨g,off,hp,_⟩:=hat hne
      cases hp
    subst hm
    simp only [List.length_nil] at *
    have hrun:=run_append_nil (P:=P) (w:=w) base t o.type e i size ht hi v n xs cap hown
    unfold Oper.wp
    simp [execOp,ho,resolve,invoke,builtin,hs,hx.trans hv,hrun,Result.andThen]
    exact h v w [] CellsR.nil (by simpa using hown) ⟨rfl,rfl,rfl,Nat.le_refl _,fun _ _ _=>rfl⟩
  | some ad =>
    rw [hv] at hr
    obtain ⟨-,news,hc,hnews⟩:=rowsCellsR hsz hr
    refine wp_append_own w s x t ho base e i z size bytes ht hi hz hsize hby hzs hsz v n xs hs hown ad m.length cap news (hx.trans hv) hc.1 hnews (hc.oneCell hsz hone) h63 hbytes hbase ?_
    intro v' w' k1 k2 _
    exact h v' w' news hc k1 k2
end
theorem cellsR_str {news:List Value} {l:List ByteArray} (h:CellsR 1 HStr news l):news=strs l:=by
  refine List.ext_getElem? fun i=>?_
  by_cases hi:i<l.length
  · obtain ⟨cs,h1,h2,rfl,-⟩:=h.2 i (l[i]) (List.getElem?_eq_getElem hi)
    have h4:=h2 0 (by omega)
    rw [show i * 1+0=i by omega] at h4
    rw [h4];simp [strs,hi]
  · rw [List.getElem?_eq_none (by rw [h.1];omega),List.getElem?_eq_none (by rw [strs_length];omega)]
theorem str_oneCell (cs:List Value) (s:ByteArray) (h:HStr cs s):∀ u ∈ cs,u.oneCell'=true:=by
  obtain ⟨rfl,-⟩:=h
  intro u hu
  simp at hu;subst hu;rfl
end
theorem anyT_succ' {α:Type} (f:α→Bool) (xs:List α) (k:Nat) (x:α) (h:xs[k]?=some x) (ht:(xs.take k).any f=false) (hx:f x=false):(xs.take (k+1)).any f=false:=by
  rw [List.take_add_one,h,List.any_append,ht];simp [hx]
theorem anyT_at' {α:Type} (f:α→Bool) (xs:List α) (k:Nat) (x:α) (h:xs[k]?=some x) (hx:f x=true):xs.any f=true:=by
  rw [List.any_eq_true];exact ⟨x,List.mem_of_getElem? h,hx⟩
theorem hasS_any (w:World) (v:Value) (xs:List ByteArray) (s:ByteArray) (h:StrR w v xs) :
    Calls Tryz.prog 112 #[v,.string s] w fun e w'=>e=.returned (.bool (hasS xs s))∧w'=w:=by
  have hv:hasS xs s=xs.any (fun x=>x.toList == s.toList):=rfl
  rw [hv]
  clear hv
  obtain ⟨p,cap,rfl,hcl,hcm,hx⟩:=h
  have hnb:xs.length≤9223372036854775807:=by unfold maxLen at hcm;omega
  generalize hn:xs.length=n at *
  have HN:Hid (xs.length=n):=hn
  have HX:Hid (xs≠[]→∃ g off,p=some ⟨g,off,none⟩∧All g∧g<w.heap.size∧∀ i x,xs[i]?=some x→∃ cs,cs.length=1∧(∀ j,j<1→w.cell? ⟨g,off+i * 1+j,none⟩=cs[j]?)∧HStr cs x):=hx
  clear hx hn
  go_enter Tryz.func112,Tryz.ntmps112
  go_wp2
  go_loop [5] (fun iv=>∃ k:Nat,k≤n∧iv=.int .i64 k∧Hid ((xs.take k).any (fun x=>x.toList == s.toList)=false)) (fun iv=>n - (intOf iv).toNat)
  case atStart=>exact ⟨0,Nat.zero_le _,rfl,by show _=_;simp⟩
  case round =>
    obtain ⟨k,hk,rfl,hno⟩:=hrel
    by_cases hlt:k<n
    · obtain ⟨x,hxk⟩:∃ x,xs[k]?=some x:=⟨xs[k]'(by rw [HN.out];exact hlt),List.getElem?_eq_getElem _⟩
      obtain ⟨g,off,rfl,-,hgl,hat⟩:=HX.out (by intro h;rw [h] at hxk;simp at hxk)
      obtain ⟨cs,hcsl,hcs,rfl,-⟩:=hat k x hxk
      have a0:=hcs 0 (by omega)
      simp at a0
      have hki:(k:Int)<(n:Int):=by omega
      have hk0:(0:Int)≤(k:Int):=by omega
      clear hcs hat hcsl
      cases hq:(x.toList == s.toList) with
      | true =>
        have HS:Hid ((xs.any fun x=>x.toList == s.toList)=true):=anyT_at' _ xs k x hxk hq
        go_wp2
        go_ret
        exact ⟨by rw [HS.out];rfl,rfl⟩
      | false =>
        have HS:Hid ((xs.take (k+1)).any (fun x=>x.toList == s.toList)=false):=anyT_succ' _ xs k x hxk hno.out hq
        go_wp2
        go_round
        case rel=>exact ⟨k+1,by omega,by go_num,HS⟩
        case measure=>simp [intOf];omega
    · have HS:Hid ((xs.any fun x=>x.toList == s.toList)=false):=by
        have:=hno.out
        rwa [List.take_of_length_le (by rw [HN.out];omega)] at this
      go_wp2
      go_ret
      exact ⟨by rw [HS.out];rfl,rfl⟩
theorem one_str (W:World) (s:ByteArray) (g:Nat) (hg:g=W.heap.size):∀ j u,(strs [s])[j]?=some u→(W.alloc (.cells #[.string s] 9)).cell? ((⟨g,0,none⟩:Addr).add j)=some u:=by
  subst hg
  intro j u h
  match j,h with
  | 0,h=>simp [strs] at h;subst h;rw [Addr.add];exact cell_new W _ _ 0 _ rfl
theorem once_any (w:World) (v1 v2:Value) (xs ys:List ByteArray) (h1:StrV w v1 xs) (h2:StrR w v2 ys) (hl:xs.length+ys.length≤8388608) :
    Calls Tryz.prog 81 #[v1,v2] w fun e w'=>∃ u,e=.returned u∧OwnS w' w.heap.size u (onceS xs ys)∧Below w.heap.size w w':=by
  obtain ⟨h1,hnil⟩:=h1
  have OX:=h1.okS
  have OY:=h2.okS
  obtain ⟨p,cap,rfl,hcl,hcm,hx⟩:=h1
  obtain ⟨q,cap',rfl,hcl',hcm',hy⟩:=h2
  obtain ⟨i,hi,hz0,hz1,hz2⟩:=info_parts info_str
  have hlx:xs.length≤8388608:=by omega
  have hly:ys.length≤8388608:=by omega
  have LQ:Hid (∀ k,(onceS xs (ys.take k)).length≤8388608):=fun k=>by
    have h3:=onceS_length xs (ys.take k)
    have h4:(ys.take k).length≤ys.length:=by rw [List.length_take];omega
    omega
  have OQ:Hid (∀ k,∀ x ∈ onceS xs (ys.take k),okS x):=fun k x hx=>by
    rcases onceS_mem _ _ x hx with h | h
    · exact OX x h
    · exact OY x (List.mem_of_mem_take h)
  have HY:Hid (ys≠[]→∃ g off,q=some ⟨g,off,none⟩∧All g∧g<w.heap.size∧∀ i x,ys[i]?=some x→∃ cs,cs.length=1∧(∀ j,j<1→w.cell? ⟨g,off+i * 1+j,none⟩=cs[j]?)∧HStr cs x):=hy
  have O0:Hid (OwnS (w.alloc (.cells #[] 9)) w.heap.size (.slice (some ⟨w.heap.size,0,none⟩) 0 0) []):=OwnS.fresh
  have BL:Hid (Below w.heap.size w (w.alloc (.cells #[] 9))):=(Below.refl _ _).alloc (Nat.le_refl _) _
  have HC:Hid (∀ a,p=some a→∀ j u,(strs xs)[j]?=some u→(w.alloc (.cells #[] 9)).cell? (a.add j)=some u):=fun a ha j u hj=>by
    have hne:xs≠[]:=by intro e;rw [e] at hj;simp [strs] at hj
    obtain ⟨g,off,hp,-,hgl,hat⟩:=hx hne
    have hj':=hj
    simp only [strs,List.getElem?_map,Option.map_eq_some_iff] at hj'
    obtain ⟨x,hxj,rfl⟩:=hj'
    obtain ⟨cs,_,hcs,rfl,_⟩:=hat j x hxj
    have h0:=hcs 0 (by omega)
    rw [hp] at ha
    obtain rfl:=Option.some.inj ha
    have e1:(⟨g,off,none⟩:Addr).add j=⟨g,off+j * 1+0,none⟩:=by simp [Addr.add]
    rw [e1,BL.out.cell (p:=⟨g,_,none⟩) hgl]
    exact h0
  generalize hn:ys.length=n at *
  have HN:Hid (ys.length=n):=hn
  clear hy OX OY hx hn
  cases p with
  | none =>
    have hxs:xs = []:=by
      have:=hnil _ _ rfl
      simp only [Value.slice.injEq,true_and] at this
      exact List.length_eq_zero_iff.1 this.1
    have hcz:cap=0:=by
      have:=hnil _ _ rfl
      simp only [Value.slice.injEq,true_and] at this
      exact this.2
    subst hxs hcz
    simp only [List.length_nil] at *
    clear hnil
    go_enter Tryz.func81,Tryz.ntmps81
    go_wp2_with (first | (at_builtin;refine wpList_append_own_none rfl _ _ 103 rfl w.heap.size 9 i 1 Tryz.underlying103 hi _ _ _ rfl O0.out.1 rfl ?_))
    have HO1:=O0
    have HB1:=BL
    go_wp2_with fail
    go_loopw [5,6] (fun ov iv wr=>∃ k:Nat,k≤n∧iv=.int .i64 k∧Hid (OwnS wr w.heap.size ov (onceS [] (ys.take k)))∧Below w.heap.size w wr) (fun _ iv _=>n - (intOf iv).toNat)
    case atStart=>exact ⟨0,Nat.zero_le _,rfl,HO1.out,HB1.out⟩
    case round =>
      obtain ⟨k,hk,rfl,ho,hb⟩:=hrel
      have HB:Hid (Below w.heap.size w wr):=hb
      by_cases hlt:k<n
      · obtain ⟨y,hyk⟩:∃ y,ys[k]?=some y:=⟨ys[k]'(by rw [HN.out];exact hlt),List.getElem?_eq_getElem _⟩
        obtain ⟨g,off,rfl,-,hgl,hat⟩:=HY.out (by intro h;rw [h] at hyk;simp at hyk)
        obtain ⟨cs,hcsl,hcs,rfl,-⟩:=hat k y hyk
        have a0:=hcs 0 (by omega)
        rw [← hb.cell (p:=⟨g,_,none⟩) hgl] at a0
        simp at a0
        have hki:(k:Int)<(n:Int):=by omega
        have hk0:(0:Int)≤(k:Int):=by omega
        have HJ:Hid (onceS [] (ys.take (k+1))=if hasS (onceS [] (ys.take k)) y then onceS [] (ys.take k) else onceS [] (ys.take k) ++ [y]):=by
          show _=_
          rw [List.take_add_one,hyk]
          exact onceS_snoc [] (ys.take k) y
        have lq:=LQ.out k
        have oq:=OQ.out k
        have SR:Hid (StrR wr u5 (onceS [] (ys.take k))):=ho.out.strR oq
        generalize hJ0:onceS [] (ys.take k)=J at *
        clear hb hcs hat hcsl oq hJ0
        cases hq:hasS J y with
        | true =>
          have HJ2:Hid (onceS [] (ys.take (k+1))=J):=by show _=_;rw [HJ.out,hq];rfl
          go_wp2_with (first | (go_at_call 112;go_must (refine (hasS_any _ _ _ _ SR.out).mono ?_;rintro e w9 ⟨rfl,hw9⟩;rw [hq,hw9];clear hw9 w9)))
          exact ⟨⟨k+1,by omega,by go_num,by show OwnS _ _ _ _;rw [HJ2.out];exact ho.out,HB.out⟩,by simp [intOf];omega⟩
        | false =>
          have HJ2:Hid (onceS [] (ys.take (k+1))=J ++ [y]):=by show _=_;rw [HJ.out,hq];rfl
          have OA:Hid (OwnS (wr.alloc (.cells #[.string y] 9)) w.heap.size u5 J):=ho.out.next ((Below.refl _ _).alloc (Nat.le_refl _) _)
          have N1:Hid (∀ j u,(strs [y])[j]?=some u→(wr.alloc (.cells #[.string y] 9)).cell? ((⟨wr.heap.size,0,none⟩:Addr).add j)=some u):=one_str wr y _ rfl
          have BA:Hid (Below w.heap.size w (wr.alloc (.cells #[.string y] 9))):=HB.out.alloc HB.out.size _
          go_wp2_with (first | (go_at_call 112;go_must (refine (hasS_any _ _ _ _ SR.out).mono ?_;rintro e w9 ⟨rfl,hw9⟩;rw [hq,hw9];clear hw9 w9)) | (at_builtin;refine wpList_append_own _ rfl _ _ 103 rfl w.heap.size 9 i (.string ⟨#[]⟩) 1 16 Tryz.underlying103 hi hz0 hz1 hz2 rfl (by decide) u5 _ _ rfl OA.out.1 _ 1 1 (strs [y]) rfl rfl N1.out (strs_oneCell _) (by unfold maxLen;omega) (by omega) OA.out.2 ?_))
          intro u2 w2 hown2 hgr2 _
          have HO2:Hid (OwnS w2 w.heap.size u2 (J ++ [y])):=OwnS.of hown2 (by simp) rfl (Nat.le_trans OA.out.2 hgr2.size)
          have HB2:Hid (Below w.heap.size w w2):=BA.out.trans (OA.out.below hgr2)
          clear hown2 hgr2
          go_wp2_with fail
          exact ⟨⟨k+1,by omega,by go_num,by show OwnS _ _ _ _;rw [HJ2.out];exact HO2.out,HB2.out⟩,by simp [intOf];omega⟩
      · have HS:Hid (OwnS wr w.heap.size u5 (onceS [] ys)):=by
          have:=ho.out
          rwa [List.take_of_length_le (by rw [HN.out];omega)] at this
        clear hb
        go_wp2_with fail
        go_ret
        exact ⟨u5,rfl,HS.out,HB.out⟩
  | some a =>
    go_enter Tryz.func81,Tryz.ntmps81
    go_wp2_with (first | (at_builtin;refine wpList_append_own _ rfl _ _ 103 rfl w.heap.size 9 i (.string ⟨#[]⟩) 1 16 Tryz.underlying103 hi hz0 hz1 hz2 rfl (by decide) _ _ _ rfl O0.out.1 a xs.length cap (strs xs) rfl (by rw [strs_length];omega) (HC.out a rfl) (strs_oneCell _) (by unfold maxLen;simp only [List.length_nil];omega) (by simp only [List.length_nil];omega) O0.out.2 ?_))
    intro u1 w1 hown1 hgr1 _
    have HO1:Hid (OwnS w1 w.heap.size u1 xs):=by
      have:=OwnS.of (l:=[]) (m:=xs) hown1 (by simp) (by simp [strs]) (Nat.le_trans O0.out.2 hgr1.size)
      show OwnS _ _ _ _
      simpa using this
    have HB1:Hid (Below w.heap.size w w1):=BL.out.trans (O0.out.below hgr1)
    clear hown1 hgr1
    go_wp2_with fail
    go_loopw [5,6] (fun ov iv wr=>∃ k:Nat,k≤n∧iv=.int .i64 k∧Hid (OwnS wr w.heap.size ov (onceS xs (ys.take k)))∧Below w.heap.size w wr) (fun _ iv _=>n - (intOf iv).toNat)
    case atStart=>exact ⟨0,Nat.zero_le _,rfl,HO1.out,HB1.out⟩
    case round =>
      obtain ⟨k,hk,rfl,ho,hb⟩:=hrel
      have HB:Hid (Below w.heap.size w wr):=hb
      by_cases hlt:k<n
      · obtain ⟨y,hyk⟩:∃ y,ys[k]?=some y:=⟨ys[k]'(by rw [HN.out];exact hlt),List.getElem?_eq_getElem _⟩
        obtain ⟨g,off,rfl,-,hgl,hat⟩:=HY.out (by intro h;rw [h] at hyk;simp at hyk)
        obtain ⟨cs,hcsl,hcs,rfl,-⟩:=hat k y hyk
        have a0:=hcs 0 (by omega)
        rw [← hb.cell (p:=⟨g,_,none⟩) hgl] at a0
        simp at a0
        have hki:(k:Int)<(n:Int):=by omega
        have hk0:(0:Int)≤(k:Int):=by omega
        have HJ:Hid (onceS xs (ys.take (k+1))=if hasS (onceS xs (ys.take k)) y then onceS xs (ys.take k) else onceS xs (ys.take k) ++ [y]):=by
          show _=_
          rw [List.take_add_one,hyk]
          exact onceS_snoc xs (ys.take k) y
        have lq:=LQ.out k
        have oq:=OQ.out k
        have SR:Hid (StrR wr u5 (onceS xs (ys.take k))):=ho.out.strR oq
        generalize hJ0:onceS xs (ys.take k)=J at *
        clear hb hcs hat hcsl oq hJ0
        cases hq:hasS J y with
        | true =>
          have HJ2:Hid (onceS xs (ys.take (k+1))=J):=by show _=_;rw [HJ.out,hq];rfl
          go_wp2_with (first | (go_at_call 112;go_must (refine (hasS_any _ _ _ _ SR.out).mono ?_;rintro e w9 ⟨rfl,hw9⟩;rw [hq,hw9];clear hw9 w9)))
          exact ⟨⟨k+1,by omega,by go_num,by show OwnS _ _ _ _;rw [HJ2.out];exact ho.out,HB.out⟩,by simp [intOf];omega⟩
        | false =>
          have HJ2:Hid (onceS xs (ys.take (k+1))=J ++ [y]):=by show _=_;rw [HJ.out,hq];rfl
          have OA:Hid (OwnS (wr.alloc (.cells #[.string y] 9)) w.heap.size u5 J):=ho.out.next ((Below.refl _ _).alloc (Nat.le_refl _) _)
          have N1:Hid (∀ j u,(strs [y])[j]?=some u→(wr.alloc (.cells #[.string y] 9)).cell? ((⟨wr.heap.size,0,none⟩:Addr).add j)=some u):=one_str wr y _ rfl
          have BA:Hid (Below w.heap.size w (wr.alloc (.cells #[.string y] 9))):=HB.out.alloc HB.out.size _
          go_wp2_with (first | (go_at_call 112;go_must (refine (hasS_any _ _ _ _ SR.out).mono ?_;rintro e w9 ⟨rfl,hw9⟩;rw [hq,hw9];clear hw9 w9)) | (at_builtin;refine wpList_append_own _ rfl _ _ 103 rfl w.heap.size 9 i (.string ⟨#[]⟩) 1 16 Tryz.underlying103 hi hz0 hz1 hz2 rfl (by decide) u5 _ _ rfl OA.out.1 _ 1 1 (strs [y]) rfl rfl N1.out (strs_oneCell _) (by unfold maxLen;omega) (by omega) OA.out.2 ?_))
          intro u2 w2 hown2 hgr2 _
          have HO2:Hid (OwnS w2 w.heap.size u2 (J ++ [y])):=OwnS.of hown2 (by simp) rfl (Nat.le_trans OA.out.2 hgr2.size)
          have HB2:Hid (Below w.heap.size w w2):=BA.out.trans (OA.out.below hgr2)
          clear hown2 hgr2
          go_wp2_with fail
          exact ⟨⟨k+1,by omega,by go_num,by show OwnS _ _ _ _;rw [HJ2.out];exact HO2.out,HB2.out⟩,by simp [intOf];omega⟩
      · have HS:Hid (OwnS wr w.heap.size u5 (onceS xs ys)):=by
          have:=ho.out
          rwa [List.take_of_length_le (by rw [HN.out];omega)] at this
        clear hb
        go_wp2_with fail
        go_ret
        exact ⟨u5,rfl,HS.out,HB.out⟩
def foldV {α:Type} (f:α→List ByteArray) (l:List ByteArray) (ks:List α):List ByteArray:=ks.foldl (fun acc y=>onceS acc (f y)) l
theorem foldV_snoc {α:Type} (f:α→List ByteArray) (l:List ByteArray) (ks:List α) (k:Nat) (y:α) (h:ks[k]?=some y):foldV f l (ks.take (k+1))=onceS (foldV f l (ks.take k)) (f y):=by
  unfold foldV
  rw [List.take_add_one,h]
  simp
theorem foldV_len {α:Type} (f:α→List ByteArray) (wt:α→Nat):∀ (ks:List α) (l:List ByteArray),(∀ y ∈ ks,(f y).length≤1+wt y)→(foldV f l ks).length≤l.length+wtS wt ks
  | [],l,_=>by simp [foldV]
  | y :: ys,l,h=>by
    have h1:=foldV_len f wt ys (onceS l (f y)) (fun z hz=>h z (by simp [hz]))
    have h2:=onceS_length l (f y)
    have h3:=h y (by simp)
    have h4:wtS wt (y :: ys)=1+wt y+wtS wt ys:=by simp [wtS];omega
    have h5:foldV f l (y :: ys)=foldV f (onceS l (f y)) ys:=rfl
    rw [h5,h4];omega
theorem foldV_mem {α:Type} (f:α→List ByteArray):∀ (ks:List α) (l:List ByteArray),∀ s ∈ foldV f l ks,s ∈ l∨∃ y ∈ ks,s ∈ f y
  | [],l,s,h=>.inl h
  | y :: ys,l,s,h=>by
    rcases foldV_mem f ys (onceS l (f y)) s h with h | ⟨z,hz,hs⟩
    · rcases onceS_mem l (f y) s h with h | h
      · exact .inl h
      · exact .inr ⟨y,by simp,h⟩
    · exact .inr ⟨z,by simp [hz],hs⟩
def patV:Nat→Ex→List ByteArray
  | 0,_=>[]
  | d+1,.mk k n t m ks cs=>foldV (patV d) (if k=2 then [t] else []) ks
theorem patV_len:∀ (d:Nat) (x:Ex),(patV d x).length≤1+wtEx d x
  | 0,_=>by simp [patV]
  | d+1,.mk k n t m ks cs=>by
    have h1:=foldV_len (patV d) (wtEx d) ks (if k=2 then [t] else []) (fun y _=>patV_len d y)
    have h2:(if k=2 then [t] else ([]:List ByteArray)).length≤1:=by split <;> simp
    have hw:wtEx (d+1) (.mk k n t m ks cs)=t.size+m.size+wtS (wtEx d) ks+wtS (wtCl (wtEx d)) cs:=rfl
    have h3:patV (d+1) (.mk k n t m ks cs)=foldV (patV d) (if k=2 then [t] else []) ks:=rfl
    rw [h3,hw];omega
def bndV:Nat→Ex→List ByteArray
  | 0,_=>[]
  | d+1,.mk k n t m ks cs=>match k,ks with
    | 9,[a,b]=>onceS (bndV d b) (patV d a)
    | _,ks=>foldV (bndV d) [] ks
def exS:Nat→Ex→Prop
  | 0,_=>False
  | d+1,.mk k n t m ks cs=>okS t∧(∀ y ∈ ks,exS d y)∧∀ c ∈ cs,(∀ y ∈ c.1,exS d y)∧∀ y ∈ c.2,exS d y
theorem rows_mem' {α:Type} {w:World} {S:Nat→Prop} {c:Nat} {R:List Value→α→Prop} {v:Value} {es:List α} (h:Rows w S c R v es):∀ y ∈ es,∃ cs,R cs y:=by
  intro y hy
  obtain ⟨p,cap,_,_,_,hr⟩:=h
  obtain ⟨i,hi⟩:=List.mem_iff_getElem?.1 hy
  obtain ⟨g,off,_,_,_,hat⟩:=hr (by intro e;rw [e] at hi;simp at hi)
  obtain ⟨cs,_,_,hv⟩:=hat i y hi
  exact ⟨cs,hv⟩
theorem HEx.txts {w:World} {S:Nat→Prop}:∀ {d:Nat} {cs:List Value} {x:Ex},HEx w S d cs x→exS d x
  | 0,_,_,h=>h.elim
  | d+1,cs,.mk k n t m ks cl,h=>by
    obtain ⟨kv,cv,rfl,h1,h2,h3,h4,f0,f1⟩:=h
    refine ⟨h3,fun y hy=>?_,fun c hc=>?_⟩
    · obtain ⟨_,hv⟩:=rows_mem' f0 y hy
      exact hv.txts
    · obtain ⟨_,p,b,_,g0,g1⟩:=rows_mem' f1 c hc
      exact ⟨fun y hy=>by obtain ⟨_,hv⟩:=rows_mem' g0 y hy;exact hv.txts,fun y hy=>by obtain ⟨_,hv⟩:=rows_mem' g1 y hy;exact hv.txts⟩
theorem patV_ok:∀ (d:Nat) (x:Ex),exS d x→∀ s ∈ patV d x,okS s
  | 0,_,h,_,_=>h.elim
  | d+1,.mk k n t m ks cs,h,s,hs=>by
    rcases foldV_mem (patV d) ks _ s hs with h1 | ⟨y,hy,h1⟩
    · split at h1
      · simp at h1;subst h1;exact h.1
      · simp at h1
    · exact patV_ok d y (h.2.1 y hy) s h1
theorem OwnS.base {w:World} {B B':Nat} {v:Value} {l:List ByteArray} (h:OwnS w B v l) (hB:B'≤B):OwnS w B' v l:=by
  refine ⟨⟨h.1.1,?_⟩,Nat.le_trans hB h.2⟩
  rcases h.1.2 with hn | ⟨g,cap,cur,hv,hb,hr⟩
  · exact .inl hn
  · exact .inr ⟨g,cap,cur,hv,Nat.le_trans hB hb,hr⟩
def NmC (F:FuncId) (d:Nat) (f:Ex→List ByteArray):Prop :=
  ∀ (w:World) (cs:List Value) (x:Ex),HEx w All d cs x→wtEx d x≤1048576→Calls Tryz.prog F #[.agg cs.toArray] w fun e w'=>∃ u,e=.returned u∧OwnS w' w.heap.size u (f x)∧Below w.heap.size w w'
theorem patVars_of {d:Nat} (hE:NmC 109 d (patV d)):NmC 109 (d+1) (patV (d+1)):=by
  intro w cs x h hwt
  have hok:=h.txts
  obtain ⟨kv,cv,rfl,-,-,hts,hms,f0,-⟩:=h
  obtain ⟨kx,nx,tx,mx,ks,cl⟩:=x
  simp only [Ex.kind,Ex.n,Ex.text,Ex.mod,Ex.kids] at *
  have hw:wtEx (d+1) (.mk kx nx tx mx ks cl)=tx.size+mx.size+wtS (wtEx d) ks+wtS (wtCl (wtEx d)) cl:=rfl
  have wks:wtS (wtEx d) ks≤1048576:=by omega
  obtain ⟨p,cap,rfl,hcl,hcm,hx⟩:=f0
  have hnb:ks.length≤9223372036854775807:=by unfold maxLen at hcm;omega
  obtain ⟨i,hi,hz0,hz1,hz2⟩:=info_parts info_str
  have hpv:patV (d+1) (.mk kx nx tx mx ks cl)=foldV (patV d) (if kx=2 then [tx] else []) ks:=rfl
  rw [hpv]
  have hl0:(if kx=2 then [tx] else ([]:List ByteArray)).length≤1:=by split <;> simp
  have ok0:∀ s ∈ (if kx=2 then [tx] else ([]:List ByteArray)),okS s:=fun s hs=>by
    split at hs
    · simp at hs;subst hs;exact hts
    · simp at hs
  have LQ:Hid (∀ k,(foldV (patV d) (if kx=2 then [tx] else []) (ks.take k)).length≤1048577):=fun k=>by
    have h1:=foldV_len (patV d) (wtEx d) (ks.take k) (if kx=2 then [tx] else []) (fun y _=>patV_len d y)
    have h2:wtS (wtEx d) (ks.take k)≤wtS (wtEx d) ks:=by
      have h3:=sum_take_le (wtEx d) ks k
      have h4:(ks.take k).length≤ks.length:=by rw [List.length_take];omega
      unfold wtS;omega
    omega
  have OQ:Hid (∀ k,∀ s ∈ foldV (patV d) (if kx=2 then [tx] else []) (ks.take k),okS s):=fun k s hs=>by
    rcases foldV_mem _ _ _ s hs with h | ⟨y,hy,h⟩
    · exact ok0 s h
    · exact patV_ok d y (hok.2.1 y (List.mem_of_mem_take hy)) s h
  have BX:Hid (∀ k x,ks[k]?=some x→wtEx d x≤1048576∧exS d x∧(patV d x).length≤1048577):=fun k x hk=>by
    have h1:=sum_take_succ (wtEx d) ks k x hk
    have h2:=sum_take_le (wtEx d) ks (k+1)
    have h3:=patV_len d x
    have h4:wtEx d x≤1048576:=by unfold wtS at wks;omega
    exact ⟨h4,hok.2.1 x (List.mem_of_getElem? hk),by omega⟩
  generalize hn:ks.length=n at *
  have HN:Hid (ks.length=n):=hn
  have HX:Hid (ks≠[]→∃ g off,p=some ⟨g,off,none⟩∧All g∧g<w.heap.size∧∀ i x,ks[i]?=some x→∃ cs,cs.length=6∧(∀ j,j<6→w.cell? ⟨g,off+i * 6+j,none⟩=cs[j]?)∧HEx w All d cs x):=hx
  obtain ⟨W1,hW1⟩:∃ W1,W1=w.alloc (.cells #[.int .i64 kx,.int .i64 nx,.string tx,.string mx,.slice p n cap,cv] 79):=⟨_,rfl⟩
  have bA:Hid (Blk W1 w.heap.size #[.int .i64 kx,.int .i64 nx,.string tx,.string mx,.slice p n cap,cv] 79):=by show Blk _ _ _ _;rw [hW1];exact Blk.new
  have B1:Hid (Below w.heap.size w W1):=by show Below _ _ _;rw [hW1];exact (Below.refl _ _).alloc (Nat.le_refl _) _
  have hs1:W1.heap.size=w.heap.size+1:=by rw [hW1];simp
  have HW1:Hid (W1=w.alloc (.cells #[.int .i64 kx,.int .i64 nx,.string tx,.string mx,.slice p n cap,cv] 79)):=hW1
  have O1:Hid (OwnS (W1.alloc (.cells #[] 9)) (w.heap.size+1) (.slice (some ⟨w.heap.size+1,0,none⟩) 0 0) []):=by
    have:=OwnS.fresh (w:=W1)
    rwa [hs1] at this
  have BB:Hid (Below w.heap.size w (W1.alloc (.cells #[] 9))):=B1.out.alloc B1.out.size _
  have bB:Hid (Blk (W1.alloc (.cells #[] 9)) w.heap.size #[.int .i64 kx,.int .i64 nx,.string tx,.string mx,.slice p n cap,cv] 79):=bA.out.alloc
  clear hx hn hok ok0 hw hwt hW1 hpv
  by_cases k2:kx=2
  · subst k2
    simp only [if_true] at LQ OQ ⊢
    have O2:Hid (OwnS ((W1.alloc (.cells #[] 9)).alloc (.cells #[.string tx] 9)) (w.heap.size+1) (.slice (some ⟨w.heap.size+1,0,none⟩) 0 0) []):=O1.out.next ((Below.refl _ _).alloc (Nat.le_refl _) _)
    have N1:Hid (∀ j u,(strs [tx])[j]?=some u→((W1.alloc (.cells #[] 9)).alloc (.cells #[.string tx] 9)).cell? ((⟨w.heap.size+1+1,0,none⟩:Addr).add j)=some u):=one_str _ tx _ (by simp only [alloc_hs];omega)
    have B2:Hid (Below w.heap.size w ((W1.alloc (.cells #[] 9)).alloc (.cells #[.string tx] 9))):=BB.out.alloc BB.out.size _
    have bC:Hid (Blk ((W1.alloc (.cells #[] 9)).alloc (.cells #[.string tx] 9)) w.heap.size #[.int .i64 2,.int .i64 nx,.string tx,.string mx,.slice p n cap,cv] 79):=bB.out.alloc
    have y0:=bB.out.cell 0 _ rfl
    have y2:=bB.out.cell 2 _ rfl
    go_enter Tryz.func109,Tryz.ntmps109
    go_wp2_with (first | (at_builtin;rw [← HW1.out];refine wpList_append_own _ rfl _ _ 103 rfl (w.heap.size+1) 9 i (.string ⟨#[]⟩) 1 16 Tryz.underlying103 hi hz0 hz1 hz2 rfl (by decide) (.slice (some ⟨w.heap.size+1,0,none⟩) 0 0) _ _ rfl O2.out.1 ⟨w.heap.size+1+1,0,none⟩ 1 1 (strs [tx]) rfl rfl N1.out (strs_oneCell _) (by unfold maxLen;simp) (by simp) O2.out.2 ?_))
    intro u2 w2 hown2 hgr2 _
    have HO2:Hid (OwnS w2 w.heap.size u2 [tx]):=by
      have:=OwnS.of (l:=[]) (m:=[tx]) hown2 (by simp) rfl (Nat.le_trans O2.out.2 hgr2.size)
      exact OwnS.base (by simpa using this) (by omega)
    have bD:Hid (Blk w2 w.heap.size #[.int .i64 2,.int .i64 nx,.string tx,.string mx,.slice p n cap,cv] 79):=O2.out.blk hgr2 bC.out (by simp [Value.ownBlock])
    have HB2:Hid (Below w.heap.size w w2):=B2.out.trans ((O2.out.below hgr2).mono (by omega))
    clear hown2 hgr2 y0 y2
    go_wp2_with fail
    go_loopw [3,4] (fun ov iv wr=>∃ k:Nat,k≤n∧iv=.int .i64 k∧Hid (OwnS wr w.heap.size ov (foldV (patV d) [tx] (ks.take k)))∧Hid (Blk wr w.heap.size #[.int .i64 2,.int .i64 nx,.string tx,.string mx,.slice p n cap,cv] 79)∧Below w.heap.size w wr) (fun _ iv _=>n - (intOf iv).toNat)
    case atStart=>exact ⟨0,Nat.zero_le _,rfl,HO2.out,bD.out,HB2.out⟩
    case round =>
      obtain ⟨k,hk,rfl,ho,hbk,hb⟩:=hrel
      have HB:Hid (Below w.heap.size w wr):=hb
      have xa4:=hbk.out.cell 4 _ rfl
      by_cases hlt:k<n
      · obtain ⟨x,hxk⟩:∃ x,ks[k]?=some x:=⟨ks[k]'(by rw [HN.out];exact hlt),List.getElem?_eq_getElem _⟩
        obtain ⟨g,off,rfl,-,hgl,hat⟩:=HX.out (by intro h;rw [h] at hxk;simp at hxk)
        obtain ⟨cs,hcsl,hcs,r1⟩:=hat k x hxk
        have E1:∀ w',Below w.heap.size w w'→HEx w' All d cs x:=fun w' hw=>r1.mono (SameOn.of_below hw) (fun _ h=>h)
        obtain ⟨c0,c1,c2,c3,c4,c5,rfl⟩:=len6 hcsl
        have a0:=hcs 0 (by omega)
        have a1:=hcs 1 (by omega)
        have a2:=hcs 2 (by omega)
        have a3:=hcs 3 (by omega)
        have a4:=hcs 4 (by omega)
        have a5:=hcs 5 (by omega)
        rw [← hb.cell (p:=⟨g,_,none⟩) hgl] at a0 a1 a2 a3 a4 a5
        simp at a0 a1 a2 a3 a4 a5
        have hki:(k:Int)<(n:Int):=by omega
        have hk0:(0:Int)≤(k:Int):=by omega
        obtain ⟨wx,sx,lx⟩:=BX.out k x hxk
        have HJ:Hid (foldV (patV d) [tx] (ks.take (k+1))=onceS (foldV (patV d) [tx] (ks.take k)) (patV d x)):=foldV_snoc _ _ ks k x hxk
        have lq:=LQ.out k
        have oq:=OQ.out k
        generalize hJ0:foldV (patV d) [tx] (ks.take k)=J at *
        clear hb hcs hat hcsl r1 hJ0
        go_wp2_with fail
        refine (hE _ _ x (E1 _ HB.out) wx).mono ?_
        rintro e w4 ⟨u4,rfl,ho4,hb4⟩
        have HB4:Hid (Below w.heap.size w w4):=HB.out.trans (hb4.mono HB.out.size)
        have SV:Hid (StrV w4 u3 J):=(ho.out.next hb4).strV oq
        have SR:Hid (StrR w4 u4 (patV d x)):=ho4.strR (patV_ok d x sx)
        have bk4:Hid (Blk w4 w.heap.size #[.int .i64 2,.int .i64 nx,.string tx,.string mx,.slice (some ⟨g,off,none⟩) n cap,cv] 79):=hbk.out.next hb4
        clear hb4 ho4 xa4 a0 a1 a2 a3 a4 a5
        go_wp2_with fail
        refine (once_any _ _ _ J (patV d x) SV.out SR.out (by omega)).mono ?_
        rintro e w5 ⟨u5,rfl,ho5,hb5⟩
        have HB5:Hid (Below w.heap.size w w5):=HB4.out.trans (hb5.mono HB4.out.size)
        have HO5:Hid (OwnS w5 w.heap.size u5 (onceS J (patV d x))):=ho5.base HB4.out.size
        have bk5:Hid (Blk w5 w.heap.size #[.int .i64 2,.int .i64 nx,.string tx,.string mx,.slice (some ⟨g,off,none⟩) n cap,cv] 79):=bk4.out.next hb5
        clear hb5 ho5
        go_wp2_with fail
        exact ⟨⟨k+1,by omega,by go_num,by show OwnS _ _ _ _;rw [HJ.out];exact HO5.out,bk5.out,HB5.out⟩,by simp [intOf];omega⟩
      · have HS:Hid (OwnS wr w.heap.size u3 (foldV (patV d) [tx] ks)):=by
          have:=ho.out
          rwa [List.take_of_length_le (by rw [HN.out];omega)] at this
        clear hb
        go_wp2_with fail
        go_ret
        exact ⟨u3,rfl,HS.out,HB.out⟩
  · have L2:(if kx=2 then [tx] else ([]:List ByteArray)) = []:=if_neg k2
    simp only [L2] at LQ OQ ⊢
    clear L2
    have k2b:(kx == 2)=false:=by simpa using k2
    have O9:Hid (OwnS (W1.alloc (.cells #[] 9)) w.heap.size (.slice (some ⟨w.heap.size+1,0,none⟩) 0 0) []):=O1.out.base (by omega)
    have y0:=bA.out.cell 0 _ rfl
    go_enter Tryz.func109,Tryz.ntmps109
    go_wp2_with fail
    rw [← HW1.out]
    go_loopw [3,4] (fun ov iv wr=>∃ k:Nat,k≤n∧iv=.int .i64 k∧Hid (OwnS wr w.heap.size ov (foldV (patV d) [] (ks.take k)))∧Hid (Blk wr w.heap.size #[.int .i64 kx,.int .i64 nx,.string tx,.string mx,.slice p n cap,cv] 79)∧Below w.heap.size w wr) (fun _ iv _=>n - (intOf iv).toNat)
    case atStart=>exact ⟨0,Nat.zero_le _,rfl,O9.out,bB.out,BB.out⟩
    case round =>
      obtain ⟨k,hk,rfl,ho,hbk,hb⟩:=hrel
      have HB:Hid (Below w.heap.size w wr):=hb
      have xa4:=hbk.out.cell 4 _ rfl
      by_cases hlt:k<n
      · obtain ⟨x,hxk⟩:∃ x,ks[k]?=some x:=⟨ks[k]'(by rw [HN.out];exact hlt),List.getElem?_eq_getElem _⟩
        obtain ⟨g,off,rfl,-,hgl,hat⟩:=HX.out (by intro h;rw [h] at hxk;simp at hxk)
        obtain ⟨cs,hcsl,hcs,r1⟩:=hat k x hxk
        have E1:∀ w',Below w.heap.size w w'→HEx w' All d cs x:=fun w' hw=>r1.mono (SameOn.of_below hw) (fun _ h=>h)
        obtain ⟨c0,c1,c2,c3,c4,c5,rfl⟩:=len6 hcsl
        have a0:=hcs 0 (by omega)
        have a1:=hcs 1 (by omega)
        have a2:=hcs 2 (by omega)
        have a3:=hcs 3 (by omega)
        have a4:=hcs 4 (by omega)
        have a5:=hcs 5 (by omega)
        rw [← hb.cell (p:=⟨g,_,none⟩) hgl] at a0 a1 a2 a3 a4 a5
        simp at a0 a1 a2 a3 a4 a5
        have hki:(k:Int)<(n:Int):=by omega
        have hk0:(0:Int)≤(k:Int):=by omega
        obtain ⟨wx,sx,lx⟩:=BX.out k x hxk
        have HJ:Hid (foldV (patV d) [] (ks.take (k+1))=onceS (foldV (patV d) [] (ks.take k)) (patV d x)):=foldV_snoc _ _ ks k x hxk
        have lq:=LQ.out k
        have oq:=OQ.out k
        generalize hJ0:foldV (patV d) [] (ks.take k)=J at *
        clear hb hcs hat hcsl r1 hJ0
        go_wp2_with fail
        refine (hE _ _ x (E1 _ HB.out) wx).mono ?_
        rintro e w4 ⟨u4,rfl,ho4,hb4⟩
        have HB4:Hid (Below w.heap.size w w4):=HB.out.trans (hb4.mono HB.out.size)
        have SV:Hid (StrV w4 u3 J):=(ho.out.next hb4).strV oq
        have SR:Hid (StrR w4 u4 (patV d x)):=ho4.strR (patV_ok d x sx)
        have bk4:Hid (Blk w4 w.heap.size #[.int .i64 kx,.int .i64 nx,.string tx,.string mx,.slice (some ⟨g,off,none⟩) n cap,cv] 79):=hbk.out.next hb4
        clear hb4 ho4 xa4 a0 a1 a2 a3 a4 a5
        go_wp2_with fail
        refine (once_any _ _ _ J (patV d x) SV.out SR.out (by omega)).mono ?_
        rintro e w5 ⟨u5,rfl,ho5,hb5⟩
        have HB5:Hid (Below w.heap.size w w5):=HB4.out.trans (hb5.mono HB4.out.size)
        have HO5:Hid (OwnS w5 w.heap.size u5 (onceS J (patV d x))):=ho5.base HB4.out.size
        have bk5:Hid (Blk w5 w.heap.size #[.int .i64 kx,.int .i64 nx,.string tx,.string mx,.slice (some ⟨g,off,none⟩) n cap,cv] 79):=bk4.out.next hb5
        clear hb5 ho5
        go_wp2_with fail
        exact ⟨⟨k+1,by omega,by go_num,by show OwnS _ _ _ _;rw [HJ.out];exact HO5.out,bk5.out,HB5.out⟩,by simp [intOf];omega⟩
      · have HS:Hid (OwnS wr w.heap.size u3 (foldV (patV d) [] ks)):=by
          have:=ho.out
          rwa [List.take_of_length_le (by rw [HN.out];omega)] at this
        clear hb
        go_wp2_with fail
        go_ret
        exact ⟨u3,rfl,HS.out,HB.out⟩
theorem patVars_all:∀ d,NmC 109 d (patV d)
  | 0=>fun w cs x h _=>h.elim
  | d+1=>patVars_of (patVars_all d)
end Go.Proofs.YtefpgpbbgclemaaGreatDoor
