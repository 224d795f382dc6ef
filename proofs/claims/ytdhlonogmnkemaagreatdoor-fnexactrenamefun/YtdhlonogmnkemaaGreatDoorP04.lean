/-
  OpenMap OwnPlain RemBase RemShape RemG RemRefs RemGM EachG
-/
import Derived.Test.YtdhlonogmnkemaaGreatDoorP03
set_option maxHeartbeats 16000000
set_option linter.unusedVariables false
set_option maxRecDepth 100000
namespace Go.Proofs.YtdhlonogmnkemaaGreatDoor
open Go.ChangeShapes Go.WideShapes Go.ChangeAt Go.RowKit
section
def keyV (a:Addr) (n:Nat):Value:=.agg #[.pointer (some a),.int .i64 n]
def ZN (w:World) (g:Nat):Prop:=∃ cs t,w.heap[g]?=some (.cells cs t (0,0))
def ZaV (w:World) (mb:Nat) (es:Array MapEntry):Prop:=∃ clock,w.heap[mb]?=some (.map es clock)
def ZcO (w:World) (es:List MapEntry) (a:Addr) (n:Nat):Prop:=∀ e ∈ es,∃ a' n',e.key=keyV a' n'/\ZN w a'.block/\¬ (a'=a/\n'=n)
theorem extU:Tryz.prog.underlying 161=some (.struct (Tryz.prog.fieldsOf 161)):=by kernel_rfl
theorem extH:Tryz.prog.stoodInHeld 161=false:=by kernel_rfl
theorem expI:(Tryz.prog.info? 76).map (·.size)=some 6:=by kernel_rfl
theorem ZlQ {w:World} {a b:Addr} (ha:ZN w a.block) (hb:ZN w b.block) (d:Nat):(Op.equalIn (d+1) 159 (.pointer (some a)) (.pointer (some b))).run Tryz.prog w=.ok (decide (a=b)) w:=by
 obtain ⟨ca,ta,ha⟩:=ha;obtain ⟨cb,tb,hb⟩:=hb
 have hs:(Go.sizeOf 76).run Tryz.prog w=.ok 6 w:=by
  cases hi:Tryz.prog.info? 76 with
  | none=>have:=expI;rw [hi] at this;cases this
  | some i =>
   have:=expI;rw [hi] at this;simp at this;simp [Go.sizeOf,typeInfo,hi,this]
 by_cases h:a=b
 . subst h
   simp [Op.equalIn,run_underlying Tryz.underlying159,hs,run_sameAddr_same]
 . simp [Op.equalIn,run_underlying Tryz.underlying159,hs,run_sameAddr_other w h ha hb,h]
theorem extE {w:World} {a b:Addr} {n m:Nat} (ha:ZN w a.block) (hb:ZN w b.block):(Op.equal 161 (keyV a n) (keyV b m)).run Tryz.prog w=.ok (decide (a=b/\n=m)) w:=by
 unfold Op.equal Op.maxDepth keyV;rw [show (10000:Nat)=9999+1 from rfl,run_equalIn_struct w 9999 _ _ _ extU extH];have h1:(Op.equalIn 9999 159 (.pointer (some a)) (.pointer (some b))).run Tryz.prog w=.ok (decide (a=b)) w:=ZlQ ha hb 9998;by_cases e1:a=b
 . subst e1
   by_cases e2:n=m
   . simp [go_sem,Program.fieldsOf,Tryz.underlying161,Tryz.underlying3,Op.eqFields,h1,e2]
   . have e3:¬ (n:Int)=(m:Int):=by omega
     simp [go_sem,Program.fieldsOf,Tryz.underlying161,Tryz.underlying3,Op.eqFields,h1,e2,e3]
 . simp [go_sem,Program.fieldsOf,Tryz.underlying161,Tryz.underlying3,Op.eqFields,h1,e1]
theorem Zcl {w:World} {a:Addr} {n:Nat} (ha:ZN w a.block):∀ (es:List MapEntry) (i:Nat),ZcO w es a n->(Instr.findAsking 161 (keyV a n) es i).run Tryz.prog w=.ok none w
 | [],i,_=>by simp [Instr.findAsking]
 | e :: es,i,h=>by
  obtain ⟨a',n',hk,hp,hne⟩:=h e (by simp);have hd:decide (a=a'/\n=n')=false:=decide_eq_false (λh=>hne ⟨h.1.symm,h.2.symm⟩);have h1:=extE (n:=n) (m:=n') ha hp;rw [<-hk,hd] at h1;have h2:=Zcl ha es (i+1) (λe he=>h e (by simp [he]));simp [Instr.findAsking,h1,h2]
theorem Zcm {w:World} {a:Addr} {n:Nat} (ha:ZN w a.block) (x:MapEntry) (hx:x.key=keyV a n):∀ (es:List MapEntry) (i:Nat),ZcO w es a n->(Instr.findAsking 161 (keyV a n) (es ++ [x]) i).run Tryz.prog w=.ok (some (i+es.length,x.val)) w
 | [],i,_=>by
  have h1:=extE (n:=n) (m:=n) ha ha;rw [<-hx] at h1;simp [Instr.findAsking,hx] at h1 ⊢;simp [h1]
 | e :: es,i,h=>by
  obtain ⟨a',n',hk,hp,hne⟩:=h e (by simp);have hd:decide (a=a'/\n=n')=false:=decide_eq_false (λh=>hne ⟨h.1.symm,h.2.symm⟩);have h1:=extE (n:=n) (m:=n') ha hp;rw [<-hk,hd] at h1;have h2:=Zcm ha x hx es (i+1) (λe he=>h e (by simp [he]));simp [Instr.findAsking,h1,h2];omega
theorem ZcP (fs:Array Field) (a:Addr) (n:Nat) (es:List MapEntry) (hk:∀ e ∈ es,∃ a' n',e.key=keyV a' n') (i:Nat) (hne:es≠[]):Instr.findNow (.struct fs) (keyV a n) es i=none:=by
 cases es with
 | nil=>exact absurd rfl hne
 | cons e es =>
  simp [Instr.findNow,Instr.sameNow]
theorem ZdY {w:World} {a:Addr} {n:Nat} (ha:ZN w a.block) (es:List MapEntry) (h:ZcO w es a n):(Instr.findKey 161 (keyV a n) es).run Tryz.prog w=.ok none w:=by
 by_cases he:es = []
 . subst he
   simp [Instr.findKey,run_underlying extU,Instr.findNow]
 . simp [Instr.findKey,run_underlying extU,ZcP _ a n es (λe he=>by obtain ⟨a',n',hk,-⟩:=h e he;exact ⟨a',n',hk⟩) 0 he,Zcl ha es 0 h]
theorem Zgn {w:World} {a:Addr} {n:Nat} (ha:ZN w a.block) (es:List MapEntry) (x:MapEntry) (hx:x.key=keyV a n) (h:ZcO w es a n):(Instr.findKey 161 (keyV a n) (es ++ [x])).run Tryz.prog w=.ok (some (es.length,x.val)) w:=by
 have hf:=ZcP (Tryz.prog.fieldsOf 161) a n (es ++ [x]) (λe he=>by
  rcases List.mem_append.1 he with he | he
  . obtain ⟨a',n',hk,-⟩:=h e he;exact ⟨a',n',hk⟩
  . simp at he;subst he;exact ⟨a,n,hx⟩) 0 (by simp)
 have h2:=Zcm ha x hx es 0 h;simp only [Nat.zero_add] at h2;simp [Instr.findKey,run_underlying extU,hf,h2]
theorem Zcn (em:Bool) (a:Addr) (n:Nat) (w:World):(Instr.checkKey em 10000 161 (keyV a n)).run Tryz.prog w=.ok () w:=by kernel_rfl
theorem Zhg {w:World} {r:Nat} {es:Array MapEntry} {clock:Nat} (hb:w.heap[r]?=some (.map es clock)):(getObj r).run Tryz.prog w=.ok (.map es clock) w:=by simp [getObj,Sem.run,hb]
theorem Zi8 {w:World} {r:Nat} {es:Array MapEntry} {clock:Nat} (o:Obj) (hb:w.heap[r]?=some (.map es clock)):(setObj r o).run Tryz.prog w=.ok () { w with heap:=w.heap.setIfInBounds r o }:=by simp [setObj,Sem.run,hb]
theorem ZkB {w:World} {mb:Nat} {es:Array MapEntry} {a:Addr} {n:Nat} (hm:ZaV w mb es) (ha:ZN w a.block) (h:ZcO w es.toList a n) :
 (Instr.lookup 71 (.map (some mb)) (keyV a n) true).run Tryz.prog w=.ok (.tuple #[.slice none 0 0,.bool false]) w:=by
 obtain ⟨clock,hm⟩:=hm;simp [Instr.lookup,run_underlying Tryz.underlying71,Zhg hm,Zcn,ZdY ha _ h]
theorem ZlR {w:World} {mb:Nat} {es:Array MapEntry} {clock:Nat} {a:Addr} {n:Nat} (v:Value) (hm:w.heap[mb]?=some (.map es clock)) (ha:ZN w a.block) (h:ZcO w es.toList a n) :
 (Instr.mapUpdate 71 (.map (some mb)) (keyV a n) v).run Tryz.prog w=.ok () { w with heap:=w.heap.setIfInBounds mb (.map (es.push { key:=keyV a n,val:=v,born:=clock }) (clock+1)) }:=by
 simp [Instr.mapUpdate,run_underlying Tryz.underlying71,Zhg hm,Zcn,ZdY ha _ h,Zi8 _ hm]
theorem ZlS {w:World} {mb:Nat} {es:Array MapEntry} {clock:Nat} {a:Addr} {n:Nat} (x:MapEntry) (hx:x.key=keyV a n) (hm:w.heap[mb]?=some (.map (es.push x) clock)) (ha:ZN w a.block) (h:ZcO w es.toList a n) (ty:TypeId) :
 (Builtin.delete_ #[71,161] ty #[.map (some mb),keyV a n]).run Tryz.prog w=.ok (.tuple #[]) { w with heap:=w.heap.setIfInBounds mb (.map es clock) }:=by
 have hf:(Instr.findKey 161 (keyV a n) (es.push x).toList).run Tryz.prog w=.ok (some (es.size,x.val)) w:=by
  have:=Zgn ha es.toList x hx h
  simpa using this
 have he:(es.push x).eraseIdxIfInBounds es.size=es:=by
  apply Array.toList_inj.1
  simp only [Array.eraseIdxIfInBounds,Array.size_push,Nat.lt_succ_self,dite_true,Array.toList_eraseIdx,Array.toList_push];rw [List.eraseIdx_append_of_length_le (by simp)];simp
 simp only [Builtin.delete_];simp [run_underlying Tryz.underlying71,Zhg hm,Zcn];simp only [Array.toList_push] at hf;simp [hf,Zi8 _ hm,he]
section
variable {P:Program} {ops:Array Oper} {rest:List Oper} {o:Oper} {a:Act} {Q:Exit->Act->World->Prop}
theorem Zdz (w:World) (hg:o.guard=none) (m x:Operand) (t:TypeId) (hop:o.op=Op.lookup t m x true) (mv key v:Value) (hm:a.eval m=mv) (hx:a.eval x=key)
 (hrun:(Instr.lookup t mv key true).run P w=.ok v w) (hK:wpList P ops Q rest (a.put o.dst v) w):wpList P ops Q (o :: rest) a w:=by
 refine wpList_plain hg λK' hK'=>?_;unfold Oper.wp;simp [execOp,hop,hm,hx,hrun,Result.andThen];exact hK' _ _ hK
theorem ZcN (w w':World) (hg:o.guard=none) (m x v:Operand) (t:TypeId) (hop:o.op=Op.mapUpdate t m x v) (mv key val:Value) (hm:a.eval m=mv) (hx:a.eval x=key) (hv:a.eval v=val)
 (hrun:(Instr.mapUpdate t mv key val).run P w=.ok () w') (hK:wpList P ops Q rest (a.put o.dst undef) w'):wpList P ops Q (o :: rest) a w:=by
 refine wpList_plain hg λK' hK'=>?_;unfold Oper.wp;simp [execOp,hop,hm,hx,hv,hrun,Result.andThen];exact hK' _ _ hK
theorem ZdA (w w':World) (hg:o.guard=none) (m x:Operand) (t k:TypeId) (hop:o.op=Op.call { callee:=Callee.builtin Builtin.delete,args:=#[m,x],argTypes:=#[t,k] }) (mv key:Value) (hm:a.eval m=mv) (hx:a.eval x=key)
 (hrun:(Builtin.delete_ #[t,k] o.type #[mv,key]).run P w=.ok (.tuple #[]) w') (hK:wpList P ops Q rest (a.put o.dst (.tuple #[])) w'):wpList P ops Q (o :: rest) a w:=by
 refine wpList_plain hg λK' hK'=>?_;unfold Oper.wp;simp [execOp,hop,resolve,invoke,builtin,hm,hx,hrun,Result.andThen];exact hK' _ _ hK
end
theorem ZhV (w:World) (mb:Nat) (ob:Obj) (N:Nat):OffB mb N w { w with heap:=w.heap.setIfInBounds mb ob } :=
 ⟨rfl,rfl,rfl,by simp,λk _ hk=>by simp [Ne.symm hk]⟩
theorem ZlD {w:World} {mb:Nat} {o:Obj} (ob:Obj) (h:w.heap[mb]?=some o):({ w with heap:=w.heap.setIfInBounds mb ob }:World).heap[mb]?=some ob:=by
 have:=(Array.getElem?_eq_some_iff.1 h).1;simp [this]
theorem ZN.off {w w':World} {mb N g:Nat} (h:ZN w g) (ho:OffB mb N w w') (hN:g<N) (hne:g≠mb):ZN w' g:=by
 obtain ⟨cs,t,h⟩:=h;exact ⟨cs,t,(ho.block g hN hne).trans h⟩
def Plain (w:World) (N mb:Nat) (PL:Nat->Prop):Prop:=∀ g,PL g->g<N/\g≠mb/\ZN w g
theorem Plain.off {w w':World} {N N' mb:Nat} {PL:Nat->Prop} (h:Plain w N mb PL) (ho:OffB mb N' w w') (hN:N<=N'):Plain w' N mb PL :=
 λg hg=>⟨(h g hg).1,(h g hg).2.1,(h g hg).2.2.off ho (Nat.lt_of_lt_of_le (h g hg).1 hN) (h g hg).2.1⟩
theorem Plain.same {w w':World} {N N' mb:Nat} {PL:Nat->Prop} (h:Plain w N mb PL) (ho:OffB mb N' w w') (hN:N<=N'):Za PL w w' :=
 ho.same (λg hg=>⟨Nat.lt_of_lt_of_le (h g hg).1 hN,(h g hg).2.1⟩)
def ZbA (w:World) (PL:Nat->Prop) (es:Array MapEntry) (z:Nat):Prop :=
 ∀ e ∈ es.toList,∃ (a:Addr) (n q d:Nat) (ys:List Ex),e.key=keyV a n/\ys≠[]/\Rows w PL 6 (HEx w PL d) (.slice (some a) n q) ys/\z<SizeOf.sizeOf ys
theorem ZbA.mono {w w':World} {PL:Nat->Prop} {es:Array MapEntry} {z z':Nat} (h:ZbA w PL es z) (hs:Za PL w w') (hz:z'<=z):ZbA w' PL es z':=λe he=>by
 obtain ⟨a,n,q,d,ys,h1,h2,h3,h4⟩:=h e he;exact ⟨a,n,q,d,ys,h1,h2,h3.mono hs sqj (λ_ _ _ h=>h.mono hs sqj),Nat.lt_of_le_of_lt hz h4⟩
theorem Ze4 {α:Type} {w:World} {S:Nat->Prop} {c n q:Nat} {R:List Value->α->Prop} {a:Addr} {xs:List α} (h:Rows w S c R (.slice (some a) n q) xs) (hne:xs≠[]):S a.block:=by
 obtain ⟨p,cap,hv,-,-,hx⟩:=h;obtain ⟨g,off,hp,hS,-⟩:=hx hne;simp only [Value.slice.injEq] at hv;rw [hp] at hv;simp only [Option.some.injEq] at hv;rw [hv.1];exact hS
theorem ZbA.not {w:World} {N mb:Nat} {PL:Nat->Prop} {es:Array MapEntry} {z:Nat} (h:ZbA w PL es z) (hP:Plain w N mb PL) {a:Addr} {n q d:Nat} {xs:List Ex} (hr:Rows w PL 6 (HEx w PL d) (.slice (some a) n q) xs) (hz:SizeOf.sizeOf xs<=z):ZcO w es.toList a n:=λe he=>by
 obtain ⟨a',n',q',d',ys,h1,h2,h3,h4⟩:=h e he;refine ⟨a',n',h1,(hP _ (Ze4 h3 h2)).2.2,?_⟩;rintro ⟨rfl,rfl⟩;have:xs=ys:=Zck (λcs x x' h h'=>HEx.uniq cs x x' h h') hr h3;subst this;omega
theorem ZbA.push {w:World} {PL:Nat->Prop} {es:Array MapEntry} {z z':Nat} (h:ZbA w PL es z) (hz:z'<=z) {a:Addr} {n q d:Nat} {xs:List Ex} (hne:xs≠[]) (hr:Rows w PL 6 (HEx w PL d) (.slice (some a) n q) xs) (hx:z'<SizeOf.sizeOf xs) (v:Value) (b:Nat):ZbA w PL (es.push { key:=keyV a n,val:=v,born:=b }) z':=λe he=>by
 simp only [Array.toList_push,List.mem_append,List.mem_singleton] at he
 rcases he with he | rfl
 . obtain ⟨a',n',q',d',ys,h1,h2,h3,h4⟩:=h e he
   exact ⟨a',n',q',d',ys,h1,h2,h3,by omega⟩
 . exact ⟨a,n,q,d,xs,rfl,hne,hr,hx⟩
theorem ZbA.none (w:World) (PL:Nat->Prop) (z:Nat):ZbA w PL #[] z:=λe he=>by simp at he
end
theorem Zaw {α:Type} {w:World} {e:TypeId} {c:Nat} {R:List Value->α->List Nat->Prop} {v:Value} {xs:List α} {fp:List Nat} (h:Zg w e c R v xs fp) (hR:∀ cs x f,R cs x f->∀ a ∈ f,ZN w a):∀ a ∈ fp,ZN w a:=by
 rcases h with ⟨_,rfl,_⟩ | ⟨hne,cells,g,cap',fps,ho,hv',hl,rfl,hat⟩
 . intro a ha;simp at ha
 . intro a ha
   rcases List.mem_cons.1 ha with rfl | ha
   . rcases ho.2 with hn | ⟨g',cap2,cur,hv2,hb,hg,hr⟩
     . rw [hn.1] at hv';cases hv'
     . have:g'=a:=by rw [hv'] at hv2;simp at hv2;exact hv2.1.symm
       subst this;exact ⟨cur,e,hg⟩
   . obtain ⟨f,hf,ha⟩:=List.mem_flatten.1 ha
     obtain ⟨i,hi,rfl⟩:=List.mem_iff_getElem.1 hf;obtain ⟨cs,_,_,hr⟩:=hat i (xs[i]'(by rw [<-hl];exact hi)) _ (List.getElem?_eq_getElem _) (List.getElem?_eq_getElem hi);exact hR _ _ _ hr a ha
theorem OCl.plain' {w:World} {O:List Value->Ex->List Nat->Prop} {cs:List Value} {c:Cl} {fp:List Nat} (h:OCl w O cs c fp) (hO:∀ cs x f,O cs x f->∀ a ∈ f,ZN w a):∀ a ∈ fp,ZN w a:=by
 obtain ⟨pv,bv,f1,f2,rfl,rfl,h1,h2⟩:=h;intro a ha
 rcases List.mem_append.1 ha with ha | ha
 . exact Zaw h1 hO a ha
 . exact Zaw h2 hO a ha
theorem OEx.plain {w:World}:∀ {d:Nat} {cs:List Value} {e:Ex} {fp:List Nat},OEx w d cs e fp->∀ a ∈ fp,ZN w a
 | 0,_,_,_,h=>h.elim
 | d+1,cs,e,fp,h=>by
  obtain ⟨kv,cv,f1,f2,rfl,rfl,h1,h2,h3,h4,hr,hc⟩:=h;intro a ha
  rcases List.mem_append.1 ha with ha | ha
  . exact Zaw hr (λcs x f h=>h.plain) a ha
  . exact Zaw hc (λcs x f h=>h.plain' (λcs x f h=>h.plain)) a ha
theorem OFn.plain {w:World} {d:Nat} {cs:List Value} {f:Fn'} {fp:List Nat} (h:OFn w d cs f fp):∀ a ∈ fp,ZN w a:=by
 obtain ⟨cv,rfl,h1,h2,h3⟩:=h;exact Zaw h3 (λcs x f h=>h.plain' (λcs x f h=>h.plain))
theorem OMd.plain {w:World} {d:Nat} {cs:List Value} {m:Md} {fp:List Nat} (h:OMd w d cs m fp):∀ a ∈ fp,ZN w a:=by
 obtain ⟨ev,fv,f1,f2,rfl,rfl,h1,h2,h3⟩:=h;intro a ha
 rcases List.mem_append.1 ha with ha | ha
 . exact Zaw h2 (λcs x f h=>by rw [h.2];simp) a ha
 . exact Zaw h3 (λcs x f h=>h.plain) a ha
theorem Zbf {w:World} {d:Nat} {v:Value} {ms:List Md} {fp:List Nat} (h:Zg w 63 3 (OMd w d) v ms fp):∀ a ∈ fp,ZN w a:=Zaw h (λcs x f h=>h.plain)
theorem ZaM {w:World} {d:Nat} {v:Value} {ms:List Md} {fp:List Nat} (h:Zg w 63 3 (OMd w d) v ms fp):∀ a ∈ fp,a<w.heap.size:=h.lt (λcs x f h=>h.lt)
theorem ZbN {w:World} {d:Nat} {v:Value} {ms:List Md} {fp:List Nat} {S:Nat->Prop} (h:Zg w 63 3 (OMd w d) v ms fp) (hS:∀ a ∈ fp,S a):Rows w S 3 (HMd w S d) v ms:=h.rows hS (λcs x f _ hs h=>h.tree (λa ha=>hS a (hs a ha)))
theorem ZbO {w w':World} {d:Nat} {v:Value} {ms:List Md} {fp:List Nat} (h:Zg w 63 3 (OMd w d) v ms fp) (hk:Zj fp w w'):Zg w' 63 3 (OMd w' d) v ms fp:=h.keep hk (λcs x f _ hs h=>h.keep (hk.sub hs))
section
open Go.Proofs.Tryz
structure Ctx (Cap:World->Prop) (w:World) (N mb:Nat) (PL:Nat->Prop) (es:Array MapEntry) (z:Nat):Prop where
 pl:Plain w N mb PL
 mp:ZaV w mb es
 ks:ZbA w PL es z
 lt:mb<N
 le:N<=w.heap.size
 cap:Cap w
def CapK (Cap:World->Prop) (N mb:Nat):Prop:=∀ w w',OffB mb N w w'->Cap w->Cap w'
def ResM (w:World) (mb:Nat) (es:Array MapEntry) (O:World->Value->List Nat->Prop) (e:Ending) (w':World):Prop :=
 ∃ u fp,e=.returned u/\O w' u fp/\fp.Nodup/\(∀ a ∈ fp,w.heap.size<=a/\a<w'.heap.size)/\OffB mb w.heap.size w w'/\ZaV w' mb es
theorem ZaV.keep {w w':World} {mb:Nat} {es:Array MapEntry} (h:ZaV w mb es) (he:w'.heap[mb]?=w.heap[mb]?):ZaV w' mb es:=by
 obtain ⟨c,h⟩:=h;exact ⟨c,he.trans h⟩
theorem Ctx.off {Cap:World->Prop} {w w':World} {N N' mb:Nat} {PL:Nat->Prop} {es:Array MapEntry} {z z':Nat} (h:Ctx Cap w N mb PL es z) (hC:CapK Cap N mb) (ho:OffB mb N' w w') (hN:N<=N') (hm:ZaV w' mb es) (hz:z'<=z):Ctx Cap w' N mb PL es z' :=
 ⟨h.pl.off ho hN,hm,h.ks.mono (h.pl.same ho hN) hz,h.lt,Nat.le_trans h.le ho.size,hC _ _ (ho.mono hN) h.cap⟩
theorem Ctx.next {Cap:World->Prop} {w w':World} {N mb:Nat} {PL:Nat->Prop} {es:Array MapEntry} {z z':Nat} (h:Ctx Cap w N mb PL es z) (hC:CapK Cap N mb) (hb:Bz w w') (hz:z'<=z):Ctx Cap w' N mb PL es z' :=
 h.off hC (OffB.of_below hb) h.le (h.mp.keep (hb.block mb (by have:=h.lt;have:=h.le;omega))) hz
theorem Ctx.same {Cap:World->Prop} {w w':World} {N N' mb:Nat} {PL:Nat->Prop} {es:Array MapEntry} {z:Nat} (h:Ctx Cap w N mb PL es z) (ho:OffB mb N' w w') (hN:N<=N'):Za PL w w':=h.pl.same ho hN
theorem Ctx.mlt {Cap:World->Prop} {w:World} {N mb:Nat} {PL:Nat->Prop} {es:Array MapEntry} {z:Nat} (h:Ctx Cap w N mb PL es z):mb<w.heap.size:=by
 have:=h.lt;have:=h.le;omega
theorem OffB.cellAt {b N:Nat} {u v:World} (h:OffB b N u v) {p:Addr} (hN:p.block<N) (hne:p.block≠b):v.cell? p=u.cell? p:=sqK (h.block p.block hN hne)
theorem ZaO {w w':World} {B G n cap c:Nat} {e:TypeId} {xs:List Value} (h:w.ownsRow B e c (.slice (some ⟨G,0,none⟩) n cap) n xs) (hk:w'.heap[G]?=w.heap[G]?):w'.ownsRow B e c (.slice (some ⟨G,0,none⟩) n cap) n xs:=by
 refine ⟨h.1,?_⟩
 rcases h.2 with hn | ⟨g',cap',cur,hv',hb,hg,hr⟩
 . exact .inl hn
 . have:g'=G:=by simp at hv';exact hv'.1.symm
   subst this;exact .inr ⟨g',cap',cur,hv',hb,hk.trans hg,hr⟩
theorem Zae.next {α:Type} {b:Nat} {w wr w1:World} {G n c k:Nat} {e:TypeId} {O:World->List Value->α->List Nat->Prop} {es:List α} {xs:List Value} {fps:List (List Nat)}
 (hO:∀ w w' cs x f,O w cs x f->Zj f w w'->O w' cs x f) (h:Zae b w wr G n e c O es k xs fps) (ho:OffB b wr.heap.size wr w1):Zae b w w1 G n e c O es k xs fps:=by
 have h1:=h.sz;have h2:=h.lt;have h3:=ho.size;refine ⟨ZaO h.own (ho.block G (by omega) (by omega)),h.len,h.nd,λa ha=>?_,λi x f hx hf=>?_,h.off.trans (ho.mono (by omega)),by omega,h2⟩
 . have:=h.rng a ha;omega
 . obtain ⟨cs,g1,g2,g3⟩:=h.el i x f hx hf
   refine ⟨cs,g1,g2,hO _ _ _ _ _ g3 (λa ha=>?_)⟩;have:=h.rng a (List.mem_flatten.2 ⟨f,List.mem_of_getElem? hf,ha⟩);exact ho.block a this.2 (by omega)
theorem Zgy (w:World) (c:Nat):Calls prog 119 #[.slice none 0 c] w λe w'=>e=.returned (.slice none 0 0)/\w'=w:=by
 have e0:Sem.run prog (binOp .eql 157 (.slice none 0 c) (.slice none 0 0)) w=.ok (.bool true) w:=(by kernel_rfl);go_enter func119,ntmps119;go_wp2;go_ret;exact ⟨rfl,rfl⟩
theorem Zdd (w:World) (a:Addr) (n c:Nat) (hn:n<=16777216):Calls prog 119 #[.slice (some a) n c] w λe w'=>e=.returned (.slice (some ⟨w.heap.size,0,none⟩) n n)/\∃ M:Array Value,M.size=n * 6/\w'=w.alloc (.cells M 76):=by
 obtain ⟨M,hM,hmk⟩:=Za0 (t:=157) (e:=76) (c:=6) underlying157 (by kernel_rfl) w n hn;have e0:Sem.run prog (binOp .eql 157 (.slice (some a) n c) (.slice none 0 0)) w=.ok (.bool false) w:=(by kernel_rfl);go_enter func119,ntmps119;go_wp2;go_ret;exact ⟨rfl,M,hM,rfl⟩
theorem ZeC (w:World) (c:Nat):Calls prog 195 #[.slice none 0 c] w λe w'=>e=.returned (.slice none 0 0)/\w'=w:=by
 have e0:Sem.run prog (binOp .eql 198 (.slice none 0 c) (.slice none 0 0)) w=.ok (.bool true) w:=(by kernel_rfl);go_enter func195,ntmps195;go_wp2;go_ret;exact ⟨rfl,rfl⟩
theorem Zee (w:World) (a:Addr) (n c:Nat) (hn:n<=16777216):Calls prog 195 #[.slice (some a) n c] w λe w'=>e=.returned (.slice (some ⟨w.heap.size,0,none⟩) n n)/\∃ M:Array Value,M.size=n * 2/\w'=w.alloc (.cells M 46):=by
 obtain ⟨M,hM,hmk⟩:=Za0 (t:=198) (e:=46) (c:=2) underlying198 (by kernel_rfl) w n hn;have e0:Sem.run prog (binOp .eql 198 (.slice (some a) n c) (.slice none 0 0)) w=.ok (.bool false) w:=(by kernel_rfl);go_enter func195,ntmps195;go_wp2;go_ret;exact ⟨rfl,M,hM,rfl⟩
theorem Zd3 (w:World) (c:Nat):Calls prog 134 #[.slice none 0 c] w λe w'=>e=.returned (.slice none 0 0)/\w'=w:=by
 have e0:Sem.run prog (binOp .eql 123 (.slice none 0 c) (.slice none 0 0)) w=.ok (.bool true) w:=(by kernel_rfl);go_enter func134,ntmps134;go_wp2;go_ret;exact ⟨rfl,rfl⟩
theorem Zde (w:World) (a:Addr) (n c:Nat) (hn:n<=16777216):Calls prog 134 #[.slice (some a) n c] w λe w'=>e=.returned (.slice (some ⟨w.heap.size,0,none⟩) n n)/\∃ M:Array Value,M.size=n * 3/\w'=w.alloc (.cells M 59):=by
 obtain ⟨M,hM,hmk⟩:=Za0 (t:=123) (e:=59) (c:=3) underlying123 (by kernel_rfl) w n hn;have e0:Sem.run prog (binOp .eql 123 (.slice (some a) n c) (.slice none 0 0)) w=.ok (.bool false) w:=(by kernel_rfl);go_enter func134,ntmps134;go_wp2;go_ret;exact ⟨rfl,M,hM,rfl⟩
theorem Zd4 (w:World) (c:Nat):Calls prog 136 #[.slice none 0 c] w λe w'=>e=.returned (.slice none 0 0)/\w'=w:=by
 have e0:Sem.run prog (binOp .eql 127 (.slice none 0 c) (.slice none 0 0)) w=.ok (.bool true) w:=(by kernel_rfl);go_enter func136,ntmps136;go_wp2;go_ret;exact ⟨rfl,rfl⟩
theorem Zdf (w:World) (a:Addr) (n c:Nat) (hn:n<=16777216):Calls prog 136 #[.slice (some a) n c] w λe w'=>e=.returned (.slice (some ⟨w.heap.size,0,none⟩) n n)/\∃ M:Array Value,M.size=n * 2/\w'=w.alloc (.cells M 84):=by
 obtain ⟨M,hM,hmk⟩:=Za0 (t:=127) (e:=84) (c:=2) underlying127 (by kernel_rfl) w n hn;have e0:Sem.run prog (binOp .eql 127 (.slice (some a) n c) (.slice none 0 0)) w=.ok (.bool false) w:=(by kernel_rfl);go_enter func136,ntmps136;go_wp2;go_ret;exact ⟨rfl,M,hM,rfl⟩
theorem Zcp (w:World) (c:Nat):Calls prog 87 #[.slice none 0 c] w λe w'=>e=.returned (.slice none 0 0)/\w'=w:=by
 have e0:Sem.run prog (binOp .eql 89 (.slice none 0 c) (.slice none 0 0)) w=.ok (.bool true) w:=(by kernel_rfl);go_enter func87,ntmps87;go_wp2;go_ret;exact ⟨rfl,rfl⟩
theorem Zce (w:World) (a:Addr) (n c:Nat) (hn:n<=16777216):Calls prog 87 #[.slice (some a) n c] w λe w'=>e=.returned (.slice (some ⟨w.heap.size,0,none⟩) n n)/\∃ M:Array Value,M.size=n * 3/\w'=w.alloc (.cells M 63):=by
 obtain ⟨M,hM,hmk⟩:=Za0 (t:=89) (e:=63) (c:=3) underlying89 (by kernel_rfl) w n hn;have e0:Sem.run prog (binOp .eql 89 (.slice (some a) n c) (.slice none 0 0)) w=.ok (.bool false) w:=(by kernel_rfl);go_enter func87,ntmps87;go_wp2;go_ret;exact ⟨rfl,M,hM,rfl⟩
theorem ZeX (w:World) (p p':Option Addr) (c c':Nat) (bf:Value):Calls prog 196 #[.slice p 0 c,.slice p' 0 c',bf] w λe w'=>e=.returned (.tuple #[])/\w'=w:=by
 go_enter func196,ntmps196;go_wp2_with fail
 go_loopw [10] (λiv wr=>iv=.int .i64 0/\Hid (wr=w)) (λ_ _=>0)
 case atStart=>exact ⟨rfl,rfl⟩
 case round =>
  obtain ⟨rfl,hw⟩:=hrel;go_wp2;go_end0;exact ⟨rfl,hw.out⟩
theorem ZeD (w:World) (p p':Option Addr) (c c':Nat) (bf:Value):Calls prog 135 #[.slice p 0 c,.slice p' 0 c',bf] w λe w'=>e=.returned (.tuple #[])/\w'=w:=by
 go_enter func135,ntmps135;go_wp2_with fail
 go_loopw [10] (λiv wr=>iv=.int .i64 0/\Hid (wr=w)) (λ_ _=>0)
 case atStart=>exact ⟨rfl,rfl⟩
 case round =>
  obtain ⟨rfl,hw⟩:=hrel;go_wp2;go_end0;exact ⟨rfl,hw.out⟩
theorem ZeE (w:World) (p p':Option Addr) (c c':Nat) (bf:Value):Calls prog 137 #[.slice p 0 c,.slice p' 0 c',bf] w λe w'=>e=.returned (.tuple #[])/\w'=w:=by
 go_enter func137,ntmps137;go_wp2_with fail
 go_loopw [10] (λiv wr=>iv=.int .i64 0/\Hid (wr=w)) (λ_ _=>0)
 case atStart=>exact ⟨rfl,rfl⟩
 case round =>
  obtain ⟨rfl,hw⟩:=hrel;go_wp2;go_end0;exact ⟨rfl,hw.out⟩
theorem ZcT (w:World) (p p':Option Addr) (c c':Nat) (bf:Value):Calls prog 88 #[.slice p 0 c,.slice p' 0 c',bf] w λe w'=>e=.returned (.tuple #[])/\w'=w:=by
 go_enter func88,ntmps88;go_wp2_with fail
 go_loopw [10] (λiv wr=>iv=.int .i64 0/\Hid (wr=w)) (λ_ _=>0)
 case atStart=>exact ⟨rfl,rfl⟩
 case round =>
  obtain ⟨rfl,hw⟩:=hrel;go_wp2;go_end0;exact ⟨rfl,hw.out⟩
end
theorem HEx.shapeR {w:World} {S:Nat->Prop} {d:Nat} {cs:List Value} {x:Ex} (h:HEx w S d cs x):∃ sk sn st se p1 n1 q1 p2 n2 q2,cs = [.int .i64 sk,.int .i64 sn,.string st,.string se,.slice p1 n1 q1,.slice p2 n2 q2]:=by
 cases d with
 | zero=>exact h.elim
 | succ d =>
  obtain ⟨kv,cv,rfl,-,-,-,-,⟨p,c,rfl,-⟩,⟨p',c',rfl,-⟩⟩:=h;exact ⟨_,_,_,_,_,_,_,_,_,_,rfl⟩
theorem HCl.shapeR {w:World} {S:Nat->Prop} {R:List Value->Ex->Prop} {cs:List Value} {c:Cl} (h:HCl w S R cs c):∃ p1 n1 q1 p2 n2 q2,cs = [.slice p1 n1 q1,.slice p2 n2 q2]:=by
 obtain ⟨p,b,rfl,⟨p1,c1,rfl,-⟩,⟨p2,c2,rfl,-⟩⟩:=h;exact ⟨_,_,_,_,_,_,rfl⟩
theorem OCls.shape {w:World} {O:List Value->Ex->List Nat->Prop} {cs:List Value} {c:Cl} {fp:List Nat} (h:OCl w O cs c fp):∃ p1 n1 q1 p2 n2 q2,cs = [.slice p1 n1 q1,.slice p2 n2 q2]:=by
 obtain ⟨pv,bv,f1,f2,rfl,rfl,h1,h2⟩:=h;obtain ⟨p1,c1,rfl,-⟩:=h1.shape;obtain ⟨p2,c2,rfl,-⟩:=h2.shape;exact ⟨_,_,_,_,_,_,rfl⟩
theorem Zbt {mb G N:Nat} {w w':World} (h:Off [mb,G] w w') (hN:N<=G) (hw:N<=w.heap.size):OffB mb N w w' :=
 ⟨h.os,h.tape,h.output,h.size,λk hk hb=>h.block k (by omega) (by simp;omega)⟩
theorem Zb3 {mb G:Nat} {w w':World} (h:OffB mb w.heap.size w w'):Off [mb,G] w w' :=
 ⟨h.os,h.tape,h.output,h.size,λk hk hf=>h.block k hk (by simp at hf;exact hf.1)⟩
theorem ZT {α:Type} {w:World} {S:Nat->Prop} {c n q:Nat} {R:List Value->α->Prop} {xs:List α} (h:Rows w S c R (.slice none n q) xs):xs = []:=by
 obtain ⟨p,cap,hv,-,-,hx⟩:=h
 apply Classical.byContradiction
 intro hne;obtain ⟨g,off,hp,-⟩:=hx hne;simp only [Value.slice.injEq] at hv;rw [hp] at hv
 cases hv.1
theorem ZaP {α:Type} {w:World} {e:TypeId} {c:Nat} {R:List Value->α->List Nat->Prop} (p:Option Addr) (q:Nat) (hq:q<=maxLen):Zg w e c R (.slice p 0 q) ([]:List α) []:=.inl ⟨rfl,rfl,p,q,rfl,hq⟩
section
open Go.Proofs.Tryz
namespace RemG
def RV (F:FuncId) (cp:List Value) (ft:Int->ByteArray->ByteArray->Nat->ByteArray) (mb:Nat):Value:=.agg #[.func (.func F) #[] cp.toArray,.map (some mb)]
def ExpR (F:FuncId) (cp:List Value) (ft:Int->ByteArray->ByteArray->Nat->ByteArray) (Cap:World->Prop) (d:Nat):Prop:=∀ (w:World) (N mb:Nat) (PL:Nat->Prop) (es:Array MapEntry) (z:Nat) (cs:List Value) (x:Ex),CapK Cap N mb->Ctx Cap w N mb PL es z->HEx w PL d cs x->SizeOf.sizeOf x<=z->wtEx d x<=16777216 ->
 Calls prog 121 #[RV F cp ft mb,.agg cs.toArray] w (ResM w mb es λw' u fp=>∃ cs',u=.agg cs'.toArray/\OEx w' d cs' (mapX (fT ft) d x) fp)
def Zjm (F:FuncId) (cp:List Value) (ft:Int->ByteArray->ByteArray->Nat->ByteArray) (Cap:World->Prop) (d:Nat):Prop:=∀ (w:World) (N mb:Nat) (PL:Nat->Prop) (es:Array MapEntry) (z:Nat) (v:Value) (xs:List Ex),CapK Cap N mb->Ctx Cap w N mb PL es z->Rows w PL 6 (HEx w PL d) v xs->SizeOf.sizeOf xs<=z->wtS (wtEx d) xs<=16777216 ->
 Calls prog 76 #[RV F cp ft mb,v] w (ResM w mb es λw' u fp=>Zg w' 76 6 (OEx w' d) u (xs.map (mapX (fT ft) d)) fp)
def ClR (F:FuncId) (cp:List Value) (ft:Int->ByteArray->ByteArray->Nat->ByteArray) (Cap:World->Prop) (d:Nat):Prop:=∀ (w:World) (N mb:Nat) (PL:Nat->Prop) (es:Array MapEntry) (z:Nat) (cs:List Value) (c:Cl),CapK Cap N mb->Ctx Cap w N mb PL es z->HCl w PL (HEx w PL d) cs c->SizeOf.sizeOf c<=z->wtCl (wtEx d) c<=16777216 ->
 Calls prog 32 #[RV F cp ft mb,.agg cs.toArray] w (ResM w mb es λw' u fp=>∃ cs',u=.agg cs'.toArray/\OCl w' (OEx w' d) cs' (mapC (fT ft) d c) fp)
def ClsR (F:FuncId) (cp:List Value) (ft:Int->ByteArray->ByteArray->Nat->ByteArray) (Cap:World->Prop) (d:Nat):Prop:=∀ (w:World) (N mb:Nat) (PL:Nat->Prop) (es:Array MapEntry) (z:Nat) (v:Value) (cl:List Cl),CapK Cap N mb->Ctx Cap w N mb PL es z->Rows w PL 2 (HCl w PL (HEx w PL d)) v cl->SizeOf.sizeOf cl<=z->wtS (wtCl (wtEx d)) cl<=16777216 ->
 Calls prog 161 #[v,.func (.func 32) #[RV F cp ft mb] #[]] w (ResM w mb es λw' u fp=>Zg w' 46 2 (OCl w' (OEx w' d)) u (cl.map (mapC (fT ft) d)) fp)
theorem Zit {F:FuncId} {cp:List Value} {ft:Int->ByteArray->ByteArray->Nat->ByteArray} {Cap:World->Prop} {d:Nat} (hE:ExpR F cp ft Cap d) (w0 w:World) (G n N mb:Nat) (PL:Nat->Prop) (es:Array MapEntry) (z:Nat) (v:Value) (xs:List Ex) (M:List Value) (hC:CapK Cap N mb)
 (hM:Zae mb w0 w G n 76 6 (λw=>OEx w d) (xs.map (mapX (fT ft) d)) 0 M []) (hc:Ctx Cap w N mb PL es z) (hr:Rows w PL 6 (HEx w PL d) v xs) (hn:xs.length=n) (hz:∀ x ∈ xs,SizeOf.sizeOf x<=z) (hw:wtS (wtEx d) xs<=16777216) (hNG:N<=G) :
 Calls prog 120 #[.slice (some ⟨G,0,none⟩) n n,v,.func (.func 121) #[RV F cp ft mb] #[]] w λe w'=>e=.returned (.tuple #[])/\(∃ ys fps,Zae mb w0 w' G n 76 6 (λw=>OEx w d) (xs.map (mapX (fT ft) d)) n ys fps)/\ZaV w' mb es/\Off [mb,G] w w':=by
 obtain ⟨p,cap,rfl,hcl,hcm,hx⟩:=hr;rw [hn] at hcl ⊢;have HN:=hid hn;have HX:=hid hx;have HM0:=hid hM;have HC:=hid hc;have HCK:=hid hC;have HZ:=hid hz;have HWT:=hid hw;have hnb:n<=16777216:=(by unfold wtS at hw;omega);have HNG:=hid hNG;clear hx hn hM hc hC hz hw hNG;unfold RV;go_enter func120,ntmps120;go_wp2_with fail
 go_loopw [10] (λiv wr=>∃ (k:Nat) (ys:List Value) (fps:List (List Nat)),k<=n/\iv=.int .i64 k/\Hid (Zae mb w0 wr G n 76 6 (λw=>OEx w d) (xs.map (mapX (fT ft) d)) k ys fps)/\Hid (ZaV wr mb es)/\Hid (Off [mb,G] w wr)) (λiv _=>n - (intOf iv).toNat)
 case atStart=>exact ⟨0,M,[],Nat.zero_le _,rfl,HM0.out,HC.out.mp,Off.refl _ _⟩
 case round =>
  obtain ⟨k,ys,fps,hk,rfl,HM,HMS,HOG⟩:=hrel;have HOF:Hid (OffB mb N w wr):=Zbt HOG.out HNG.out HC.out.le;by_cases hlt:k<n
  . obtain ⟨x,hxk⟩:=sqA (l:=xs) (k:=k) HN.out hlt
    obtain ⟨g,off,rfl,hg,hgl,hat⟩:=HX.out (sqE hxk);obtain ⟨cs,hcl6,hcs,hex⟩:=hat k x hxk;have hgP:=HC.out.pl g hg;have HXR:Hid (HEx wr PL d cs x):=hex.mono (HC.out.same HOF.out (sqR _)) sqj;obtain ⟨tk,tn,tt,te,r1,m1,s1,r2,m2,s2,rfl⟩:=HEx.shapeR hex;obtain ⟨a0,a1,a2,a3,a4,a5⟩:=sqC6 hcs (by omega);rw [<-HOF.out.cellAt (p:=⟨g,_,none⟩) hgP.1 hgP.2.1] at a0 a1 a2 a3 a4 a5;clear hcs hat;simp at a0 a1 a2 a3 a4 a5;have hki:(k:Int)<(n:Int):=(by omega);have hk0:=sqI k
    have HWX:Hid (wtEx d x<=16777216):=by
     show _<=_;have h1:=HWT.out;have h2:=Ze (wtEx d) xs k x hxk;have h3:=Zf (wtEx d) xs (k+1);unfold wtS at h1;omega
    have HZX:Hid (SizeOf.sizeOf x<=z):=HZ.out x (List.mem_of_getElem? hxk);have HYK:Hid ((xs.map (mapX (fT ft) d))[k]?=some (mapX (fT ft) d x)):=(by show _=_;rw [List.getElem?_map,hxk];rfl);obtain ⟨W5,hW5⟩:∃ W5,W5=wr.alloc (.cells #[.int .i64 tk,.int .i64 tn,.string tt,.string te,.slice r1 m1 s1,.slice r2 m2 s2] 76):=⟨_,rfl⟩;have K5:Hid (Below wr.heap.size wr W5):=(by show Below _ _ _;rw [hW5];exact (sqN _ _));have HW5:=hid hW5;have CR:Hid (Ctx Cap wr N mb PL es z):=HC.out.off HCK.out HOF.out (sqR _) HMS.out (sqR _);have C5:Hid (Ctx Cap W5 N mb PL es z):=CR.out.next HCK.out K5.out (sqR _);have X5:Hid (HEx W5 PL d [.int .i64 tk,.int .i64 tn,.string tt,.string te,.slice r1 m1 s1,.slice r2 m2 s2] x):=HXR.out.mono (CR.out.same (OffB.of_below (b:=mb) K5.out) CR.out.le) sqj;clear hW5 hex hcl6;go_wp2_with fail;rw [<-HW5.out];refine (hE W5 N mb PL es z _ x HCK.out C5.out X5.out HZX.out HWX.out).mono ?_;rintro e w1 ⟨u,fp,rfl,⟨cs',rfl,hx1⟩,hnd,hrg,hb1,hm1⟩;obtain ⟨sk,sn,sx,se,p1,n1,q1,p2,n2,q2,hsh⟩:=hx1.shape;subst hsh;have K6:Hid (OffB mb wr.heap.size wr w1):=(OffB.of_below K5.out).trans (hb1.mono K5.out.size);have HX1:=hid hx1;have HND:Hid fp.Nodup:=hnd;have HRG:Hid (∀ a ∈ fp,wr.heap.size<=a/\a<w1.heap.size):=λa ha=>⟨Nat.le_trans K5.out.size (hrg a ha).1,(hrg a ha).2⟩;have HM1:=hid hm1;have hGl:=HM.out.sz;have hGm:=HM.out.lt;have o1:w1.ownsRow G 76 6 (.slice (some ⟨G,0,none⟩) n n) n ys:=ZaO HM.out.own (K6.out.block G (by omega) (by omega));have HO1:=hid o1;have f0:=o1.frozenAt (k * 6);obtain ⟨y0,g0⟩:=Zl o1 (k * 6) (by omega);have f1:=o1.frozenAt (k * 6+1);obtain ⟨y1,g1⟩:=Zl o1 (k * 6+1) (by omega);have f2:=o1.frozenAt (k * 6+2);obtain ⟨y2,g2⟩:=Zl o1 (k * 6+2) (by omega);have f3:=o1.frozenAt (k * 6+3);obtain ⟨y3,g3⟩:=Zl o1 (k * 6+3) (by omega);have f4:=o1.frozenAt (k * 6+4);obtain ⟨y4,g4⟩:=Zl o1 (k * 6+4) (by omega);have f5:=o1.frozenAt (k * 6+5);obtain ⟨y5,g5⟩:=Zl o1 (k * 6+5) (by omega);clear o1 hb1 hx1 hnd hrg hm1 hGl hGm a0 a1 a2 a3 a4 a5;go_wp2_with fail;have sd:=Zi4 HO1.out (k * 6) (.int .i64 sk) (.int .i64 sn) (.string sx) (.string se) (.slice p1 n1 q1) (.slice p2 n2 q2);have hlen:ys.length=n * 6:=HO1.out.1;have HMN:=Zae.step (O:=λw=>OEx w d) (c:=6) (λw w' cs x f h hk=>OEx.keep h hk) HM.out HYK.out K6.out HX1.out HND.out HRG.out rfl sd.1 sd.2 (λm hm=>Ze3 hm) (λj hj=>Zgi (by omega) j hj);refine ⟨⟨k+1,_,_,by omega,by go_num,HMN,HM1.out.keep (sd.2.block mb (by have:=CR.out.mlt;have:=K6.out.size;omega) (by have:=HM.out.lt;simp;omega)),HOG.out.trans ((Zb3 K6.out).trans (Off.of_grown sd.2 (by simp)))⟩,by simp [intOf];omega⟩
  . obtain rfl:k=n:=by omega
    go_wp2;go_end0;exact ⟨rfl,⟨_,_,HM.out⟩,HMS.out,HOG.out⟩
theorem ZfL {F:FuncId} {cp:List Value} {ft:Int->ByteArray->ByteArray->Nat->ByteArray} {Cap:World->Prop} {d:Nat} (hE:ClR F cp ft Cap d) (w0 w:World) (G n N mb:Nat) (PL:Nat->Prop) (es:Array MapEntry) (z:Nat) (v:Value) (xs:List Cl) (M:List Value) (hC:CapK Cap N mb)
 (hM:Zae mb w0 w G n 46 2 (λw=>OCl w (OEx w d)) (xs.map (mapC (fT ft) d)) 0 M []) (hc:Ctx Cap w N mb PL es z) (hr:Rows w PL 2 (HCl w PL (HEx w PL d)) v xs) (hn:xs.length=n) (hz:∀ x ∈ xs,SizeOf.sizeOf x<=z) (hw:wtS (wtCl (wtEx d)) xs<=16777216) (hNG:N<=G) :
 Calls prog 196 #[.slice (some ⟨G,0,none⟩) n n,v,.func (.func 32) #[RV F cp ft mb] #[]] w λe w'=>e=.returned (.tuple #[])/\(∃ ys fps,Zae mb w0 w' G n 46 2 (λw=>OCl w (OEx w d)) (xs.map (mapC (fT ft) d)) n ys fps)/\ZaV w' mb es/\Off [mb,G] w w':=by
 obtain ⟨p,cap,rfl,hcl,hcm,hx⟩:=hr;rw [hn] at hcl ⊢;have HN:=hid hn;have HX:=hid hx;have HM0:=hid hM;have HC:=hid hc;have HCK:=hid hC;have HZ:=hid hz;have HWT:=hid hw;have hnb:n<=16777216:=(by unfold wtS at hw;omega);have HNG:=hid hNG;clear hx hn hM hc hC hz hw hNG;unfold RV;go_enter func196,ntmps196;go_wp2_with fail
 go_loopw [10] (λiv wr=>∃ (k:Nat) (ys:List Value) (fps:List (List Nat)),k<=n/\iv=.int .i64 k/\Hid (Zae mb w0 wr G n 46 2 (λw=>OCl w (OEx w d)) (xs.map (mapC (fT ft) d)) k ys fps)/\Hid (ZaV wr mb es)/\Hid (Off [mb,G] w wr)) (λiv _=>n - (intOf iv).toNat)
 case atStart=>exact ⟨0,M,[],Nat.zero_le _,rfl,HM0.out,HC.out.mp,Off.refl _ _⟩
 case round =>
  obtain ⟨k,ys,fps,hk,rfl,HM,HMS,HOG⟩:=hrel;have HOF:Hid (OffB mb N w wr):=Zbt HOG.out HNG.out HC.out.le;by_cases hlt:k<n
  . obtain ⟨x,hxk⟩:=sqA (l:=xs) (k:=k) HN.out hlt
    obtain ⟨g,off,rfl,hg,hgl,hat⟩:=HX.out (sqE hxk);obtain ⟨cs,hcl6,hcs,hex⟩:=hat k x hxk;have hgP:=HC.out.pl g hg;have HXR:Hid (HCl wr PL (HEx wr PL d) cs x):=hex.mono (HC.out.same HOF.out (sqR _)) sqj (λ_ _ h=>h.mono (HC.out.same HOF.out (sqR _)) sqj);obtain ⟨r1,m1,s1,r2,m2,s2,rfl⟩:=HCl.shapeR hex;obtain ⟨a0,a1⟩:=sqC2 hcs (by omega);rw [<-HOF.out.cellAt (p:=⟨g,_,none⟩) hgP.1 hgP.2.1] at a0 a1;clear hcs hat;simp at a0 a1;have hki:(k:Int)<(n:Int):=(by omega);have hk0:=sqI k
    have HWX:Hid (wtCl (wtEx d) x<=16777216):=by
     show _<=_;have h1:=HWT.out;have h2:=Ze (wtCl (wtEx d)) xs k x hxk;have h3:=Zf (wtCl (wtEx d)) xs (k+1);unfold wtS at h1;omega
    have HZX:Hid (SizeOf.sizeOf x<=z):=HZ.out x (List.mem_of_getElem? hxk);have HYK:Hid ((xs.map (mapC (fT ft) d))[k]?=some (mapC (fT ft) d x)):=(by show _=_;rw [List.getElem?_map,hxk];rfl);obtain ⟨W5,hW5⟩:∃ W5,W5=wr.alloc (.cells #[.slice r1 m1 s1,.slice r2 m2 s2] 46):=⟨_,rfl⟩;have K5:Hid (Below wr.heap.size wr W5):=(by show Below _ _ _;rw [hW5];exact (sqN _ _));have HW5:=hid hW5;have CR:Hid (Ctx Cap wr N mb PL es z):=HC.out.off HCK.out HOF.out (sqR _) HMS.out (sqR _);have C5:Hid (Ctx Cap W5 N mb PL es z):=CR.out.next HCK.out K5.out (sqR _);have X5:Hid (HCl W5 PL (HEx W5 PL d) [.slice r1 m1 s1,.slice r2 m2 s2] x):=HXR.out.mono (CR.out.same (OffB.of_below (b:=mb) K5.out) CR.out.le) sqj (λ_ _ h=>h.mono (CR.out.same (OffB.of_below (b:=mb) K5.out) CR.out.le) sqj);clear hW5 hex hcl6;go_wp2_with fail;rw [<-HW5.out];refine (hE W5 N mb PL es z _ x HCK.out C5.out X5.out HZX.out HWX.out).mono ?_;rintro e w1 ⟨u,fp,rfl,⟨cs',rfl,hx1⟩,hnd,hrg,hb1,hm1⟩;obtain ⟨p1,n1,q1,p2,n2,q2,hsh⟩:=OCls.shape hx1;subst hsh;have K6:Hid (OffB mb wr.heap.size wr w1):=(OffB.of_below K5.out).trans (hb1.mono K5.out.size);have HX1:=hid hx1;have HND:Hid fp.Nodup:=hnd;have HRG:Hid (∀ a ∈ fp,wr.heap.size<=a/\a<w1.heap.size):=λa ha=>⟨Nat.le_trans K5.out.size (hrg a ha).1,(hrg a ha).2⟩;have HM1:=hid hm1;have hGl:=HM.out.sz;have hGm:=HM.out.lt;have o1:w1.ownsRow G 46 2 (.slice (some ⟨G,0,none⟩) n n) n ys:=ZaO HM.out.own (K6.out.block G (by omega) (by omega));have HO1:=hid o1;have f0:=o1.frozenAt (k * 2);obtain ⟨y0,g0⟩:=Zl o1 (k * 2) (by omega);have f1:=o1.frozenAt (k * 2+1);obtain ⟨y1,g1⟩:=Zl o1 (k * 2+1) (by omega);clear o1 hb1 hx1 hnd hrg hm1 hGl hGm a0 a1;go_wp2_with fail;have sd:=Zeo HO1.out (k * 2) (.slice p1 n1 q1) (.slice p2 n2 q2);have hlen:ys.length=n * 2:=HO1.out.1;have HMN:=Zae.step (O:=λw=>OCl w (OEx w d)) (c:=2) (λw w' cs x f h hk=>OCls.keep h hk) HM.out HYK.out K6.out HX1.out HND.out HRG.out rfl sd.1 sd.2 (λm hm=>ZbK hm) (λj hj=>Zcj (by omega) j hj);refine ⟨⟨k+1,_,_,by omega,by go_num,HMN,HM1.out.keep (sd.2.block mb (by have:=CR.out.mlt;have:=K6.out.size;omega) (by have:=HM.out.lt;simp;omega)),HOG.out.trans ((Zb3 K6.out).trans (Off.of_grown sd.2 (by simp)))⟩,by simp [intOf];omega⟩
  . obtain rfl:k=n:=by omega
    go_wp2;go_end0;exact ⟨rfl,⟨_,_,HM.out⟩,HMS.out,HOG.out⟩
theorem exps_of {F:FuncId} {cp:List Value} {ft:Int->ByteArray->ByteArray->Nat->ByteArray} {Cap:World->Prop} {d:Nat} (hE:ExpR F cp ft Cap d):Zjm F cp ft Cap d:=by
 intro w N mb PL es z v xs hC hc hr hz hw;have HCK:=hid hC;have HC:=hid hc;have HR:=hid hr;have HZ:=hid hz;have HWT:=hid hw;obtain ⟨p,cap,rfl,hcl,hcm,hx⟩:=hr;have hnb:xs.length<=16777216:=(by unfold wtS at hw;omega);obtain ⟨W1,hW1⟩:∃ W1,W1=w.alloc (.cells #[.func (.func F) #[] cp.toArray,.map (some mb)] 73):=⟨_,rfl⟩;have K1:Hid (Below w.heap.size w W1):=(by show Below _ _ _;rw [hW1];exact (sqN _ _));have b1:Hid (Blk W1 w.heap.size #[.func (.func F) #[] cp.toArray,.map (some mb)] 73):=(by show Blk _ _ _ _;rw [hW1];exact Blk.new);have s1:W1.heap.size=w.heap.size+1:=(by rw [hW1,Zb]);have S1:=hid s1;have HW1:=hid hW1;clear hW1 hC hc hz hw s1;unfold RV
 cases p with
 | none =>
  obtain rfl:=ZT HR.out;clear hx;go_enter func76,ntmps76;go_wp2_with fail;rw [<-HW1.out];refine (Zgy _ _).mono ?_;rintro e w2 ⟨rfl,rfl⟩;go_wp2;go_ret;exact ⟨_,[],rfl,ZaP none 0 (Nat.zero_le _),by simp,by simp,OffB.of_below K1.out,HC.out.mp.keep (K1.out.block mb HC.out.mlt)⟩
 | some a =>
  by_cases hne:xs = []
  . subst hne
    clear hx;go_enter func76,ntmps76;go_wp2_with fail;rw [<-HW1.out];refine (Zdd _ a 0 cap (by omega)).mono ?_;rintro e w2 ⟨rfl,M,hM,rfl⟩;have K2:Hid (Below w.heap.size w (W1.alloc (.cells M 76))):=K1.out.alloc K1.out.size _;go_wp2;go_ret;exact ⟨_,[],rfl,ZaP _ 0 (Nat.zero_le _),by simp,by simp,OffB.of_below K2.out,HC.out.mp.keep (K2.out.block mb HC.out.mlt)⟩
  . obtain ⟨g,off,ha,hg,hgl,-⟩:=hx hne
    simp only [Option.some.injEq] at ha;subst ha;have HNE:=hid hne;have hpos:0<xs.length:=List.length_pos_iff.2 hne;have hgP:=HC.out.pl g hg;have HGP:=hid hgP;generalize hn:xs.length=n at *;have HN:=hid hn;have hnz:((n:Int) == 0)=false:=(by simp;omega);have hnz2:¬ (n:Int)=0:=(by omega);have hn1:(0:Int)<(n:Int):=(by omega);clear hx hne hgP hg hn;go_enter func76,ntmps76;go_wp2_with fail;rw [<-HW1.out];refine (Zdd _ ⟨g,off,none⟩ n cap hnb).mono ?_;rintro e w2 ⟨rfl,M,hM,hw2⟩
    have HM0:Hid (Zae mb W1 w2 W1.heap.size n 76 6 (λw=>OEx w d) (xs.map (mapX (fT ft) d)) 0 M.toList []):=by
     show Zae _ _ _ _ _ _ _ _ _ _ _ _;rw [hw2];exact Zae.start hM (by unfold maxLen;omega) (by have:=HC.out.mlt;have:=K1.out.size;omega)
    have K2:Hid (Below W1.heap.size W1 w2):=(by show Below _ _ _;rw [hw2];exact (sqN _ _));have S2:Hid (w2.heap.size=w.heap.size+2):=(by show _=_;rw [hw2,Zb,S1.out]);have b2:Hid (Blk w2 w.heap.size #[.func (.func F) #[] cp.toArray,.map (some mb)] 73):=b1.out.next K2.out;obtain ⟨W3,hW3⟩:∃ W3,W3=w2.alloc (.cells #[.pointer (some ⟨g,off,none⟩),.int .i64 n] 161):=⟨_,rfl⟩;have K3:Hid (Below w2.heap.size w2 W3):=(by show Below _ _ _;rw [hW3];exact (sqN _ _));have b3:Hid (Blk W3 w.heap.size #[.func (.func F) #[] cp.toArray,.map (some mb)] 73):=b2.out.next K3.out;have k3:Hid (Blk W3 w2.heap.size #[.pointer (some ⟨g,off,none⟩),.int .i64 n] 161):=(by show Blk _ _ _ _;rw [hW3];exact Blk.new);have S3:Hid (W3.heap.size=w.heap.size+3):=(by show _=_;rw [hW3,Zb,S2.out]);have HW3:=hid hW3;have B3:Hid (Below w.heap.size w W3):=K1.out.trans ((K2.out.mono K1.out.size).trans (K3.out.mono (Nat.le_trans K1.out.size K2.out.size)));have C3:Hid (Ctx Cap W3 N mb PL es z):=HC.out.next HCK.out B3.out (sqR _);have R3:Hid (Rows W3 PL 6 (HEx W3 PL d) (.slice (some ⟨g,off,none⟩) n cap) xs):=HR.out.mono (sqO B3.out) sqj (λ_ _ _ h=>h.mono (sqO B3.out) sqj);have P3:Hid (ZN W3 g):=HGP.out.2.2.off (OffB.of_below (b:=mb) (N:=w.heap.size) B3.out) (by have:=HGP.out.1;have:=HC.out.le;omega) HGP.out.2.1;have N3:Hid (ZcO W3 es.toList ⟨g,off,none⟩ n):=C3.out.ks.not C3.out.pl R3.out HZ.out;have M3:Hid (Zae mb W1 W3 W1.heap.size n 76 6 (λw=>OEx w d) (xs.map (mapX (fT ft) d)) 0 M.toList []):=HM0.out.next (λw w' cs x f h hk=>OEx.keep h hk) (OffB.of_below K3.out);obtain ⟨ck,hck⟩:=C3.out.mp;have HCKm:=hid hck;have RL:Hid ((Instr.lookup 71 (.map (some mb)) (keyV ⟨g,off,none⟩ n) true).run prog W3=.ok (.tuple #[.slice none 0 0,.bool false]) W3):=ZkB C3.out.mp P3.out N3.out;obtain ⟨X,hX⟩:∃ X:MapEntry,X = { key:=keyV ⟨g,off,none⟩ n,val:=.slice (some ⟨W1.heap.size,0,none⟩) n n,born:=ck }:=⟨_,rfl⟩;have HXK:Hid (X.key=keyV ⟨g,off,none⟩ n):=(by show _=_;rw [hX]);obtain ⟨W4,hW4⟩:∃ W4:World,W4 = { W3 with heap:=W3.heap.setIfInBounds mb (.map (es.push X) (ck+1)) }:=⟨_,rfl⟩
    have RP:Hid ((Instr.mapUpdate 71 (.map (some mb)) (keyV ⟨g,off,none⟩ n) (.slice (some ⟨W1.heap.size,0,none⟩) n n)).run prog W3=.ok () W4):=by
     show _=_;rw [hW4,hX];exact ZlR _ hck P3.out N3.out
    have hml:=HC.out.mlt;have hmN:=HC.out.lt;have hNw:=HC.out.le;have K4:Hid (OffB mb W3.heap.size W3 W4):=(by show OffB _ _ _ _;rw [hW4];exact ZhV _ _ _ _)
    have P4:Hid (ZaV W4 mb (es.push X)):=by
     refine ⟨ck+1,?_⟩;rw [hW4];exact ZlD _ hck
    have b4:Hid (Blk W4 w.heap.size #[.func (.func F) #[] cp.toArray,.map (some mb)] 73):=K4.out.blk b3.out b3.out.lt (by omega);have k4:Hid (Blk W4 w2.heap.size #[.pointer (some ⟨g,off,none⟩),.int .i64 n] 161):=K4.out.blk k3.out k3.out.lt (by rw [S2.out];omega);have R4:Hid (Rows W4 PL 6 (HEx W4 PL d) (.slice (some ⟨g,off,none⟩) n cap) xs):=R3.out.mono (C3.out.same K4.out C3.out.le) sqj (λ_ _ _ h=>h.mono (C3.out.same K4.out C3.out.le) sqj);have hsz:1<=SizeOf.sizeOf xs:=ZkA xs
    have KS4:Hid (ZbA W4 PL (es.push X) (SizeOf.sizeOf xs - 1)):=by
     have h1:=C3.out.ks.mono (C3.out.same K4.out C3.out.le) (sqR _);rw [hX];exact h1.push (by have:=HZ.out;omega) HNE.out R4.out (by omega) _ _
    have C4:Hid (Ctx Cap W4 N mb PL (es.push X) (SizeOf.sizeOf xs - 1)):=⟨C3.out.pl.off K4.out C3.out.le,P4.out,KS4.out,hmN,Nat.le_trans C3.out.le K4.out.size,HCK.out _ _ (K4.out.mono C3.out.le) C3.out.cap⟩;have M4:Hid (Zae mb W1 W4 W1.heap.size n 76 6 (λw=>OEx w d) (xs.map (mapX (fT ft) d)) 0 M.toList []):=M3.out.next (λw w' cs x f h hk=>OEx.keep h hk) K4.out
    have CFL:Hid (Calls prog 120 #[.slice (some ⟨W1.heap.size,0,none⟩) n n,.slice (some ⟨g,off,none⟩) n cap,.func (.func 121) #[.agg #[.func (.func F) #[] cp.toArray,.map (some mb)]] #[]] W4 λe w'=>e=.returned (.tuple #[])/\(∃ ys fps,Zae mb W1 w' W1.heap.size n 76 6 (λw=>OEx w d) (xs.map (mapX (fT ft) d)) n ys fps)/\ZaV w' mb (es.push X)/\Off [mb,W1.heap.size] W4 w'):=by
     have:=Zit hE W1 W4 W1.heap.size n N mb PL (es.push X) (SizeOf.sizeOf xs - 1) (.slice (some ⟨g,off,none⟩) n cap) xs M.toList HCK.out M4.out C4.out R4.out HN.out (λx hx=>by have:=Zkz hx;omega) HWT.out (by rw [S1.out];omega);unfold RV at this;exact this
    obtain ⟨y0,y1⟩:=sqB2 b3.out;obtain ⟨x0,x1⟩:=sqB2 k3.out;obtain ⟨u0,u1⟩:=sqB2 b4.out;clear hw2 hW3 hck hM hX hW4 hsz;go_wp2_with (first | (rw [<-HW3.out]) | (at_lookup;refine Zdz _ rfl _ _ _ rfl _ _ _ rfl rfl RL.out ?_) | (at_mapUpdate;refine ZcN _ _ rfl _ _ _ _ rfl _ _ _ rfl rfl rfl RP.out ?_));refine CFL.out.mono ?_;rintro e w5 ⟨rfl,⟨ys,fps,hM5⟩,⟨ck5,hck5⟩,hof5⟩;have M5:=hid hM5;have b5:Hid (Blk w5 w.heap.size #[.func (.func F) #[] cp.toArray,.map (some mb)] 73):=(hof5.block w.heap.size b4.out.lt (by rw [S1.out];simp;omega)).trans b4.out;have k5:Hid (Blk w5 w2.heap.size #[.pointer (some ⟨g,off,none⟩),.int .i64 n] 161):=(hof5.block w2.heap.size k4.out.lt (by rw [S1.out,S2.out];simp;omega)).trans k4.out;have K5:Hid (OffB mb w.heap.size W4 w5):=Zbt hof5 (by rw [S1.out];omega) (by have:=K4.out.size;have:=S3.out;omega);have P5:Hid (ZN w5 g):=(P3.out.off K4.out (by have:=HGP.out.1;have:=S3.out;omega) HGP.out.2.1).off K5.out (by have:=HGP.out.1;omega) HGP.out.2.1
    have N5:Hid (ZcO w5 es.toList ⟨g,off,none⟩ n):=λe he=>by
     obtain ⟨a',n',h1,h2,h3⟩:=N3.out e he;obtain ⟨a'',n'',q'',d'',ys'',j1,j2,j3,j4⟩:=C3.out.ks e he;have h4:=C3.out.pl _ (Ze4 j3 j2);have e1:a'=a'':=(by rw [h1] at j1;simp [keyV] at j1;exact j1.1);subst e1;exact ⟨a',n',h1,(h2.off K4.out (by have:=h4.1;have:=S3.out;omega) h4.2.1).off K5.out (by have:=h4.1;omega) h4.2.1,h3⟩
    obtain ⟨W6,hW6⟩:∃ W6:World,W6 = { w5 with heap:=w5.heap.setIfInBounds mb (.map es ck5) }:=⟨_,rfl⟩
    have RD:Hid (∀ ty,(Builtin.delete_ #[71,161] ty #[.map (some mb),keyV ⟨g,off,none⟩ n]).run prog w5=.ok (.tuple #[]) W6):=λty=>by
     rw [hW6];exact ZlS X HXK.out hck5 P5.out N5.out ty
    have K6:Hid (OffB mb w5.heap.size w5 W6):=by show OffB _ _ _ _;rw [hW6];exact ZhV _ _ _ _
    have P6:Hid (ZaV W6 mb es):=by
     refine ⟨ck5,?_⟩;rw [hW6];exact ZlD _ hck5
    have M6:Zae mb W1 W6 W1.heap.size n 76 6 (λw=>OEx w d) (xs.map (mapX (fT ft) d)) n ys fps:=M5.out.next (λw w' cs x f h hk=>OEx.keep h hk) K6.out;obtain ⟨fp,r1,r2,r3⟩:=M6.done (show (xs.map (mapX (fT ft) d)).length=n by rw [List.length_map];exact HN.out) (by unfold maxLen;omega);have R1:=hid r1;have R2:Hid (fp.Nodup/\∀ a ∈ fp,w.heap.size<=a/\a<W6.heap.size):=⟨r2,λa ha=>⟨by have:=(r3 a ha).1;have:=S1.out;omega,(r3 a ha).2⟩⟩;have O6:Hid (OffB mb w.heap.size w W6):=(OffB.of_below B3.out).trans ((K4.out.mono (by have:=S3.out;omega)).trans (K5.out.trans (K6.out.mono (by have:=K5.out.size;have:=K4.out.size;have:=S3.out;omega))));obtain ⟨v0,v1⟩:=sqB2 b5.out;obtain ⟨t0,t1⟩:=sqB2 k5.out;clear M6 hM5 hck5 hof5 hW6 r1 r2 r3 y0 y1 x0 x1 u0 u1;go_wp2_with (at_delete;refine ZdA _ _ rfl _ _ _ _ rfl _ _ rfl rfl (RD.out _) ?_);go_ret;exact ⟨_,fp,rfl,R1.out,R2.out.1,R2.out.2,O6.out,P6.out⟩
theorem Zgz {F:FuncId} {cp:List Value} {ft:Int->ByteArray->ByteArray->Nat->ByteArray} {Cap:World->Prop} {d:Nat} (hE:Zjm F cp ft Cap d):ClR F cp ft Cap d:=by
 intro w N mb PL es z cs c hC hc hr hz hw;have HCK:=hid hC;have HC:=hid hc;obtain ⟨pv,bv,rfl,hp,hb⟩:=hr;have HP:=hid hp;have HB:=hid hb;have HZ1:Hid (SizeOf.sizeOf c.1<=z):=(by show _<=_;have:=Zgm c;omega);have HZ2:Hid (SizeOf.sizeOf c.2<=z):=(by show _<=_;have:=Zgm c;omega);have hw':wtCl (wtEx d) c=wtS (wtEx d) c.1+wtS (wtEx d) c.2:=rfl;have HW1:Hid (wtS (wtEx d) c.1<=16777216):=(by show _<=_;omega);have HW2:Hid (wtS (wtEx d) c.2<=16777216):=(by show _<=_;omega);obtain ⟨p1,c1,rfl,-⟩:=hp;obtain ⟨p2,c2,rfl,-⟩:=hb;generalize c.1.length=n1 at *;generalize c.2.length=n2 at *;obtain ⟨W2,hW2⟩:∃ W2,W2=(w.alloc (.cells #[.func (.func F) #[] cp.toArray,.map (some mb)] 73)).alloc (.cells #[.slice p1 n1 c1,.slice p2 n2 c2] 46):=⟨_,rfl⟩;have K2:Hid (Below w.heap.size w W2):=(by show Below _ _ _;rw [hW2];exact ((sqN _ _)).alloc (by simp) _);have b2:Hid (Blk W2 w.heap.size #[.func (.func F) #[] cp.toArray,.map (some mb)] 73):=(by show Blk _ _ _ _;rw [hW2];exact Blk.new.alloc)
 have c2':Hid (Blk W2 (w.heap.size+1) #[.slice p1 n1 c1,.slice p2 n2 c2] 46):=by
  have:=Blk.new (w:=w.alloc (.cells #[.func (.func F) #[] cp.toArray,.map (some mb)] 73)) (cs:=#[.slice p1 n1 c1,.slice p2 n2 c2]) (t:=46);rw [Zb] at this;show Blk _ _ _ _;rw [hW2];exact this
 have S2:Hid (W2.heap.size=w.heap.size+2):=(by show _=_;rw [hW2,Zb,Zb]);obtain ⟨W3,hW3⟩:∃ W3,W3=W2.alloc (.cells #[.slice none 0 0,.slice none 0 0] 46):=⟨_,rfl⟩;have K3:Hid (Below W2.heap.size W2 W3):=(by show Below _ _ _;rw [hW3];exact (sqN _ _));have r3:Hid (Blk W3 (w.heap.size+2) #[.slice none 0 0,.slice none 0 0] 46):=(by show Blk _ _ _ _;rw [hW3,<-S2.out];exact Blk.new);have HW3:Hid (W3=((w.alloc (.cells #[.func (.func F) #[] cp.toArray,.map (some mb)] 73)).alloc (.cells #[.slice p1 n1 c1,.slice p2 n2 c2] 46)).alloc (.cells #[.slice none 0 0,.slice none 0 0] 46)):=(by show _=_;rw [hW3,hW2]);have B3:Hid (Below w.heap.size w W3):=K2.out.trans (K3.out.mono K2.out.size);have S3:Hid (W3.heap.size=w.heap.size+3):=(by show _=_;rw [hW3,Zb,S2.out]);have C3:Hid (Ctx Cap W3.drew N mb PL es z):=HC.out.next HCK.out B3.out.drew (sqR _);have P3:Hid (Rows W3.drew PL 6 (HEx W3.drew PL d) (.slice p1 n1 c1) c.1):=HP.out.mono (sqO B3.out.drew) sqj (λ_ _ _ h=>h.mono (sqO B3.out.drew) sqj);have hml:=HC.out.mlt;have hmN:=HC.out.lt;have hNw:=HC.out.le;have z0:Hid (w.heap.size≠mb):=(by show _≠_;omega);have z1:Hid (w.heap.size+1≠mb):=(by show _≠_;omega);have b3:Hid (Blk W3 w.heap.size #[.func (.func F) #[] cp.toArray,.map (some mb)] 73):=b2.out.next K3.out;have c3:Hid (Blk W3 (w.heap.size+1) #[.slice p1 n1 c1,.slice p2 n2 c2] 46):=c2'.out.next K3.out
 have CELLS:Hid (∀ w',OffB mb (w.heap.size+2) W3 w'->w'.cell? ⟨w.heap.size,0,none⟩=some (.func (.func F) #[] cp.toArray)/\w'.cell? ⟨w.heap.size,1,none⟩=some (.map (some mb))/\w'.cell? ⟨w.heap.size+1,0,none⟩=some (.slice p1 n1 c1)/\w'.cell? ⟨w.heap.size+1,1,none⟩=some (.slice p2 n2 c2)):=λw' ho=>by
  have e1:=ho.blk b3.out (by have:=S2.out;omega) z0.out;have e2:=ho.blk c3.out (by have:=S2.out;omega) z1.out;exact ⟨e1.cell 0 _ rfl,e1.cell 1 _ rfl,e2.cell 0 _ rfl,e2.cell 1 _ rfl⟩
 have hfirst:=CELLS.out W3 (OffB.refl _ _ _);obtain ⟨q0,q1,q2,q3⟩:=hfirst;obtain ⟨e0,e1⟩:=sqB2 r3.out;obtain ⟨f0,f1⟩:=sqF2 r3.out;clear hW2 hW3 hC hc hz hw hw';unfold RV;unfold Zjm RV at hE;go_enter func32,ntmps32;go_wp2_with fail;rw [<-HW3.out]
 go_region_held3 (λw'=>w'.cell? ⟨w.heap.size,0,none⟩=some (.func (.func F) #[] cp.toArray)/\w'.cell? ⟨w.heap.size,1,none⟩=some (.map (some mb))/\w'.cell? ⟨w.heap.size+1,0,none⟩=some (.slice p1 n1 c1)/\w'.cell? ⟨w.heap.size+1,1,none⟩=some (.slice p2 n2 c2))
  (first | exact CELLS.out _ (OffB.refl _ _ _).drew | exact CELLS.out _ K5.out | exact CELLS.out _ K4.out | exact CELLS.out _ ((K5.out.setCell (sqR _) _).setCell (sqR _) _) | go_keep)
  (first
   | (have _:=K4;go_at_call 76;refine (hE _ N mb PL es z _ c.2 HCK.out C4.out R4.out HZ2.out HW2.out).mono ?_;rintro e w5 ⟨u5,fq,rfl,ho5,hnd5,hrg5,hb5,hm5⟩;obtain ⟨pu5,cu5,hu5,hcl5,hcm5⟩:=ho5.shape;subst hu5;have HO5:=hid ho5;have ND5:Hid (fq.Nodup/\∀ a ∈ fq,w4.heap.size<=a/\a<w5.heap.size):=⟨hnd5,hrg5⟩;have L5:=hid hb5;have K5:Hid (OffB mb (w.heap.size+2) W3 w5):=K4.out.trans (hb5.mono (by have h1:=K4.out.size;have h2:=S3.out;have h3:=S2.out;omega));have MS5:=hid hm5;have rr:=(L5.out.blk (M4.out.blk r3.out r3.out.lt (by have:=S2.out;omega)) (by have h1:=M4.out.size;have h2:=r3.out.lt;omega) (by have:=S2.out;omega));have HRR:=hid rr;obtain ⟨e2,e3⟩:=sqB2 rr;obtain ⟨f2,f3⟩:=sqF2 rr;clear ho5 hnd5 hrg5 hb5 hm5 rr)
   | (go_at_call 76;refine (hE _ N mb PL es z _ c.1 HCK.out C3.out P3.out HZ1.out HW1.out).mono ?_;rintro e w4 ⟨u4,fp,rfl,ho4,hnd4,hrg4,hb4,hm4⟩;obtain ⟨pu4,cu4,hu4,hcl4,hcm4⟩:=ho4.shape;subst hu4;have HO4:=hid ho4;have ND4:Hid (fp.Nodup/\∀ a ∈ fp,W3.heap.size<=a/\a<w4.heap.size):=⟨hnd4,hrg4⟩;have M4:Hid (OffB mb W3.heap.size W3 w4):=⟨hb4.os,hb4.tape,hb4.output,hb4.size,hb4.block⟩;have K4:Hid (OffB mb (w.heap.size+2) W3 w4):=M4.out.mono (by have h2:=S3.out;have h3:=S2.out;omega);have C4:Hid (Ctx Cap w4 N mb PL es z):=C3.out.off HCK.out hb4 C3.out.le hm4 (sqR _);have R4:Hid (Rows w4 PL 6 (HEx w4 PL d) (.slice p2 n2 c2) c.2):=(by have ho:OffB mb w.heap.size w w4:=(OffB.of_below B3.out).trans (M4.out.mono (by have h2:=S3.out;omega));exact HB.out.mono (HC.out.same ho HC.out.le) sqj (λ_ _ _ h=>h.mono (HC.out.same ho HC.out.le) sqj));clear ho4 hnd4 hrg4 hb4 hm4))
 go_split_ands;go_wp2_with fail;have l1:(c.1.map (mapX (fT ft) d)).length=c.1.length:=List.length_map _;have l2:(c.2.map (mapX (fT ft) d)).length=c.2.length:=List.length_map _;have H4:=HO4.out;have H5:=HO5.out;rw [l1] at H4;rw [l2] at H5;obtain ⟨W6,hW6⟩:∃ W6,W6=(w5.setCell ⟨w.heap.size+2,0,none⟩ (.slice pu4 c.1.length cu4)).setCell ⟨w.heap.size+2,1,none⟩ (.slice pu5 c.2.length cu5):=⟨_,rfl⟩;have bz:Blk W6 (w.heap.size+2) #[.slice pu4 c.1.length cu4,.slice pu5 c.2.length cu5] 46:=(by rw [hW6];exact (HRR.out.same rfl).same rfl)
 have o6:∀ a,a≠w.heap.size+2->W6.heap[a]?=w5.heap[a]?:=λa ha=>by rw [hW6,Below.heap_setCell _ _ _ _ ha,Below.heap_setCell _ _ _ _ ha]
 have K6:OffB mb (w.heap.size+2) W3 W6:=(by rw [hW6];exact (K5.out.setCell (sqR _) _).setCell (sqR _) _);have s6:W6.heap.size=w5.heap.size:=(by rw [hW6];simp [World.setCell]);have g1:=S3.out;have g2:=M4.out.size;have g3:=L5.out.size;obtain ⟨j0,j1⟩:=sqB2 bz
 have o4:Zg W6 76 6 (OEx W6 d) (.slice pu4 c.1.length cu4) (c.1.map (mapX (fT ft) d)) fp:=by
  have kk:Zj fp w4 W6:=λa ha=>by
   have h:=ND4.out.2 a ha;exact (o6 a (by omega)).trans (L5.out.block a h.2 (by omega))
  exact H4.keep kk (λcs x f _ hs h=>h.keep (kk.sub hs))
 have o5:Zg W6 76 6 (OEx W6 d) (.slice pu5 c.2.length cu5) (c.2.map (mapX (fT ft) d)) fq:=by
  have kk:Zj fq w5 W6:=λa ha=>by
   have h:=ND5.out.2 a ha;exact o6 a (by omega)
  exact H5.keep kk (λcs x f _ hs h=>h.keep (kk.sub hs))
 have nd:(fp ++ fq).Nodup:=by
  rw [List.nodup_append];refine ⟨ND4.out.1,ND5.out.1,λa ha b hb=>?_⟩;have h:=ND4.out.2 a ha;have h':=ND5.out.2 b hb;omega
 have rg:∀ a ∈ fp ++ fq,w.heap.size<=a/\a<W6.heap.size:=λa ha=>by
  rcases List.mem_append.1 ha with ha | ha
  . have h:=ND4.out.2 a ha;omega
  . have h:=ND5.out.2 a ha;omega
 have of:OffB mb w.heap.size w W6:=(OffB.of_below B3.out).trans (K6.mono (by omega));have ms:ZaV W6 mb es:=MS5.out.keep (o6 mb (by omega));have fin:ResM w mb es (λw' u fp=>∃ cs',u=.agg cs'.toArray/\OCl w' (OEx w' d) cs' (mapC (fT ft) d c) fp) (.returned (.agg #[.slice pu4 c.1.length cu4,.slice pu5 c.2.length cu5])) W6:=⟨_,fp ++ fq,rfl,⟨[.slice pu4 c.1.length cu4,.slice pu5 c.2.length cu5],rfl,⟨_,_,fp,fq,rfl,rfl,o4,o5⟩⟩,nd,rg,of,ms⟩;rw [hW6] at fin j0 j1;exact bodyPost_ret (v:=.agg #[.slice pu4 c.1.length cu4,.slice pu5 c.2.length cu5]) (by simp [results,results32,go_sem,j0,j1]) rfl fin
theorem ZgA {F:FuncId} {cp:List Value} {ft:Int->ByteArray->ByteArray->Nat->ByteArray} {Cap:World->Prop} {d:Nat} (hE:ClR F cp ft Cap d):ClsR F cp ft Cap d:=by
 intro w N mb PL es z v cl hC hc hr hz hw;have HCK:=hid hC;have HC:=hid hc;have HR:=hid hr;have HZ:=hid hz;have HWT:=hid hw;obtain ⟨p,cap,rfl,hcl,hcm,hx⟩:=hr;have hnb:cl.length<=16777216:=(by unfold wtS at hw;omega);clear hC hc hz hw hx;unfold RV
 cases p with
 | none =>
  obtain rfl:=ZT HR.out;go_enter func161,ntmps161;go_wp2_with fail;refine (ZeC _ _).mono ?_;rintro e w2 ⟨rfl,rfl⟩;go_wp2_with fail;refine (ZeX _ _ _ _ _ _).mono ?_;rintro e w3 ⟨rfl,rfl⟩;go_wp2;go_ret;exact ⟨_,[],rfl,ZaP none 0 (Nat.zero_le _),by simp,by simp,OffB.refl _ _ _,HC.out.mp⟩
 | some a =>
  generalize hn:cl.length=n at *;have HN:=hid hn;clear hn;go_enter func161,ntmps161;go_wp2_with fail;refine (Zee _ a n cap hnb).mono ?_;rintro e w2 ⟨rfl,M,hM,hw2⟩;have K2:Hid (Below w.heap.size w w2):=(by show Below _ _ _;rw [hw2];exact (sqN _ _))
  have HM0:Hid (Zae mb w w2 w.heap.size n 46 2 (λw=>OCl w (OEx w d)) (cl.map (mapC (fT ft) d)) 0 M.toList []):=by
   show Zae _ _ _ _ _ _ _ _ _ _ _ _;rw [hw2];exact Zae.start hM (by unfold maxLen;omega) HC.out.mlt
  have C2:Hid (Ctx Cap w2 N mb PL es z):=HC.out.next HCK.out K2.out (sqR _);have R2:Hid (Rows w2 PL 2 (HCl w2 PL (HEx w2 PL d)) (.slice (some a) n cap) cl):=HR.out.mono (sqO K2.out) sqj (λ_ _ _ h=>h.mono (sqO K2.out) sqj (λ_ _ h=>h.mono (sqO K2.out) sqj));have CFL:=ZfL hE w w2 w.heap.size n N mb PL es z (.slice (some a) n cap) cl M.toList HCK.out HM0.out C2.out R2.out HN.out (λx hx=>by have:=Zi6 hx;have:=HZ.out;omega) HWT.out HC.out.le;unfold RV at CFL;have HCF:Hid (Calls prog 196 #[.slice (some ⟨w.heap.size,0,none⟩) n n,.slice (some a) n cap,.func (.func 32) #[.agg #[.func (.func F) #[] cp.toArray,.map (some mb)]] #[]] w2 λe w'=>e=.returned (.tuple #[])/\(∃ ys fps,Zae mb w w' w.heap.size n 46 2 (λw=>OCl w (OEx w d)) (cl.map (mapC (fT ft) d)) n ys fps)/\ZaV w' mb es/\Off [mb,w.heap.size] w2 w'):=CFL;clear CFL hw2 hM;go_wp2_with fail;refine HCF.out.mono ?_;rintro e w3 ⟨rfl,⟨ys,fps,hM3⟩,hm3,hof3⟩;obtain ⟨fp,r1,r2,r3⟩:=hM3.done (show (cl.map (mapC (fT ft) d)).length=n by rw [List.length_map];exact HN.out) (by unfold maxLen;omega);have R1:=hid r1;have RR:Hid (fp.Nodup/\∀ a ∈ fp,w.heap.size<=a/\a<w3.heap.size):=⟨r2,r3⟩;have O3:Hid (OffB mb w.heap.size w w3):=hM3.off;have M3:=hid hm3;clear hM3 hm3 hof3 r1 r2 r3;go_wp2;go_ret;exact ⟨_,fp,rfl,R1.out,RR.out.1,RR.out.2,O3.out,M3.out⟩
def ChgR (F:FuncId) (cp:List Value) (ft:Int->ByteArray->ByteArray->Nat->ByteArray) (Cap:World->Prop):Prop:=(∀ args w,Sem.run prog (callFunc F args) w=.ok (.enter F args) w)/\∀ (w:World) (k n:Int) (t m:ByteArray) (p1 p2:Option Addr) (n1 q1 n2 q2:Nat),Cap w->n1<=maxLen ->
 Calls prog F (Value.agg #[.int .i64 k,.int .i64 n,.string t,.string m,.slice p1 n1 q1,.slice p2 n2 q2] :: cp).toArray w λe w'=>e=.returned (.agg #[.int .i64 k,.int .i64 n,.string (ft k t m n1),.string m,.slice p1 n1 q1,.slice p2 n2 q2])/\Below w.heap.size w w'
theorem exp_of {F:FuncId} {cp:List Value} {ft:Int->ByteArray->ByteArray->Nat->ByteArray} {Cap:World->Prop} {d:Nat} (hE:Zjm F cp ft Cap d) (hCl:ClsR F cp ft Cap d) (hCh:ChgR F cp ft Cap) (hok:∀ k t m n,okS t->okS (ft k t m n)):ExpR F cp ft Cap (d+1):=by
 intro w N mb PL es z cs x hC hc hr hz hw;have HCK:=hid hC;have HC:=hid hc;obtain ⟨kv,cv,rfl,o1,o2,o3,o4,hk,hcl⟩:=hr;obtain ⟨k0,n0,t0,m0,ks,cls⟩:=x;simp only [Ex.kind,Ex.n,Ex.text,Ex.mod,Ex.kids,Ex.clauses] at *;have hw':wtEx (d+1) (.mk k0 n0 t0 m0 ks cls)=t0.size+m0.size+wtS (wtEx d) ks+wtS (wtCl (wtEx d)) cls:=rfl;have HOK:Hid (okI k0/\okI n0/\okS t0/\okS m0):=⟨o1,o2,o3,o4⟩;have HKS:=hid hk;have HCS:=hid hcl;have HZ1:Hid (SizeOf.sizeOf ks<=z):=(by show _<=_;have:=Zi7 (.mk k0 n0 t0 m0 ks cls);simp only [Ex.kids] at this;omega);have HZ2:Hid (SizeOf.sizeOf cls<=z):=(by show _<=_;have:=Zgl (.mk k0 n0 t0 m0 ks cls);simp only [Ex.clauses] at this;omega);have HW1:Hid (wtS (wtEx d) ks<=16777216):=(by show _<=_;omega);have HW2:Hid (wtS (wtCl (wtEx d)) cls<=16777216):=(by show _<=_;omega);have HOF:=hid hok;obtain ⟨p1,c1,rfl,hl1,hm1,-⟩:=hk;obtain ⟨p2,c2,rfl,hl2,hm2,-⟩:=hcl;have HN1:Hid (ks.length<=maxLen):=Nat.le_trans hl1 hm1;generalize hn1:ks.length=n1 at *;generalize hn2:cls.length=n2 at *;have HL1:=hid hn1;have HL2:=hid hn2;obtain ⟨W3,hW3⟩:∃ W3,W3=((w.alloc (.cells #[.func (.func F) #[] cp.toArray,.map (some mb)] 73)).alloc (.cells #[.int .i64 k0,.int .i64 n0,.string t0,.string m0,.slice p1 n1 c1,.slice p2 n2 c2] 76)).alloc (.cells #[.int .i64 0,.int .i64 0,.string ⟨#[]⟩,.string ⟨#[]⟩,.slice none 0 0,.slice none 0 0] 76):=⟨_,rfl⟩;have HW3:=hid hW3;have B3:Hid (Below w.heap.size w W3):=(by show Below _ _ _;rw [hW3];exact (((sqN _ _)).alloc (by simp) _).alloc (by simp only [Zb];omega) _);have b3:Hid (Blk W3 w.heap.size #[.func (.func F) #[] cp.toArray,.map (some mb)] 73):=(by show Blk _ _ _ _;rw [hW3];exact Blk.new.alloc.alloc)
 have e3:Hid (Blk W3 (w.heap.size+1) #[.int .i64 k0,.int .i64 n0,.string t0,.string m0,.slice p1 n1 c1,.slice p2 n2 c2] 76):=by
  have:=Blk.new (w:=w.alloc (.cells #[.func (.func F) #[] cp.toArray,.map (some mb)] 73)) (cs:=#[.int .i64 k0,.int .i64 n0,.string t0,.string m0,.slice p1 n1 c1,.slice p2 n2 c2]) (t:=76);rw [Zb] at this;show Blk _ _ _ _;rw [hW3];exact this.alloc
 have r3:Hid (Blk W3 (w.heap.size+2) #[.int .i64 0,.int .i64 0,.string ⟨#[]⟩,.string ⟨#[]⟩,.slice none 0 0,.slice none 0 0] 76):=by
  have:=Blk.new (w:=(w.alloc (.cells #[.func (.func F) #[] cp.toArray,.map (some mb)] 73)).alloc (.cells #[.int .i64 k0,.int .i64 n0,.string t0,.string m0,.slice p1 n1 c1,.slice p2 n2 c2] 76)) (cs:=#[.int .i64 0,.int .i64 0,.string ⟨#[]⟩,.string ⟨#[]⟩,.slice none 0 0,.slice none 0 0]) (t:=76);rw [Zb,Zb] at this;show Blk _ _ _ _;rw [hW3];exact this
 have S3:Hid (W3.heap.size=w.heap.size+3):=(by show _=_;rw [hW3,Zb,Zb,Zb]);have C3:Hid (Ctx Cap W3 N mb PL es z):=HC.out.next HCK.out B3.out (sqR _);have P3:Hid (Rows W3 PL 6 (HEx W3 PL d) (.slice p1 n1 c1) ks):=HKS.out.mono (sqO B3.out) sqj (λ_ _ _ h=>h.mono (sqO B3.out) sqj);have hml:=HC.out.mlt;have hmN:=HC.out.lt;have hNw:=HC.out.le;unfold Zjm RV at hE;unfold ClsR RV at hCl;unfold ChgR at hCh;obtain ⟨hEN,hCh⟩:=hCh;unfold RV;obtain ⟨y0,y1⟩:=sqB2 b3.out;obtain ⟨x0,x1,x2,x3,x4,x5⟩:=sqB6 e3.out;clear hW3 hC hc hz hw hw' hn1 hn2 o1 o2 o3 o4 hok;go_enter func121,ntmps121;go_wp2_with fail;rw [<-HW3.out];refine (hE _ N mb PL es z _ ks HCK.out C3.out P3.out HZ1.out HW1.out).mono ?_;rintro e w4 ⟨u4,fp,rfl,ho4,hnd4,hrg4,hb4,hmm4⟩;obtain ⟨pu4,cu4,hu4,hcl4,hcm4⟩:=ho4.shape;rw [List.length_map,HL1.out] at hu4;subst hu4;have HO4:=hid ho4;have ND4:Hid (fp.Nodup/\∀ a ∈ fp,W3.heap.size<=a/\a<w4.heap.size):=⟨hnd4,hrg4⟩;have K4:=hid hb4;have g3:=S3.out;have g4:=hb4.size;have MS4:=hid hmm4;have b4:Hid (Blk w4 w.heap.size #[.func (.func F) #[] cp.toArray,.map (some mb)] 73):=hb4.blk b3.out b3.out.lt (by omega);have e4:Hid (Blk w4 (w.heap.size+1) #[.int .i64 k0,.int .i64 n0,.string t0,.string m0,.slice p1 n1 c1,.slice p2 n2 c2] 76):=hb4.blk e3.out e3.out.lt (by omega);have r4:Hid (Blk w4 (w.heap.size+2) #[.int .i64 0,.int .i64 0,.string ⟨#[]⟩,.string ⟨#[]⟩,.slice none 0 0,.slice none 0 0] 76):=hb4.blk r3.out r3.out.lt (by omega);have ff:=e4.out.frozen 4;obtain ⟨v0,v1,v2,v3,v4,v5⟩:=sqB6 e4.out;obtain ⟨s0,s1⟩:=sqB2 b4.out;clear ho4 hnd4 hrg4 hb4 hmm4 hcl4 hcm4 y0 y1 x0 x1 x2 x3 x4 x5;go_wp2_with fail;obtain ⟨V4,hV4⟩:∃ V4,V4=w4.setCell ⟨w.heap.size+1,4,none⟩ (.slice pu4 n1 cu4):=⟨_,rfl⟩;rw [<-hV4];have OV4:Hid (OffB mb (w.heap.size+1) w4 V4):=(by show OffB _ _ _ _;rw [hV4];exact (OffB.refl _ _ _).setCell (by show _<=w.heap.size+1;exact Nat.le_refl _) _)
 have q4:∀ a,a≠w.heap.size+1->V4.heap[a]?=w4.heap[a]?:=λa ha=>by rw [hV4];exact Below.heap_setCell _ _ _ _ ha
 have Q4:=hid q4;have sV4:V4.heap.size=w4.heap.size:=(by rw [hV4];simp [World.setCell]);have E4:Hid (Blk V4 (w.heap.size+1) #[.int .i64 k0,.int .i64 n0,.string t0,.string m0,.slice pu4 n1 cu4,.slice p2 n2 c2] 76):=(by show Blk _ _ _ _;rw [hV4];exact e4.out.same rfl);have B4:Hid (Blk V4 w.heap.size #[.func (.func F) #[] cp.toArray,.map (some mb)] 73):=(q4 _ (by omega)).trans b4.out;have R4:Hid (Blk V4 (w.heap.size+2) #[.int .i64 0,.int .i64 0,.string ⟨#[]⟩,.string ⟨#[]⟩,.slice none 0 0,.slice none 0 0] 76):=(q4 _ (by omega)).trans r4.out;have O4:Hid (OffB mb w.heap.size w V4):=(OffB.of_below B3.out).trans ((K4.out.mono (by omega)).trans (OV4.out.mono (by omega)));have C4:Hid (Ctx Cap V4 N mb PL es z):=HC.out.off HCK.out O4.out HC.out.le (MS4.out.keep (q4 mb (by omega))) (sqR _);have T4:Hid (Rows V4 PL 2 (HCl V4 PL (HEx V4 PL d)) (.slice p2 n2 c2) cls):=HCS.out.mono (HC.out.same O4.out HC.out.le) sqj (λ_ _ _ h=>h.mono (HC.out.same O4.out HC.out.le) sqj (λ_ _ h=>h.mono (HC.out.same O4.out HC.out.le) sqj));clear hV4 q4 v0 v1 v2 v3 v4 v5 s0 s1 ff;refine (hCl _ N mb PL es z _ cls HCK.out C4.out T4.out HZ2.out HW2.out).mono ?_;rintro e w5 ⟨u5,fq,rfl,ho5,hnd5,hrg5,hb5,hmm5⟩;obtain ⟨pu5,cu5,hu5,hcl5,hcm5⟩:=ho5.shape;rw [List.length_map,HL2.out] at hu5;subst hu5;have HO5:=hid ho5;have ND5:Hid (fq.Nodup/\∀ a ∈ fq,w4.heap.size<=a/\a<w5.heap.size):=⟨hnd5,λa ha=>⟨by have:=(hrg5 a ha).1;omega,(hrg5 a ha).2⟩⟩;have K5:=hid hb5;have g5:=hb5.size;have MS5:=hid hmm5;have b5:Hid (Blk w5 w.heap.size #[.func (.func F) #[] cp.toArray,.map (some mb)] 73):=hb5.blk B4.out B4.out.lt (by omega);have e5:Hid (Blk w5 (w.heap.size+1) #[.int .i64 k0,.int .i64 n0,.string t0,.string m0,.slice pu4 n1 cu4,.slice p2 n2 c2] 76):=hb5.blk E4.out E4.out.lt (by omega);have r5:Hid (Blk w5 (w.heap.size+2) #[.int .i64 0,.int .i64 0,.string ⟨#[]⟩,.string ⟨#[]⟩,.slice none 0 0,.slice none 0 0] 76):=hb5.blk R4.out R4.out.lt (by omega);obtain ⟨V5,hV5⟩:∃ V5,V5=w5.setCell ⟨w.heap.size+1,5,none⟩ (.slice pu5 n2 cu5):=⟨_,rfl⟩
 have q5:∀ a,a≠w.heap.size+1->V5.heap[a]?=w5.heap[a]?:=λa ha=>by rw [hV5];exact Below.heap_setCell _ _ _ _ ha
 have OV5:Hid (OffB mb (w.heap.size+1) w5 V5):=(by show OffB _ _ _ _;rw [hV5];exact (OffB.refl _ _ _).setCell (by show _<=w.heap.size+1;exact Nat.le_refl _) _);have sV5:V5.heap.size=w5.heap.size:=(by rw [hV5];simp [World.setCell]);have E5:Hid (Blk V5 (w.heap.size+1) #[.int .i64 k0,.int .i64 n0,.string t0,.string m0,.slice pu4 n1 cu4,.slice pu5 n2 cu5] 76):=(by show Blk _ _ _ _;rw [hV5];exact e5.out.same rfl);have B5:Hid (Blk V5 w.heap.size #[.func (.func F) #[] cp.toArray,.map (some mb)] 73):=(q5 _ (by omega)).trans b5.out;have R5:Hid (Blk V5 (w.heap.size+2) #[.int .i64 0,.int .i64 0,.string ⟨#[]⟩,.string ⟨#[]⟩,.slice none 0 0,.slice none 0 0] 76):=(q5 _ (by omega)).trans r5.out;have O5:Hid (OffB mb w.heap.size w V5):=O4.out.trans ((K5.out.mono (by omega)).trans (OV5.out.mono (by omega)));have C5:Hid (Cap V5):=HCK.out _ _ (O5.out.mono HC.out.le) HC.out.cap;have Q5:=hid q5;have HV5:=hid hV5;have ff:=e5.out.frozen 5;obtain ⟨v0,v1,v2,v3,v4,v5⟩:=sqB6 e5.out;obtain ⟨s0,s1⟩:=sqB2 b5.out;obtain ⟨x0,x1,x2,x3,x4,x5⟩:=sqB6 E5.out;obtain ⟨y0,y1⟩:=sqB2 B5.out;clear ho5 hnd5 hrg5 hb5 hmm5 hcl5 hcm5 hV5 q5;go_wp2_with (rw [<-HV5.out]);refine (hCh V5 k0 n0 t0 m0 _ _ n1 _ n2 _ C5.out HN1.out).mono ?_;rintro e w6 ⟨rfl,hb6⟩;have K6:=hid hb6;have g6:=hb6.size;have r6:Hid (Blk w6 (w.heap.size+2) #[.int .i64 0,.int .i64 0,.string ⟨#[]⟩,.string ⟨#[]⟩,.slice none 0 0,.slice none 0 0] 76):=R5.out.next hb6;obtain ⟨c0,c1,c2,c3,c4,c5⟩:=sqB6 r6.out;obtain ⟨f0,f1,f2,f3,f4,f5⟩:=sqF6 r6.out;clear hb6 v0 v1 v2 v3 v4 v5 s0 s1 x0 x1 x2 x3 x4 x5 y0 y1 ff;go_wp2_with fail;obtain ⟨W7,hW7⟩:∃ W7,W7=(((((w6.setCell ⟨w.heap.size+2,0,none⟩ (.int .i64 k0)).setCell ⟨w.heap.size+2,1,none⟩ (.int .i64 n0)).setCell ⟨w.heap.size+2,2,none⟩ (.string (ft k0 t0 m0 n1))).setCell ⟨w.heap.size+2,3,none⟩ (.string m0)).setCell ⟨w.heap.size+2,4,none⟩ (.slice pu4 n1 cu4)).setCell ⟨w.heap.size+2,5,none⟩ (.slice pu5 n2 cu5):=⟨_,rfl⟩;have bz:Blk W7 (w.heap.size+2) #[.int .i64 k0,.int .i64 n0,.string (ft k0 t0 m0 n1),.string m0,.slice pu4 n1 cu4,.slice pu5 n2 cu5] 76:=(by rw [hW7];exact (((((r6.out.same rfl).same rfl).same rfl).same rfl).same rfl).same rfl)
 have o7:∀ a,a≠w.heap.size+2->W7.heap[a]?=w6.heap[a]?:=λa ha=>by rw [hW7,Below.heap_setCell _ _ _ _ ha,Below.heap_setCell _ _ _ _ ha,Below.heap_setCell _ _ _ _ ha,Below.heap_setCell _ _ _ _ ha,Below.heap_setCell _ _ _ _ ha,Below.heap_setCell _ _ _ _ ha]
 have K7:Below 0 w6 W7:=(by rw [hW7];exact ((((((Below.refl 0 w6).setCell (Nat.zero_le _) _).setCell (Nat.zero_le _) _).setCell (Nat.zero_le _) _).setCell (Nat.zero_le _) _).setCell (Nat.zero_le _) _).setCell (Nat.zero_le _) _);have s7:W7.heap.size=w6.heap.size:=(by rw [hW7];simp [World.setCell]);obtain ⟨j0,j1,j2,j3,j4,j5⟩:=sqB6 bz;have way:∀ a,W3.heap.size<=a->a<w5.heap.size->W7.heap[a]?=w5.heap[a]?:=λa h1 h2=>(o7 a (by omega)).trans ((K6.out.block a (by omega)).trans (Q5.out a (by omega)))
 have o4:Zg W7 76 6 (OEx W7 d) (.slice pu4 n1 cu4) (ks.map (mapX (fT ft) d)) fp:=by
  have kk:Zj fp w4 W7:=λa ha=>by
   have h:=ND4.out.2 a ha;exact (way a h.1 (by omega)).trans ((K5.out.block a (by omega) (by omega)).trans (Q4.out a (by omega)))
  exact HO4.out.keep kk (λcs x f _ hs h=>h.keep (kk.sub hs))
 have o5:Zg W7 46 2 (OCl W7 (OEx W7 d)) (.slice pu5 n2 cu5) (cls.map (mapC (fT ft) d)) fq:=by
  have kk:Zj fq w5 W7:=λa ha=>by
   have h:=ND5.out.2 a ha;exact way a (by omega) h.2
  exact HO5.out.keep kk (λcs x f _ hs h=>OCls.keep h (kk.sub hs))
 have nd:(fp ++ fq).Nodup:=by
  rw [List.nodup_append];refine ⟨ND4.out.1,ND5.out.1,λa ha b hb=>?_⟩;have h:=ND4.out.2 a ha;have h':=ND5.out.2 b hb;omega
 have rg:∀ a ∈ fp ++ fq,w.heap.size<=a/\a<W7.heap.size:=λa ha=>by
  rcases List.mem_append.1 ha with ha | ha
  . have h:=ND4.out.2 a ha;omega
  . have h:=ND5.out.2 a ha;omega
 have of:OffB mb w.heap.size w W7:=O5.out.trans ⟨K7.os.trans K6.out.os,K7.tape.trans K6.out.tape,K7.output.trans K6.out.output,by omega,λa h1 h2=>(o7 a (by omega)).trans (K6.out.block a (by omega))⟩;have ms:ZaV W7 mb es:=(MS5.out.keep (Q5.out mb (by omega))).keep ((o7 mb (by omega)).trans (K6.out.block mb (by omega)));have hk:=HOK.out;have hl1:=HL1.out
 have fin:ResM w mb es (λw' u fp=>∃ cs',u=.agg cs'.toArray/\OEx w' (d+1) cs' (mapX (fT ft) (d+1) (.mk k0 n0 t0 m0 ks cls)) fp) (.returned (.agg #[.int .i64 k0,.int .i64 n0,.string (ft k0 t0 m0 n1),.string m0,.slice pu4 n1 cu4,.slice pu5 n2 cu5])) W7:=by
  refine ⟨_,fp ++ fq,rfl,⟨[.int .i64 k0,.int .i64 n0,.string (ft k0 t0 m0 n1),.string m0,.slice pu4 n1 cu4,.slice pu5 n2 cu5],rfl,?_⟩,nd,rg,of,ms⟩
  have hx:mapX (fT ft) (d+1) (.mk k0 n0 t0 m0 ks cls)=.mk k0 n0 (ft k0 t0 m0 n1) m0 (ks.map (mapX (fT ft) d)) (cls.map (mapC (fT ft) d)):=by
   show fT _ (Ex.mk k0 n0 t0 m0 (ks.map (mapX (fT ft) d)) (cls.map (mapC (fT ft) d)))=_;simp only [fT,Ex.kind,Ex.n,Ex.text,Ex.mod,Ex.kids,Ex.clauses,List.length_map,hl1]
  rw [hx];exact ⟨_,_,fp,fq,rfl,rfl,hk.1,hk.2.1,HOF.out k0 t0 m0 n1 hk.2.2.1,hk.2.2.2,o4,o5⟩
 rw [hW7] at fin j0 j1 j2 j3 j4 j5;exact bodyPost_ret (v:=.agg #[.int .i64 k0,.int .i64 n0,.string (ft k0 t0 m0 n1),.string m0,.slice pu4 n1 cu4,.slice pu5 n2 cu5]) (by simp [results,results121,go_sem,j0,j1,j2,j3,j4,j5]) rfl fin
theorem all {F:FuncId} {cp:List Value} {ft:Int->ByteArray->ByteArray->Nat->ByteArray} {Cap:World->Prop} (hCh:ChgR F cp ft Cap) (hok:∀ k t m n,okS t->okS (ft k t m n)):∀ d,ExpR F cp ft Cap d
 | 0=>λw N mb PL es z cs x _ _ h _ _=>h.elim
 | d+1=>exp_of (exps_of (all hCh hok d)) (ZgA (Zgz (exps_of (all hCh hok d)))) hCh hok
theorem clause {F:FuncId} {cp:List Value} {ft:Int->ByteArray->ByteArray->Nat->ByteArray} {Cap:World->Prop} (hCh:ChgR F cp ft Cap) (hok:∀ k t m n,okS t->okS (ft k t m n)) (d:Nat):ClR F cp ft Cap d:=Zgz (exps_of (all hCh hok d))
theorem clauses {F:FuncId} {cp:List Value} {ft:Int->ByteArray->ByteArray->Nat->ByteArray} {Cap:World->Prop} (hCh:ChgR F cp ft Cap) (hok:∀ k t m n,okS t->okS (ft k t m n)) (d:Nat):ClsR F cp ft Cap d:=ZgA (clause hCh hok d)
end RemG
theorem HFn.shapeR {w:World} {S:Nat->Prop} {d:Nat} {cs:List Value} {x:Fn'} (h:HFn w S d cs x):∃ t k p1 n1 q1,cs = [.string t,.int .i64 k,.slice p1 n1 q1]:=by
 obtain ⟨cv,rfl,-,-,⟨p,c,rfl,-⟩⟩:=h;exact ⟨_,_,_,_,_,rfl⟩
theorem HMd.shapeR {w:World} {S:Nat->Prop} {d:Nat} {cs:List Value} {x:Md} (h:HMd w S d cs x):∃ t p1 n1 q1 p2 n2 q2,cs = [.string t,.slice p1 n1 q1,.slice p2 n2 q2]:=by
 obtain ⟨ev,fv,rfl,-,⟨p,c,rfl,-⟩,⟨p',c',rfl,-⟩⟩:=h;exact ⟨_,_,_,_,_,_,_,rfl⟩
theorem Zef (w:World) (s:ByteArray) (n:Int):Calls prog 117 #[.agg #[.string s,.int .i64 n]] w λe w'=>e=.returned (.agg #[.string s,.int .i64 n])/\Bz w w':=by
 have BL:Hid (∀ (cs cs':Array Value) (t t':TypeId),Bz w ((w.alloc (.cells cs t)).alloc (.cells cs' t'))):=λcs cs' t t'=>((sqN _ _)).alloc (by simp) _
 have RB:Hid (∀ (cs:Array Value) (t:TypeId),Blk ((w.alloc (.cells cs t)).alloc (.cells #[.string s,.int .i64 n] 84)) (w.heap.size+1) #[.string s,.int .i64 n] 84):=λcs t=>by
  have:=Blk.new (w:=w.alloc (.cells cs t)) (cs:=#[.string s,.int .i64 n]) (t:=84)
  rwa [Zb] at this
 go_enter func117,ntmps117;go_wp2_with fail;have q0:=(RB.out #[.string s,.int .i64 n] 84).cell 0 _ rfl;have q1:=(RB.out #[.string s,.int .i64 n] 84).cell 1 _ rfl;exact bodyPost_ret (v:=.agg #[.string s,.int .i64 n]) (by simp [results,results117,go_sem,q0,q1]) rfl ⟨rfl,BL.out _ _ _ _⟩
theorem Zeg (w:World) (k n:Int) (t m:ByteArray) (p1 p2:Option Addr) (n1 q1 n2 q2:Nat):Calls prog 72 #[.agg #[.int .i64 k,.int .i64 n,.string t,.string m,.slice p1 n1 q1,.slice p2 n2 q2]] w λe w'=>e=.returned (.agg #[.int .i64 k,.int .i64 n,.string t,.string m,.slice p1 n1 q1,.slice p2 n2 q2])/\Bz w w':=by
 have BL:Hid (∀ (cs cs':Array Value) (t t':TypeId),Bz w ((w.alloc (.cells cs t)).alloc (.cells cs' t'))):=λcs cs' t t'=>((sqN _ _)).alloc (by simp) _
 have RB:Hid (∀ (cs:Array Value) (ty:TypeId),Blk ((w.alloc (.cells cs ty)).alloc (.cells #[.int .i64 k,.int .i64 n,.string t,.string m,.slice p1 n1 q1,.slice p2 n2 q2] 76)) (w.heap.size+1) #[.int .i64 k,.int .i64 n,.string t,.string m,.slice p1 n1 q1,.slice p2 n2 q2] 76):=λcs ty=>by
  have:=Blk.new (w:=w.alloc (.cells cs ty)) (cs:=#[.int .i64 k,.int .i64 n,.string t,.string m,.slice p1 n1 q1,.slice p2 n2 q2]) (t:=76)
  rwa [Zb] at this
 go_enter func72,ntmps72;go_wp2_with fail;have q:=RB.out #[.int .i64 k,.int .i64 n,.string t,.string m,.slice p1 n1 q1,.slice p2 n2 q2] 76;obtain ⟨q0,q1,q2,q3,q4,q5⟩:=sqB6 q;exact bodyPost_ret (v:=.agg #[.int .i64 k,.int .i64 n,.string t,.string m,.slice p1 n1 _,.slice p2 n2 _]) (by simp [results,results72,go_sem,q0,q1,q2,q3,q4,q5]) rfl ⟨rfl,BL.out _ _ _ _⟩
theorem Zhv (d:Nat) (w0 w:World) (G n:Nat) (S:Nat->Prop) (v:Value) (rs:List Rf) (M:List Value) (hM:Made w0 w G n 84 2 (λw=>ORf w d) rs 0 M []) (hr:Rows w S 2 HRf v rs) (hS:∀ g,S g->g<G) (hn:rs.length=n) (hnb:n<=16777216) :
 Calls prog 137 #[.slice (some ⟨G,0,none⟩) n n,v,.func (.func 117) #[] #[]] w λe w'=>e=.returned (.tuple #[])/\(∃ ys fps,Made w0 w' G n 84 2 (λw=>ORf w d) rs n ys fps)/\Below G w w':=by
 obtain ⟨p,cap,rfl,hcl,hcm,hx⟩:=hr;rw [hn] at hcl ⊢;have HN:=hid hn;have HX:=hid hx;have HM0:=hid hM;have HS:=hid hS;clear hx hn hM hS;go_enter func137,ntmps137;go_wp2_with fail
 go_loopw [10] (λiv wr=>∃ (k:Nat) (ys:List Value) (fps:List (List Nat)),k<=n/\iv=.int .i64 k/\Hid (Made w0 wr G n 84 2 (λw=>ORf w d) rs k ys fps)/\Hid (Below G w wr)) (λiv _=>n - (intOf iv).toNat)
 case atStart=>exact ⟨0,M,[],Nat.zero_le _,rfl,HM0.out,Below.refl _ _⟩
 case round =>
  obtain ⟨k,ys,fps,hk,rfl,HM,HB⟩:=hrel;by_cases hlt:k<n
  . obtain ⟨x,hxk⟩:=sqA (l:=rs) (k:=k) HN.out hlt
    obtain ⟨g,off,rfl,hg,hgl,hat⟩:=HX.out (sqE hxk);obtain ⟨cs,hcl6,hcs,rfl,h1,h2⟩:=hat k x hxk;have HXX:Hid (ORf wr d [.string x.name,.int .i64 x.arity] x []):=⟨⟨rfl,h1,h2⟩,rfl⟩;obtain ⟨a0,a1⟩:=sqC2 hcs (by omega);rw [<-HB.out.cell (p:=⟨g,_,none⟩) (HS.out g hg)] at a0 a1;clear hcs hat;simp at a0 a1;have hki:(k:Int)<(n:Int):=(by omega);have hk0:=sqI k;obtain ⟨W5,hW5⟩:∃ W5,W5=wr.alloc (.cells #[.string x.name,.int .i64 x.arity] 84):=⟨_,rfl⟩;have K5:Hid (Bz wr W5):=(by show Below _ _ _;rw [hW5];exact (sqN _ _));have HW5:=hid hW5;clear hW5 hcl6 h1 h2;go_wp2_with fail;rw [<-HW5.out];refine (Zef W5 x.name x.arity).mono ?_;rintro e w1 ⟨rfl,hb1⟩;have K6:=hid (K5.out.trans (hb1.mono K5.out.size));have hGl:=HM.out.sz;have o1:w1.ownsRow G 84 2 (.slice (some ⟨G,0,none⟩) n n) n ys:=ZaO HM.out.own (K6.out.block G (by omega));have HO1:=hid o1;have f0:=o1.frozenAt (k * 2);obtain ⟨y0,g0⟩:=Zl o1 (k * 2) (by omega);have f1:=o1.frozenAt (k * 2+1);obtain ⟨y1,g1⟩:=Zl o1 (k * 2+1) (by omega);clear o1 hb1 hGl a0 a1;go_wp2_with fail;have sd:=Zeo HO1.out (k * 2) (.string x.name) (.int .i64 x.arity);have hlen:ys.length=n * 2:=HO1.out.1;have HMN:=Made.step (O:=λw=>ORf w d) (c:=2) (λw w' cs x f h hk=>h) HM.out hxk K6.out (show ORf w1 d [.string x.name,.int .i64 x.arity] x [] from HXX.out) (by simp) (by simp) rfl sd.1 sd.2 (λm hm=>ZbK hm) (λj hj=>Zcj (by omega) j hj);exact ⟨⟨k+1,_,_,by omega,by go_num,HMN,HB.out.trans ((K6.out.mono (by have:=HM.out.sz;omega)).trans ⟨sd.2.os,sd.2.tape,sd.2.output,sd.2.size,λj hj=>sd.2.block j (by have:=HM.out.sz;have:=K6.out.size;omega) (by simp;omega)⟩)⟩,by simp [intOf];omega⟩
  . obtain rfl:k=n:=by omega
    go_wp2;go_end0;exact ⟨rfl,⟨_,_,HM.out⟩,HB.out⟩
theorem Zhw (d:Nat) (w:World) (S:Nat->Prop) (v:Value) (rs:List Rf) (hr:Rows w S 2 HRf v rs) (hS:∀ g,S g->g<w.heap.size) (hw:rs.length<=16777216) :
 Calls prog 94 #[v,.func (.func 117) #[] #[]] w λe w'=>∃ u fp,e=.returned u/\Zg w' 84 2 (ORf w' d) u rs fp/\fp.Nodup/\(∀ a ∈ fp,w.heap.size<=a/\a<w'.heap.size)/\Bz w w':=by
 have HR:=hid hr;have HS:=hid hS;obtain ⟨p,cap,rfl,hcl,hcm,hx⟩:=hr;clear hx hS
 cases p with
 | none =>
  obtain rfl:=ZT HR.out;go_enter func94,ntmps94;go_wp2_with fail;refine (Zd4 _ _).mono ?_;rintro e w2 ⟨rfl,rfl⟩;go_wp2_with fail;refine (ZeE _ _ _ _ _ _).mono ?_;rintro e w3 ⟨rfl,rfl⟩;go_wp2;go_ret;exact ⟨_,[],rfl,ZaP none 0 (Nat.zero_le _),by simp,by simp,Below.refl _ _⟩
 | some a =>
  generalize hn:rs.length=n at *;have HN:=hid hn;clear hn;go_enter func94,ntmps94;go_wp2_with fail;refine (Zdf _ a n cap hw).mono ?_;rintro e w2 ⟨rfl,M,hM,hw2⟩;have K2:Hid (Bz w w2):=(by show Below _ _ _;rw [hw2];exact (sqN _ _))
  have HM0:Hid (Made w w2 w.heap.size n 84 2 (λw=>ORf w d) rs 0 M.toList []):=by
   show Made _ _ _ _ _ _ _ _ _ _ _;rw [hw2];exact Made.start hM (by unfold maxLen;omega)
  have R2:=hid (HR.out.mono ⟨K2.out.size,λg hg hl=>K2.out.block g hl⟩ sqj (λ_ _ _ h=>h));clear hw2 hM;go_wp2_with fail;refine (Zhv d w w2 w.heap.size n S _ rs M.toList HM0.out R2.out HS.out HN.out hw).mono ?_;rintro e w3 ⟨rfl,⟨ys,fps,hM3⟩,hb3⟩;obtain ⟨fp,r1,r2,r3⟩:=hM3.done HN.out (by unfold maxLen;omega);have R1:=hid r1;have RR:Hid (fp.Nodup/\∀ a ∈ fp,w.heap.size<=a/\a<w3.heap.size):=⟨r2,r3⟩;have O3:=hid hM3.below;clear hM3 hb3 r1 r2 r3;go_wp2;go_ret;exact ⟨_,fp,rfl,R1.out,RR.out.1,RR.out.2,O3.out⟩
namespace RemG
def FunR (F:FuncId) (cp:List Value) (ft:Int->ByteArray->ByteArray->Nat->ByteArray) (Cap:World->Prop) (d:Nat):Prop:=∀ (w:World) (N mb:Nat) (PL:Nat->Prop) (es:Array MapEntry) (z:Nat) (cs:List Value) (x:Fn'),CapK Cap N mb->Ctx Cap w N mb PL es z->HFn w PL d cs x->SizeOf.sizeOf x.clauses<=z->wtFn d x<=16777216 ->
 Calls prog 118 #[RV F cp ft mb,.agg cs.toArray] w (ResM w mb es λw' u fp=>∃ cs',u=.agg cs'.toArray/\OFn w' d cs' (mapF (fT ft) d x) fp)
def Zmf (F:FuncId) (cp:List Value) (ft:Int->ByteArray->ByteArray->Nat->ByteArray) (Cap:World->Prop) (d:Nat):Prop:=∀ (w:World) (N mb:Nat) (PL:Nat->Prop) (es:Array MapEntry) (z:Nat) (v:Value) (cl:List Fn'),CapK Cap N mb->Ctx Cap w N mb PL es z->Rows w PL 3 (HFn w PL d) v cl->(∀ x ∈ cl,SizeOf.sizeOf x.clauses<=z)->wtS (wtFn d) cl<=16777216 ->
 Calls prog 91 #[v,.func (.func 118) #[RV F cp ft mb] #[]] w (ResM w mb es λw' u fp=>Zg w' 59 3 (OFn w' d) u (cl.map (mapF (fT ft) d)) fp)
def ModR (F:FuncId) (cp:List Value) (ft:Int->ByteArray->ByteArray->Nat->ByteArray) (Cap:World->Prop) (d:Nat):Prop:=∀ (w:World) (N mb:Nat) (PL:Nat->Prop) (es:Array MapEntry) (z:Nat) (cs:List Value) (x:Md),CapK Cap N mb->Ctx Cap w N mb PL es z->HMd w PL d cs x->(∀ f ∈ x.funs,SizeOf.sizeOf f.clauses<=z)->wtMd d x<=16777216 ->
 Calls prog 73 #[RV F cp ft mb,.agg cs.toArray] w (ResM w mb es λw' u fp=>∃ cs',u=.agg cs'.toArray/\OMd w' d cs' (mapM (fT ft) d x) fp)
def ModsR (F:FuncId) (cp:List Value) (ft:Int->ByteArray->ByteArray->Nat->ByteArray) (Cap:World->Prop) (d:Nat):Prop:=∀ (w:World) (N mb:Nat) (PL:Nat->Prop) (es:Array MapEntry) (z:Nat) (v:Value) (cl:List Md),CapK Cap N mb->Ctx Cap w N mb PL es z->Rows w PL 3 (HMd w PL d) v cl->(∀ x ∈ cl,(∀ f ∈ x.funs,SizeOf.sizeOf f.clauses<=z))->wtS (wtMd d) cl<=16777216 ->
 Calls prog 47 #[v,.func (.func 73) #[RV F cp ft mb] #[]] w (ResM w mb es λw' u fp=>Zg w' 63 3 (OMd w' d) u (cl.map (mapM (fT ft) d)) fp)
theorem ZlI {F:FuncId} {cp:List Value} {ft:Int->ByteArray->ByteArray->Nat->ByteArray} {Cap:World->Prop} {d:Nat} (hCl:ClsR F cp ft Cap d):FunR F cp ft Cap d:=by
 intro w N mb PL es z cs x hC hc hr hz hw;have HCK:=hid hC;have HC:=hid hc;obtain ⟨cv,rfl,o1,o2,hcl⟩:=hr;obtain ⟨t0,a0,cls⟩:=x;simp only at *;have hw':wtFn d ⟨t0,a0,cls⟩=t0.size+wtS (wtCl (wtEx d)) cls:=rfl;have HOK:Hid (okS t0/\okI a0):=⟨o1,o2⟩;have HCS:=hid hcl;have HZ2:=hid hz;have HW2:Hid (wtS (wtCl (wtEx d)) cls<=16777216):=(by show _<=_;omega);obtain ⟨p1,c1,rfl,hl1,hm1,-⟩:=hcl;generalize hn1:cls.length=n1 at *;have HL1:=hid hn1;obtain ⟨W3,hW3⟩:∃ W3,W3=((w.alloc (.cells #[.func (.func F) #[] cp.toArray,.map (some mb)] 73)).alloc (.cells #[.string t0,.int .i64 a0,.slice p1 n1 c1] 59)).alloc (.cells #[.string ⟨#[]⟩,.int .i64 0,.slice none 0 0] 59):=⟨_,rfl⟩;have HW3:=hid hW3;have B3:Hid (Bz w W3):=(by show Below _ _ _;rw [hW3];exact (((sqN _ _)).alloc (by simp) _).alloc (by simp only [Zb];omega) _);have b3:Hid (Blk W3 w.heap.size #[.func (.func F) #[] cp.toArray,.map (some mb)] 73):=(by show Blk _ _ _ _;rw [hW3];exact Blk.new.alloc.alloc)
 have e3:Hid (Blk W3 (w.heap.size+1) #[.string t0,.int .i64 a0,.slice p1 n1 c1] 59):=by
  have:=Blk.new (w:=w.alloc (.cells #[.func (.func F) #[] cp.toArray,.map (some mb)] 73)) (cs:=#[.string t0,.int .i64 a0,.slice p1 n1 c1]) (t:=59);rw [Zb] at this;show Blk _ _ _ _;rw [hW3];exact this.alloc
 have r3:Hid (Blk W3 (w.heap.size+2) #[.string ⟨#[]⟩,.int .i64 0,.slice none 0 0] 59):=by
  have:=Blk.new (w:=(w.alloc (.cells #[.func (.func F) #[] cp.toArray,.map (some mb)] 73)).alloc (.cells #[.string t0,.int .i64 a0,.slice p1 n1 c1] 59)) (cs:=#[.string ⟨#[]⟩,.int .i64 0,.slice none 0 0]) (t:=59);rw [Zb,Zb] at this;show Blk _ _ _ _;rw [hW3];exact this
 have S3:Hid (W3.heap.size=w.heap.size+3):=(by show _=_;rw [hW3,Zb,Zb,Zb]);have C3:=hid (HC.out.next HCK.out B3.out (sqR _));have P3:=hid (HCS.out.mono (sqO B3.out) sqj (λ_ _ _ h=>h.mono (sqO B3.out) sqj (λ_ _ h=>h.mono (sqO B3.out) sqj)));have hml:=HC.out.mlt;have hmN:=HC.out.lt;have hNw:=HC.out.le;unfold ClsR RV at hCl;unfold RV;obtain ⟨y0,y1⟩:=sqB2 b3.out;obtain ⟨x0,x1,x2⟩:=sqB3 e3.out;clear hW3 hC hc hz hw hw' hn1 o1 o2;go_enter func118,ntmps118;go_wp2_with fail;rw [<-HW3.out];refine (hCl _ N mb PL es z _ cls HCK.out C3.out P3.out HZ2.out HW2.out).mono ?_;rintro e w4 ⟨u4,fp,rfl,ho4,hnd4,hrg4,hb4,hmm4⟩;obtain ⟨pu4,cu4,hu4,hcl4,hcm4⟩:=ho4.shape;rw [List.length_map,HL1.out] at hu4;subst hu4;have HO4:=hid ho4;have ND4:Hid (fp.Nodup/\∀ a ∈ fp,W3.heap.size<=a/\a<w4.heap.size):=⟨hnd4,hrg4⟩;have K4:=hid hb4;have g3:=S3.out;have g4:=hb4.size;have MS4:=hid hmm4;have e4:=hid (hb4.blk e3.out e3.out.lt (by omega));have r4:=hid (hb4.blk r3.out r3.out.lt (by omega));have f9:=e4.out.frozen 2;obtain ⟨f0,f1,f2⟩:=sqF3 r4.out;obtain ⟨v0,v1,v2⟩:=sqB3 e4.out;obtain ⟨s0,s1,s2⟩:=sqB3 r4.out;clear ho4 hnd4 hrg4 hb4 hmm4 hcl4 hcm4 y0 y1 x0 x1 x2;go_wp2_with fail;obtain ⟨W7,hW7⟩:∃ W7,W7=(((w4.setCell ⟨w.heap.size+1,2,none⟩ (.slice pu4 n1 cu4)).setCell ⟨w.heap.size+2,0,none⟩ (.string t0)).setCell ⟨w.heap.size+2,1,none⟩ (.int .i64 a0)).setCell ⟨w.heap.size+2,2,none⟩ (.slice pu4 n1 cu4):=⟨_,rfl⟩;have bz:Blk W7 (w.heap.size+2) #[.string t0,.int .i64 a0,.slice pu4 n1 cu4] 59:=(by rw [hW7];exact (((r4.out.other (by show w.heap.size+2≠w.heap.size+1;omega)).same rfl).same rfl).same rfl)
 have K7:Below (w.heap.size+1) w4 W7:=by
  rw [hW7];exact ((((Below.refl _ w4).setCell (by show w.heap.size+1<=w.heap.size+1;omega) _).setCell (by show w.heap.size+1<=w.heap.size+2;omega) _).setCell (by show w.heap.size+1<=w.heap.size+2;omega) _).setCell (by show w.heap.size+1<=w.heap.size+2;omega) _
 have o7:∀ a,w.heap.size+3<=a->W7.heap[a]?=w4.heap[a]?:=λa ha=>by
  rw [hW7,Below.heap_setCell _ _ _ _ (by show a≠w.heap.size+2;omega),Below.heap_setCell _ _ _ _ (by show a≠w.heap.size+2;omega),Below.heap_setCell _ _ _ _ (by show a≠w.heap.size+2;omega),Below.heap_setCell _ _ _ _ (by show a≠w.heap.size+1;omega)]
 have s7:=K7.size;obtain ⟨j0,j1,j2⟩:=sqB3 bz
 have o4:Zg W7 46 2 (OCl W7 (OEx W7 d)) (.slice pu4 n1 cu4) (cls.map (mapC (fT ft) d)) fp:=by
  have kk:Zj fp w4 W7:=λa ha=>by
   have h:=ND4.out.2 a ha;exact o7 a (by omega)
  exact HO4.out.keep kk (λcs x f _ hs h=>OCls.keep h (kk.sub hs))
 have rg:∀ a ∈ fp,w.heap.size<=a/\a<W7.heap.size:=λa ha=>by
  have h:=ND4.out.2 a ha;omega
 have of:OffB mb w.heap.size w W7:=(OffB.of_below B3.out).trans ((K4.out.mono (by omega)).trans (OffB.of_below (K7.mono (by omega))));have ms:ZaV W7 mb es:=MS4.out.keep (K7.block mb (by omega))
 have fin:ResM w mb es (λw' u fp=>∃ cs',u=.agg cs'.toArray/\OFn w' d cs' (mapF (fT ft) d ⟨t0,a0,cls⟩) fp) (.returned (.agg #[.string t0,.int .i64 a0,.slice pu4 n1 cu4])) W7 :=
  ⟨_,fp,rfl,⟨[.string t0,.int .i64 a0,.slice pu4 n1 cu4],rfl,⟨_,rfl,HOK.out.1,HOK.out.2,o4⟩⟩,ND4.out.1,rg,of,ms⟩
 rw [hW7] at fin j0 j1 j2;exact bodyPost_ret (v:=.agg #[.string t0,.int .i64 a0,.slice pu4 n1 cu4]) (by simp [results,results118,go_sem,j0,j1,j2]) rfl fin
theorem ZiQ {F:FuncId} {cp:List Value} {ft:Int->ByteArray->ByteArray->Nat->ByteArray} {Cap:World->Prop} {d:Nat} (hE:FunR F cp ft Cap d) (w0 w:World) (G n N mb:Nat) (PL:Nat->Prop) (es:Array MapEntry) (z:Nat) (v:Value) (xs:List Fn') (M:List Value) (hC:CapK Cap N mb)
 (hM:Zae mb w0 w G n 59 3 (λw=>OFn w d) (xs.map (mapF (fT ft) d)) 0 M []) (hc:Ctx Cap w N mb PL es z) (hr:Rows w PL 3 (HFn w PL d) v xs) (hn:xs.length=n) (hz:∀ x ∈ xs,SizeOf.sizeOf x.clauses<=z) (hw:wtS (wtFn d) xs<=16777216) (hNG:N<=G) :
 Calls prog 135 #[.slice (some ⟨G,0,none⟩) n n,v,.func (.func 118) #[RV F cp ft mb] #[]] w λe w'=>e=.returned (.tuple #[])/\(∃ ys fps,Zae mb w0 w' G n 59 3 (λw=>OFn w d) (xs.map (mapF (fT ft) d)) n ys fps)/\ZaV w' mb es/\Off [mb,G] w w':=by
 obtain ⟨p,cap,rfl,hcl,hcm,hx⟩:=hr;rw [hn] at hcl ⊢;have HN:=hid hn;have HX:=hid hx;have HM0:=hid hM;have HC:=hid hc;have HCK:=hid hC;have HZ:=hid hz;have HWT:=hid hw;have hnb:n<=16777216:=(by unfold wtS at hw;omega);have HNG:=hid hNG;clear hx hn hM hc hC hz hw hNG;unfold RV;go_enter func135,ntmps135;go_wp2_with fail
 go_loopw [10] (λiv wr=>∃ (k:Nat) (ys:List Value) (fps:List (List Nat)),k<=n/\iv=.int .i64 k/\Hid (Zae mb w0 wr G n 59 3 (λw=>OFn w d) (xs.map (mapF (fT ft) d)) k ys fps)/\Hid (ZaV wr mb es)/\Hid (Off [mb,G] w wr)) (λiv _=>n - (intOf iv).toNat)
 case atStart=>exact ⟨0,M,[],Nat.zero_le _,rfl,HM0.out,HC.out.mp,Off.refl _ _⟩
 case round =>
  obtain ⟨k,ys,fps,hk,rfl,HM,HMS,HOG⟩:=hrel;have HOF:=hid (Zbt HOG.out HNG.out HC.out.le);by_cases hlt:k<n
  . obtain ⟨x,hxk⟩:=sqA (l:=xs) (k:=k) HN.out hlt
    obtain ⟨g,off,rfl,hg,hgl,hat⟩:=HX.out (sqE hxk);obtain ⟨cs,hcl6,hcs,hex⟩:=hat k x hxk;have hgP:=HC.out.pl g hg;have HXR:=hid (hex.mono (HC.out.same HOF.out (sqR _)) sqj);obtain ⟨tt,tk,r1,m1,s1,rfl⟩:=HFn.shapeR hex;obtain ⟨a0,a1,a2⟩:=sqC3 hcs (by omega);rw [<-HOF.out.cellAt (p:=⟨g,_,none⟩) hgP.1 hgP.2.1] at a0 a1 a2;clear hcs hat;simp at a0 a1 a2;have hki:(k:Int)<(n:Int):=(by omega);have hk0:=sqI k
    have HWX:Hid (wtFn d x<=16777216):=by
     show _<=_;have h1:=HWT.out;have h2:=Ze (wtFn d) xs k x hxk;have h3:=Zf (wtFn d) xs (k+1);unfold wtS at h1;omega
    have HZX:=hid (HZ.out x (List.mem_of_getElem? hxk));have HYK:Hid ((xs.map (mapF (fT ft) d))[k]?=some (mapF (fT ft) d x)):=(by show _=_;rw [List.getElem?_map,hxk];rfl);obtain ⟨W5,hW5⟩:∃ W5,W5=wr.alloc (.cells #[.string tt,.int .i64 tk,.slice r1 m1 s1] 59):=⟨_,rfl⟩;have K5:Hid (Bz wr W5):=(by show Below _ _ _;rw [hW5];exact (sqN _ _));have HW5:=hid hW5;have CR:=hid (HC.out.off HCK.out HOF.out (sqR _) HMS.out (sqR _));have C5:=hid (CR.out.next HCK.out K5.out (sqR _));have X5:=hid (HXR.out.mono (CR.out.same (OffB.of_below (b:=mb) K5.out) CR.out.le) sqj);clear hW5 hex hcl6;go_wp2_with fail;rw [<-HW5.out];refine (hE W5 N mb PL es z _ x HCK.out C5.out X5.out HZX.out HWX.out).mono ?_;rintro e w1 ⟨u,fp,rfl,⟨cs',rfl,hx1⟩,hnd,hrg,hb1,hm1⟩;obtain ⟨sx,sk,p1,n1,q1,hsh⟩:=hx1.shape;subst hsh;have K6:Hid (OffB mb wr.heap.size wr w1):=(OffB.of_below K5.out).trans (hb1.mono K5.out.size);have HX1:=hid hx1;have HND:Hid fp.Nodup:=hnd;have HRG:Hid (∀ a ∈ fp,wr.heap.size<=a/\a<w1.heap.size):=λa ha=>⟨Nat.le_trans K5.out.size (hrg a ha).1,(hrg a ha).2⟩;have HM1:=hid hm1;have hGl:=HM.out.sz;have hGm:=HM.out.lt;have o1:w1.ownsRow G 59 3 (.slice (some ⟨G,0,none⟩) n n) n ys:=ZaO HM.out.own (K6.out.block G (by omega) (by omega));have HO1:=hid o1;have f0:=o1.frozenAt (k * 3);obtain ⟨y0,g0⟩:=Zl o1 (k * 3) (by omega);have f1:=o1.frozenAt (k * 3+1);obtain ⟨y1,g1⟩:=Zl o1 (k * 3+1) (by omega);have f2:=o1.frozenAt (k * 3+2);obtain ⟨y2,g2⟩:=Zl o1 (k * 3+2) (by omega);clear o1 hb1 hx1 hnd hrg hm1 hGl hGm a0 a1 a2;go_wp2_with fail;have sd:=Zdx HO1.out (k * 3) (.string sx) (.int .i64 sk) (.slice p1 n1 q1);have hlen:ys.length=n * 3:=HO1.out.1;have HMN:=Zae.step (O:=λw=>OFn w d) (c:=3) (λw w' cs x f h hk=>OFn.keep h hk) HM.out HYK.out K6.out HX1.out HND.out HRG.out rfl sd.1 sd.2 (λm hm=>Zbe hm) (λj hj=>ZbL (by omega) j hj);refine ⟨⟨k+1,_,_,by omega,by go_num,HMN,HM1.out.keep (sd.2.block mb (by have:=CR.out.mlt;have:=K6.out.size;omega) (by have:=HM.out.lt;simp;omega)),HOG.out.trans ((Zb3 K6.out).trans (Off.of_grown sd.2 (by simp)))⟩,by simp [intOf];omega⟩
  . obtain rfl:k=n:=by omega
    go_wp2;go_end0;exact ⟨rfl,⟨_,_,HM.out⟩,HMS.out,HOG.out⟩
theorem Zfs {F:FuncId} {cp:List Value} {ft:Int->ByteArray->ByteArray->Nat->ByteArray} {Cap:World->Prop} {d:Nat} (hE:FunR F cp ft Cap d):Zmf F cp ft Cap d:=by
 intro w N mb PL es z v cl hC hc hr hz hw;have HCK:=hid hC;have HC:=hid hc;have HR:=hid hr;have HZ:=hid hz;have HWT:=hid hw;obtain ⟨p,cap,rfl,hcl,hcm,hx⟩:=hr;have hnb:cl.length<=16777216:=(by unfold wtS at hw;omega);clear hC hc hz hw hx;unfold RV
 cases p with
 | none =>
  obtain rfl:=ZT HR.out;go_enter func91,ntmps91;go_wp2_with fail;refine (Zd3 _ _).mono ?_;rintro e w2 ⟨rfl,rfl⟩;go_wp2_with fail;refine (ZeD _ _ _ _ _ _).mono ?_;rintro e w3 ⟨rfl,rfl⟩;go_wp2;go_ret;exact ⟨_,[],rfl,ZaP none 0 (Nat.zero_le _),by simp,by simp,OffB.refl _ _ _,HC.out.mp⟩
 | some a =>
  generalize hn:cl.length=n at *;have HN:=hid hn;clear hn;go_enter func91,ntmps91;go_wp2_with fail;refine (Zde _ a n cap hnb).mono ?_;rintro e w2 ⟨rfl,M,hM,hw2⟩;have K2:Hid (Bz w w2):=(by show Below _ _ _;rw [hw2];exact (sqN _ _))
  have HM0:Hid (Zae mb w w2 w.heap.size n 59 3 (λw=>OFn w d) (cl.map (mapF (fT ft) d)) 0 M.toList []):=by
   show Zae _ _ _ _ _ _ _ _ _ _ _ _;rw [hw2];exact Zae.start hM (by unfold maxLen;omega) HC.out.mlt
  have C2:=hid (HC.out.next HCK.out K2.out (sqR _));have R2:=hid (HR.out.mono (sqO K2.out) sqj (λ_ _ _ h=>h.mono (sqO K2.out) sqj));have CFL:=ZiQ hE w w2 w.heap.size n N mb PL es z (.slice (some a) n cap) cl M.toList HCK.out HM0.out C2.out R2.out HN.out HZ.out HWT.out HC.out.le;unfold RV at CFL;have HCF:=hid CFL;clear CFL hw2 hM;go_wp2_with fail;refine HCF.out.mono ?_;rintro e w3 ⟨rfl,⟨ys,fps,hM3⟩,hm3,hof3⟩;obtain ⟨fp,r1,r2,r3⟩:=hM3.done (show (cl.map (mapF (fT ft) d)).length=n by rw [List.length_map];exact HN.out) (by unfold maxLen;omega);have R1:=hid r1;have RR:Hid (fp.Nodup/\∀ a ∈ fp,w.heap.size<=a/\a<w3.heap.size):=⟨r2,r3⟩;have O3:=hid hM3.off;have M3:=hid hm3;clear hM3 hm3 hof3 r1 r2 r3;go_wp2;go_ret;exact ⟨_,fp,rfl,R1.out,RR.out.1,RR.out.2,O3.out,M3.out⟩
theorem ZlJ {F:FuncId} {cp:List Value} {ft:Int->ByteArray->ByteArray->Nat->ByteArray} {Cap:World->Prop} {d:Nat} (hF:Zmf F cp ft Cap d):ModR F cp ft Cap d:=by
 intro w N mb PL es z cs x hC hc hr hz hw;have HCK:=hid hC;have HC:=hid hc;obtain ⟨ev,fv,rfl,o1,hev,hfv⟩:=hr;obtain ⟨t0,rs,fs⟩:=x;simp only at *;have hw':wtMd d ⟨t0,rs,fs⟩=t0.size+wtS wtRf rs+wtS (wtFn d) fs:=rfl;have HOK:=hid o1;have HRS:=hid hev;have HFS:=hid hfv;have HZ2:=hid hz;have HW1:Hid (rs.length<=16777216):=(by show _<=_;unfold wtS at hw';omega);have HW2:Hid (wtS (wtFn d) fs<=16777216):=(by show _<=_;omega);obtain ⟨p1,c1,rfl,-⟩:=hev;obtain ⟨p2,c2,rfl,-⟩:=hfv;generalize hn1:rs.length=n1 at *;generalize hn2:fs.length=n2 at *;have HL1:=hid hn1;have HL2:=hid hn2;obtain ⟨W3,hW3⟩:∃ W3,W3=((w.alloc (.cells #[.func (.func F) #[] cp.toArray,.map (some mb)] 73)).alloc (.cells #[.string t0,.slice p1 n1 c1,.slice p2 n2 c2] 63)).alloc (.cells #[.string ⟨#[]⟩,.slice none 0 0,.slice none 0 0] 63):=⟨_,rfl⟩;have HW3:=hid hW3;have B3:Hid (Bz w W3):=(by show Below _ _ _;rw [hW3];exact (((sqN _ _)).alloc (by simp) _).alloc (by simp only [Zb];omega) _);have b3:Hid (Blk W3 w.heap.size #[.func (.func F) #[] cp.toArray,.map (some mb)] 73):=(by show Blk _ _ _ _;rw [hW3];exact Blk.new.alloc.alloc)
 have e3:Hid (Blk W3 (w.heap.size+1) #[.string t0,.slice p1 n1 c1,.slice p2 n2 c2] 63):=by
  have:=Blk.new (w:=w.alloc (.cells #[.func (.func F) #[] cp.toArray,.map (some mb)] 73)) (cs:=#[.string t0,.slice p1 n1 c1,.slice p2 n2 c2]) (t:=63);rw [Zb] at this;show Blk _ _ _ _;rw [hW3];exact this.alloc
 have r3:Hid (Blk W3 (w.heap.size+2) #[.string ⟨#[]⟩,.slice none 0 0,.slice none 0 0] 63):=by
  have:=Blk.new (w:=(w.alloc (.cells #[.func (.func F) #[] cp.toArray,.map (some mb)] 73)).alloc (.cells #[.string t0,.slice p1 n1 c1,.slice p2 n2 c2] 63)) (cs:=#[.string ⟨#[]⟩,.slice none 0 0,.slice none 0 0]) (t:=63);rw [Zb,Zb] at this;show Blk _ _ _ _;rw [hW3];exact this
 have S3:Hid (W3.heap.size=w.heap.size+3):=(by show _=_;rw [hW3,Zb,Zb,Zb]);have C3:=hid (HC.out.next HCK.out B3.out (sqR _));have P3:=hid (HRS.out.mono (sqO B3.out) sqj (λ_ _ _ h=>h));have hml:=HC.out.mlt;have hmN:=HC.out.lt;have hNw:=HC.out.le
 have HPL:Hid (∀ g,PL g->g<W3.heap.size):=λg hg=>by have:=(C3.out.pl g hg).1;have:=C3.out.le;omega
 unfold Zmf RV at hF;unfold RV;obtain ⟨y0,y1⟩:=sqB2 b3.out;obtain ⟨x0,x1,x2⟩:=sqB3 e3.out;clear hW3 hC hc hz hw hw' hn1 hn2 o1;go_enter func73,ntmps73;go_wp2_with fail;rw [<-HW3.out];refine (Zhw d W3 PL _ rs P3.out HPL.out (by rw [HL1.out];exact HW1.out)).mono ?_;rintro e w4 ⟨u4,fp,rfl,ho4,hnd4,hrg4,hb4⟩;obtain ⟨pu4,cu4,hu4,hcl4,hcm4⟩:=ho4.shape;rw [HL1.out] at hu4;subst hu4;have HO4:=hid ho4;have ND4:Hid (fp.Nodup/\∀ a ∈ fp,W3.heap.size<=a/\a<w4.heap.size):=⟨hnd4,hrg4⟩;have K4:=hid hb4;have g3:=S3.out;have g4:=hb4.size;have b4:=hid (b3.out.next hb4);have e4:=hid (e3.out.next hb4);have r4:=hid (r3.out.next hb4);have ff:=e4.out.frozen 1;obtain ⟨v0,v1,v2⟩:=sqB3 e4.out;obtain ⟨s0,s1⟩:=sqB2 b4.out;clear ho4 hnd4 hrg4 hb4 hcl4 hcm4 y0 y1 x0 x1 x2;go_wp2_with fail;obtain ⟨V4,hV4⟩:∃ V4,V4=w4.setCell ⟨w.heap.size+1,1,none⟩ (.slice pu4 n1 cu4):=⟨_,rfl⟩;rw [<-hV4]
 have q4:∀ a,a≠w.heap.size+1->V4.heap[a]?=w4.heap[a]?:=λa ha=>by rw [hV4];exact Below.heap_setCell _ _ _ _ ha
 have OV4:Hid (OffB mb (w.heap.size+1) w4 V4):=(by show OffB _ _ _ _;rw [hV4];exact (OffB.refl _ _ _).setCell (by show _<=w.heap.size+1;exact Nat.le_refl _) _);have Q4:=hid q4;have sV4:V4.heap.size=w4.heap.size:=(by rw [hV4];simp [World.setCell]);have E4:Hid (Blk V4 (w.heap.size+1) #[.string t0,.slice pu4 n1 cu4,.slice p2 n2 c2] 63):=(by show Blk _ _ _ _;rw [hV4];exact e4.out.same rfl);have R4:Hid (Blk V4 (w.heap.size+2) #[.string ⟨#[]⟩,.slice none 0 0,.slice none 0 0] 63):=(q4 _ (by omega)).trans r4.out;have O4:Hid (OffB mb w.heap.size w V4):=(OffB.of_below B3.out).trans ((OffB.of_below (K4.out.mono (by omega))).trans (OV4.out.mono (by omega)));have C4:=hid (HC.out.off HCK.out O4.out HC.out.le (HC.out.mp.keep ((q4 mb (by omega)).trans ((K4.out.block mb (by omega)).trans (B3.out.block mb hml)))) (sqR _));have T4:=hid (HFS.out.mono (HC.out.same O4.out HC.out.le) sqj (λ_ _ _ h=>h.mono (HC.out.same O4.out HC.out.le) sqj));clear hV4 q4 v0 v1 v2 s0 s1 ff;refine (hF _ N mb PL es z _ fs HCK.out C4.out T4.out HZ2.out HW2.out).mono ?_;rintro e w5 ⟨u5,fq,rfl,ho5,hnd5,hrg5,hb5,hmm5⟩;obtain ⟨pu5,cu5,hu5,hcl5,hcm5⟩:=ho5.shape;rw [List.length_map,HL2.out] at hu5;subst hu5;have HO5:=hid ho5;have ND5:Hid (fq.Nodup/\∀ a ∈ fq,w4.heap.size<=a/\a<w5.heap.size):=⟨hnd5,λa ha=>⟨by have:=(hrg5 a ha).1;omega,(hrg5 a ha).2⟩⟩;have K5:=hid hb5;have g5:=hb5.size;have MS5:=hid hmm5;have e5:=hid (hb5.blk E4.out E4.out.lt (by omega));have r5:=hid (hb5.blk R4.out R4.out.lt (by omega));have f9:=e5.out.frozen 2;obtain ⟨f0,f1,f2⟩:=sqF3 r5.out;obtain ⟨v0,v1,v2⟩:=sqB3 e5.out;obtain ⟨s0,s1,s2⟩:=sqB3 r5.out;clear ho5 hnd5 hrg5 hb5 hmm5 hcl5 hcm5;go_wp2_with fail;obtain ⟨W7,hW7⟩:∃ W7,W7=(((w5.setCell ⟨w.heap.size+1,2,none⟩ (.slice pu5 n2 cu5)).setCell ⟨w.heap.size+2,0,none⟩ (.string t0)).setCell ⟨w.heap.size+2,1,none⟩ (.slice pu4 n1 cu4)).setCell ⟨w.heap.size+2,2,none⟩ (.slice pu5 n2 cu5):=⟨_,rfl⟩;have bz:Blk W7 (w.heap.size+2) #[.string t0,.slice pu4 n1 cu4,.slice pu5 n2 cu5] 63:=(by rw [hW7];exact (((r5.out.other (by show w.heap.size+2≠w.heap.size+1;omega)).same rfl).same rfl).same rfl)
 have K7:Below (w.heap.size+1) w5 W7:=by
  rw [hW7];exact ((((Below.refl _ w5).setCell (by show w.heap.size+1<=w.heap.size+1;omega) _).setCell (by show w.heap.size+1<=w.heap.size+2;omega) _).setCell (by show w.heap.size+1<=w.heap.size+2;omega) _).setCell (by show w.heap.size+1<=w.heap.size+2;omega) _
 have o7:∀ a,w.heap.size+3<=a->W7.heap[a]?=w5.heap[a]?:=λa ha=>by
  rw [hW7,Below.heap_setCell _ _ _ _ (by show a≠w.heap.size+2;omega),Below.heap_setCell _ _ _ _ (by show a≠w.heap.size+2;omega),Below.heap_setCell _ _ _ _ (by show a≠w.heap.size+2;omega),Below.heap_setCell _ _ _ _ (by show a≠w.heap.size+1;omega)]
 have s7:=K7.size;obtain ⟨j0,j1,j2⟩:=sqB3 bz
 have o4:Zg W7 84 2 (ORf W7 d) (.slice pu4 n1 cu4) rs fp:=by
  have kk:Zj fp w4 W7:=λa ha=>by
   have h:=ND4.out.2 a ha;exact (o7 a (by omega)).trans ((K5.out.block a (by omega) (by omega)).trans (Q4.out a (by omega)))
  exact HO4.out.keep kk (λcs x f _ hs h=>h)
 have o5:Zg W7 59 3 (OFn W7 d) (.slice pu5 n2 cu5) (fs.map (mapF (fT ft) d)) fq:=by
  have kk:Zj fq w5 W7:=λa ha=>by
   have h:=ND5.out.2 a ha;exact o7 a (by omega)
  exact HO5.out.keep kk (λcs x f _ hs h=>h.keep (kk.sub hs))
 have nd:(fp ++ fq).Nodup:=by
  rw [List.nodup_append];refine ⟨ND4.out.1,ND5.out.1,λa ha b hb=>?_⟩;have h:=ND4.out.2 a ha;have h':=ND5.out.2 b hb;omega
 have rg:∀ a ∈ fp ++ fq,w.heap.size<=a/\a<W7.heap.size:=λa ha=>by
  rcases List.mem_append.1 ha with ha | ha
  . have h:=ND4.out.2 a ha;omega
  . have h:=ND5.out.2 a ha;omega
 have of:OffB mb w.heap.size w W7:=O4.out.trans ((K5.out.mono (by omega)).trans (OffB.of_below (K7.mono (by omega))));have ms:ZaV W7 mb es:=MS5.out.keep (K7.block mb (by omega))
 have fin:ResM w mb es (λw' u fp=>∃ cs',u=.agg cs'.toArray/\OMd w' d cs' (mapM (fT ft) d ⟨t0,rs,fs⟩) fp) (.returned (.agg #[.string t0,.slice pu4 n1 cu4,.slice pu5 n2 cu5])) W7 :=
  ⟨_,fp ++ fq,rfl,⟨[.string t0,.slice pu4 n1 cu4,.slice pu5 n2 cu5],rfl,⟨_,_,fp,fq,rfl,rfl,HOK.out,o4,o5⟩⟩,nd,rg,of,ms⟩
 rw [hW7] at fin j0 j1 j2;exact bodyPost_ret (v:=.agg #[.string t0,.slice pu4 n1 cu4,.slice pu5 n2 cu5]) (by simp [results,results73,go_sem,j0,j1,j2]) rfl fin
theorem ZfU {F:FuncId} {cp:List Value} {ft:Int->ByteArray->ByteArray->Nat->ByteArray} {Cap:World->Prop} {d:Nat} (hE:ModR F cp ft Cap d) (w0 w:World) (G n N mb:Nat) (PL:Nat->Prop) (es:Array MapEntry) (z:Nat) (v:Value) (xs:List Md) (M:List Value) (hC:CapK Cap N mb)
 (hM:Zae mb w0 w G n 63 3 (λw=>OMd w d) (xs.map (mapM (fT ft) d)) 0 M []) (hc:Ctx Cap w N mb PL es z) (hr:Rows w PL 3 (HMd w PL d) v xs) (hn:xs.length=n) (hz:∀ x ∈ xs,(∀ f ∈ x.funs,SizeOf.sizeOf f.clauses<=z)) (hw:wtS (wtMd d) xs<=16777216) (hNG:N<=G) :
 Calls prog 88 #[.slice (some ⟨G,0,none⟩) n n,v,.func (.func 73) #[RV F cp ft mb] #[]] w λe w'=>e=.returned (.tuple #[])/\(∃ ys fps,Zae mb w0 w' G n 63 3 (λw=>OMd w d) (xs.map (mapM (fT ft) d)) n ys fps)/\ZaV w' mb es/\Off [mb,G] w w':=by
 obtain ⟨p,cap,rfl,hcl,hcm,hx⟩:=hr;rw [hn] at hcl ⊢;have HN:=hid hn;have HX:=hid hx;have HM0:=hid hM;have HC:=hid hc;have HCK:=hid hC;have HZ:=hid hz;have HWT:=hid hw;have hnb:n<=16777216:=(by unfold wtS at hw;omega);have HNG:=hid hNG;clear hx hn hM hc hC hz hw hNG;unfold RV;go_enter func88,ntmps88;go_wp2_with fail
 go_loopw [10] (λiv wr=>∃ (k:Nat) (ys:List Value) (fps:List (List Nat)),k<=n/\iv=.int .i64 k/\Hid (Zae mb w0 wr G n 63 3 (λw=>OMd w d) (xs.map (mapM (fT ft) d)) k ys fps)/\Hid (ZaV wr mb es)/\Hid (Off [mb,G] w wr)) (λiv _=>n - (intOf iv).toNat)
 case atStart=>exact ⟨0,M,[],Nat.zero_le _,rfl,HM0.out,HC.out.mp,Off.refl _ _⟩
 case round =>
  obtain ⟨k,ys,fps,hk,rfl,HM,HMS,HOG⟩:=hrel;have HOF:=hid (Zbt HOG.out HNG.out HC.out.le);by_cases hlt:k<n
  . obtain ⟨x,hxk⟩:=sqA (l:=xs) (k:=k) HN.out hlt
    obtain ⟨g,off,rfl,hg,hgl,hat⟩:=HX.out (sqE hxk);obtain ⟨cs,hcl6,hcs,hex⟩:=hat k x hxk;have hgP:=HC.out.pl g hg;have HXR:=hid (hex.mono (HC.out.same HOF.out (sqR _)) sqj);obtain ⟨tt,r1,m1,s1,r2,m2,s2,rfl⟩:=HMd.shapeR hex;obtain ⟨a0,a1,a2⟩:=sqC3 hcs (by omega);rw [<-HOF.out.cellAt (p:=⟨g,_,none⟩) hgP.1 hgP.2.1] at a0 a1 a2;clear hcs hat;simp at a0 a1 a2;have hki:(k:Int)<(n:Int):=(by omega);have hk0:=sqI k
    have HWX:Hid (wtMd d x<=16777216):=by
     show _<=_;have h1:=HWT.out;have h2:=Ze (wtMd d) xs k x hxk;have h3:=Zf (wtMd d) xs (k+1);unfold wtS at h1;omega
    have HZX:=hid (HZ.out x (List.mem_of_getElem? hxk));have HYK:Hid ((xs.map (mapM (fT ft) d))[k]?=some (mapM (fT ft) d x)):=(by show _=_;rw [List.getElem?_map,hxk];rfl);obtain ⟨W5,hW5⟩:∃ W5,W5=wr.alloc (.cells #[.string tt,.slice r1 m1 s1,.slice r2 m2 s2] 63):=⟨_,rfl⟩;have K5:Hid (Bz wr W5):=(by show Below _ _ _;rw [hW5];exact (sqN _ _));have HW5:=hid hW5;have CR:=hid (HC.out.off HCK.out HOF.out (sqR _) HMS.out (sqR _));have C5:=hid (CR.out.next HCK.out K5.out (sqR _));have X5:=hid (HXR.out.mono (CR.out.same (OffB.of_below (b:=mb) K5.out) CR.out.le) sqj);clear hW5 hex hcl6;go_wp2_with fail;rw [<-HW5.out];refine (hE W5 N mb PL es z _ x HCK.out C5.out X5.out HZX.out HWX.out).mono ?_;rintro e w1 ⟨u,fp,rfl,⟨cs',rfl,hx1⟩,hnd,hrg,hb1,hm1⟩;obtain ⟨sx,p1,n1,q1,p2,n2,q2,hsh⟩:=hx1.shape;subst hsh;have K6:Hid (OffB mb wr.heap.size wr w1):=(OffB.of_below K5.out).trans (hb1.mono K5.out.size);have HX1:=hid hx1;have HND:Hid fp.Nodup:=hnd;have HRG:Hid (∀ a ∈ fp,wr.heap.size<=a/\a<w1.heap.size):=λa ha=>⟨Nat.le_trans K5.out.size (hrg a ha).1,(hrg a ha).2⟩;have HM1:=hid hm1;have hGl:=HM.out.sz;have hGm:=HM.out.lt;have o1:w1.ownsRow G 63 3 (.slice (some ⟨G,0,none⟩) n n) n ys:=ZaO HM.out.own (K6.out.block G (by omega) (by omega));have HO1:=hid o1;have f0:=o1.frozenAt (k * 3);obtain ⟨y0,g0⟩:=Zl o1 (k * 3) (by omega);have f1:=o1.frozenAt (k * 3+1);obtain ⟨y1,g1⟩:=Zl o1 (k * 3+1) (by omega);have f2:=o1.frozenAt (k * 3+2);obtain ⟨y2,g2⟩:=Zl o1 (k * 3+2) (by omega);clear o1 hb1 hx1 hnd hrg hm1 hGl hGm a0 a1 a2;go_wp2_with fail;have sd:=Zdx HO1.out (k * 3) (.string sx) (.slice p1 n1 q1) (.slice p2 n2 q2);have hlen:ys.length=n * 3:=HO1.out.1;have HMN:=Zae.step (O:=λw=>OMd w d) (c:=3) (λw w' cs x f h hk=>OMd.keep h hk) HM.out HYK.out K6.out HX1.out HND.out HRG.out rfl sd.1 sd.2 (λm hm=>Zbe hm) (λj hj=>ZbL (by omega) j hj);refine ⟨⟨k+1,_,_,by omega,by go_num,HMN,HM1.out.keep (sd.2.block mb (by have:=CR.out.mlt;have:=K6.out.size;omega) (by have:=HM.out.lt;simp;omega)),HOG.out.trans ((Zb3 K6.out).trans (Off.of_grown sd.2 (by simp)))⟩,by simp [intOf];omega⟩
  . obtain rfl:k=n:=by omega
    go_wp2;go_end0;exact ⟨rfl,⟨_,_,HM.out⟩,HMS.out,HOG.out⟩
theorem ZfV {F:FuncId} {cp:List Value} {ft:Int->ByteArray->ByteArray->Nat->ByteArray} {Cap:World->Prop} {d:Nat} (hE:ModR F cp ft Cap d):ModsR F cp ft Cap d:=by
 intro w N mb PL es z v cl hC hc hr hz hw;have HCK:=hid hC;have HC:=hid hc;have HR:=hid hr;have HZ:=hid hz;have HWT:=hid hw;obtain ⟨p,cap,rfl,hcl,hcm,hx⟩:=hr;have hnb:cl.length<=16777216:=(by unfold wtS at hw;omega);clear hC hc hz hw hx;unfold RV
 cases p with
 | none =>
  obtain rfl:=ZT HR.out;go_enter func47,ntmps47;go_wp2_with fail;refine (Zcp _ _).mono ?_;rintro e w2 ⟨rfl,rfl⟩;go_wp2_with fail;refine (ZcT _ _ _ _ _ _).mono ?_;rintro e w3 ⟨rfl,rfl⟩;go_wp2;go_ret;exact ⟨_,[],rfl,ZaP none 0 (Nat.zero_le _),by simp,by simp,OffB.refl _ _ _,HC.out.mp⟩
 | some a =>
  generalize hn:cl.length=n at *;have HN:=hid hn;clear hn;go_enter func47,ntmps47;go_wp2_with fail;refine (Zce _ a n cap hnb).mono ?_;rintro e w2 ⟨rfl,M,hM,hw2⟩;have K2:Hid (Bz w w2):=(by show Below _ _ _;rw [hw2];exact (sqN _ _))
  have HM0:Hid (Zae mb w w2 w.heap.size n 63 3 (λw=>OMd w d) (cl.map (mapM (fT ft) d)) 0 M.toList []):=by
   show Zae _ _ _ _ _ _ _ _ _ _ _ _;rw [hw2];exact Zae.start hM (by unfold maxLen;omega) HC.out.mlt
  have C2:=hid (HC.out.next HCK.out K2.out (sqR _));have R2:=hid (HR.out.mono (sqO K2.out) sqj (λ_ _ _ h=>h.mono (sqO K2.out) sqj));have CFL:=ZfU hE w w2 w.heap.size n N mb PL es z (.slice (some a) n cap) cl M.toList HCK.out HM0.out C2.out R2.out HN.out HZ.out HWT.out HC.out.le;unfold RV at CFL;have HCF:=hid CFL;clear CFL hw2 hM;go_wp2_with fail;refine HCF.out.mono ?_;rintro e w3 ⟨rfl,⟨ys,fps,hM3⟩,hm3,hof3⟩;obtain ⟨fp,r1,r2,r3⟩:=hM3.done (show (cl.map (mapM (fT ft) d)).length=n by rw [List.length_map];exact HN.out) (by unfold maxLen;omega);have R1:=hid r1;have RR:Hid (fp.Nodup/\∀ a ∈ fp,w.heap.size<=a/\a<w3.heap.size):=⟨r2,r3⟩;have O3:=hid hM3.off;have M3:=hid hm3;clear hM3 hm3 hof3 r1 r2 r3;go_wp2;go_ret;exact ⟨_,fp,rfl,R1.out,RR.out.1,RR.out.2,O3.out,M3.out⟩
theorem mods {F:FuncId} {cp:List Value} {ft:Int->ByteArray->ByteArray->Nat->ByteArray} {Cap:World->Prop} (hCh:ChgR F cp ft Cap) (hok:∀ k t m n,okS t->okS (ft k t m n)) (d:Nat):ModsR F cp ft Cap d:=ZfV (ZlJ (Zfs (ZlI (clauses hCh hok d))))
theorem mods1 {F:FuncId} {cp:List Value} {ft:Int->ByteArray->ByteArray->Nat->ByteArray} {Cap:World->Prop} (hCh:ChgR F cp ft Cap) (hok:∀ k t m n,okS t->okS (ft k t m n)) (d:Nat):ModR F cp ft Cap d:=ZlJ (Zfs (ZlI (clauses hCh hok d)))
end RemG
def Zmg (cs:List Value):Prop:=∃ s k,cs = [.string s,.int .i64 k]
def Zj0 (cs:List Value):Prop:=∃ s k p n q,cs = [.string s,.int .i64 k,.slice p n q]
def Zf1 (cs:List Value):Prop:=∃ s p n q p' n' q',cs = [.string s,.slice p n q,.slice p' n' q']
structure Zf2 {α:Type} (F:FuncId) (cp:List Value) (Sh:List Value->Prop) (N:Nat) (Cap:World->Prop) (H:World->List Value->α->Prop) (O:World->List Value->α->List Nat->Prop) (g:α->α) (P:α->Prop):Prop where
 ent:∀ args w,Sem.run prog (callFunc F args) w=.ok (.enter F args) w
 hnext:∀ w w' cs x,N<=w.heap.size->Below N w w'->H w cs x->H w' cs x
 cnext:∀ w w',N<=w.heap.size->Below N w w'->Cap w->Cap w'
 hsh:∀ w cs x,H w cs x->Sh cs
 osh:∀ w cs x fp,O w cs x fp->Sh cs
 keep:∀ w w' cs x fp,O w cs x fp->Zj fp w w'->O w' cs x fp
 call:∀ w cs x,N<=w.heap.size->Cap w->H w cs x->P x->Calls prog F (Value.agg cs.toArray :: cp).toArray w λe w' =>
  ∃ cs' fp,e=.returned (.agg cs'.toArray)/\O w' cs' (g x) fp/\fp.Nodup/\(∀ a ∈ fp,w.heap.size<=a/\a<w'.heap.size)/\Bz w w'
theorem Zj1 {α:Type} {F:FuncId} {cp:List Value} {N:Nat} {Cap:World->Prop} {H:World->List Value->α->Prop} {O:World->List Value->α->List Nat->Prop} {g:α->α} {P:α->Prop} (hE:Zf2 F cp Zmg N Cap H O g P)
 (w0 w:World) (G n:Nat) (v:Value) (xs:List α) (M:List Value) (hM:Made w0 w G n 84 2 O (xs.map g) 0 M []) (hC:Cap w) (hr:Rows w (λa=>a<N) 2 (H w) v xs) (hn:xs.length=n) (hnb:n<=16777216) (hNG:N<=G) (hP:∀ x ∈ xs,P x) :
 Calls prog 137 #[.slice (some ⟨G,0,none⟩) n n,v,.func (.func F) #[] cp.toArray] w λe w'=>e=.returned (.tuple #[])/\(∃ ys fps,Made w0 w' G n 84 2 O (xs.map g) n ys fps)/\Below G w w':=by
 obtain ⟨p,cap,rfl,hcl,hcm,hx⟩:=hr;rw [hn] at hcl ⊢;have HN:=hid hn;have HX:=hid hx;have HM0:=hid hM;have HC:=hid hC;have HE:=hid hE;have HPX:=hid hP;have HNG:=hid hNG;have HNW:Hid (N<=w.heap.size):=(by show _<=_;have:=hM.sz;omega);have hEN:=hE.ent;clear hx hn hM hC hE hP hNG;go_enter func137,ntmps137;go_wp2_with fail
 go_loopw [10] (λiv wr=>∃ (k:Nat) (ys:List Value) (fps:List (List Nat)),k<=n/\iv=.int .i64 k/\Hid (Made w0 wr G n 84 2 O (xs.map g) k ys fps)/\Hid (Below G w wr)) (λiv _=>n - (intOf iv).toNat)
 case atStart=>exact ⟨0,M,[],Nat.zero_le _,rfl,HM0.out,Below.refl _ _⟩
 case round =>
  obtain ⟨k,ys,fps,hk,rfl,HM,HB⟩:=hrel;by_cases hlt:k<n
  . obtain ⟨x,hxk⟩:=sqA (l:=xs) (k:=k) HN.out hlt
    obtain ⟨gr,off,rfl,hg,hgl,hat⟩:=HX.out (sqE hxk);obtain ⟨cs,hcl6,hcs,hh⟩:=hat k x hxk;obtain ⟨tS,tK,rfl⟩:=HE.out.hsh _ _ _ hh;obtain ⟨a0,a1⟩:=sqC2 hcs (by omega);rw [<-HB.out.cell (p:=⟨gr,_,none⟩) (show gr<G by have:=HNG.out;omega)] at a0 a1;clear hcs hat;simp at a0 a1;have hki:(k:Int)<(n:Int):=(by omega);have hk0:=sqI k;obtain ⟨W5,hW5⟩:∃ W5,W5=wr.alloc (.cells #[.string tS,.int .i64 tK] 84):=⟨_,rfl⟩;have K5:Hid (Bz wr W5):=(by show Below _ _ _;rw [hW5];exact (sqN _ _));have HW5:=hid hW5;have hs0:=HM.out.sz;have B5:Below N w W5:=(HB.out.mono HNG.out).trans (K5.out.mono (by have:=HNG.out;omega));have H5:=hid (HE.out.hnext w W5 _ x HNW.out B5 hh);have C5:=hid (HE.out.cnext w W5 HNW.out B5 HC.out);have N5:Hid (N<=W5.heap.size):=(by show _<=_;have:=B5.size;have:=HNW.out;omega);have HYK:Hid ((xs.map g)[k]?=some (g x)):=(by show _=_;rw [List.getElem?_map,hxk];rfl);have HPK:=hid (HPX.out x (List.mem_of_getElem? hxk));clear hW5 hcl6 hh B5 hs0;go_wp2_with fail;rw [<-HW5.out];refine (HE.out.call W5 _ x N5.out C5.out H5.out HPK.out).mono ?_;rintro e w1 ⟨cs',fp,rfl,ho,hnd,hrg,hb1⟩;obtain ⟨sS,sK,hsh⟩:=HE.out.osh _ _ _ _ ho;subst hsh;have K6:=hid (K5.out.trans (hb1.mono K5.out.size));have HO:=hid ho;have ND:Hid (fp.Nodup/\∀ a ∈ fp,wr.heap.size<=a/\a<w1.heap.size):=⟨hnd,λa ha=>⟨Nat.le_trans K5.out.size (hrg a ha).1,(hrg a ha).2⟩⟩;have hGl:=HM.out.sz;have o1:w1.ownsRow G 84 2 (.slice (some ⟨G,0,none⟩) n n) n ys:=ZaO HM.out.own (K6.out.block G (by omega));have HO1:=hid o1;have f0:=o1.frozenAt (k * 2);obtain ⟨y0,g0⟩:=Zl o1 (k * 2) (by omega);have f1:=o1.frozenAt (k * 2+1);obtain ⟨y1,g1⟩:=Zl o1 (k * 2+1) (by omega);clear o1 hb1 hGl ho hnd hrg a0 a1;go_wp2_with fail;have sd:=Zeo HO1.out (k * 2) (.string sS) (.int .i64 sK);have hlen:ys.length=n * 2:=HO1.out.1;have HMN:=Made.step (O:=O) (c:=2) HE.out.keep HM.out HYK.out K6.out HO.out ND.out.1 ND.out.2 rfl sd.1 sd.2 (λm hm=>ZbK hm) (λj hj=>Zcj (by omega) j hj);exact ⟨⟨k+1,_,_,by omega,by go_num,HMN,HB.out.trans ((K6.out.mono (by have:=HM.out.sz;omega)).trans ⟨sd.2.os,sd.2.tape,sd.2.output,sd.2.size,λj hj=>sd.2.block j (by have:=HM.out.sz;have:=K6.out.size;omega) (by simp;omega)⟩)⟩,by simp [intOf];omega⟩
  . obtain rfl:k=n:=by omega
    go_wp2;go_end0;exact ⟨rfl,⟨_,_,HM.out⟩,HB.out⟩
theorem Zj2 {α:Type} {F:FuncId} {cp:List Value} {Cap:World->Prop} {H:World->List Value->α->Prop} {O:World->List Value->α->List Nat->Prop} {g:α->α} {P:α->Prop}
 (w:World) (v:Value) (xs:List α) (hE:Zf2 F cp Zmg w.heap.size Cap H O g P) (hC:Cap w) (hr:Rows w All 2 (H w) v xs) (hw:xs.length<=16777216) (hP:∀ x ∈ xs,P x) :
 Calls prog 94 #[v,.func (.func F) #[] cp.toArray] w λe w'=>∃ u fp,e=.returned u/\Zg w' 84 2 (O w') u (xs.map g) fp/\fp.Nodup/\(∀ a ∈ fp,w.heap.size<=a/\a<w'.heap.size)/\Bz w w':=by
 have HR:=hid hr;have HC:=hid hC;have HE:=hid hE;have HPX:=hid hP;obtain ⟨p,cap,rfl,hcl,hcm,hx⟩:=hr;clear hx hC hE hP
 cases p with
 | none =>
  obtain rfl:=ZT HR.out;go_enter func94,ntmps94;go_wp2_with fail;refine (Zd4 _ _).mono ?_;rintro e w2 ⟨rfl,rfl⟩;go_wp2_with fail;refine (ZeE _ _ _ _ _ _).mono ?_;rintro e w3 ⟨rfl,rfl⟩;go_wp2;go_ret;exact ⟨_,[],rfl,ZaP none 0 (Nat.zero_le _),by simp,by simp,Below.refl _ _⟩
 | some a =>
  generalize hn:xs.length=n at *;have HN:=hid hn;clear hn;go_enter func94,ntmps94;go_wp2_with fail;refine (Zdf _ a n cap hw).mono ?_;rintro e w2 ⟨rfl,M,hM,hw2⟩;have K2:Hid (Bz w w2):=(by show Below _ _ _;rw [hw2];exact (sqN _ _))
  have HM0:Hid (Made w w2 w.heap.size n 84 2 O (xs.map g) 0 M.toList []):=by
   show Made _ _ _ _ _ _ _ _ _ _ _;rw [hw2];exact Made.start hM (by unfold maxLen;omega)
  have R2:Hid (Rows w2 (λa=>a<w.heap.size) 2 (H w2) (.slice (some a) n cap) xs):=by
   show Rows _ _ _ _ _ _;obtain ⟨p',cap',h1,h2,h3,h4⟩:=HR.out;refine ⟨p',cap',h1,h2,h3,λhne=>?_⟩;obtain ⟨g',off,h5,-,h6,h7⟩:=h4 hne;refine ⟨g',off,h5,h6,Nat.lt_of_lt_of_le h6 K2.out.size,λi x hi=>?_⟩;obtain ⟨cs,h8,h9,hh⟩:=h7 i x hi;exact ⟨cs,h8,λj hj=>(K2.out.cell (p:=⟨g',_,none⟩) h6).trans (h9 j hj),HE.out.hnext w w2 cs x (sqR _) K2.out hh⟩
  have CF:Hid (Calls prog 137 #[.slice (some ⟨w.heap.size,0,none⟩) n n,.slice (some a) n cap,.func (.func F) #[] cp.toArray] w2 λe w'=>e=.returned (.tuple #[])/\(∃ ys fps,Made w w' w.heap.size n 84 2 O (xs.map g) n ys fps)/\Below w.heap.size w2 w') :=
   Zj1 HE.out w w2 w.heap.size n _ xs M.toList HM0.out (HE.out.cnext w w2 (sqR _) K2.out HC.out) R2.out HN.out hw (sqR _) HPX.out
  clear hw2 hM;go_wp2_with fail;refine CF.out.mono ?_;rintro e w3 ⟨rfl,⟨ys,fps,hM3⟩,hb3⟩;obtain ⟨fp,r1,r2,r3⟩:=hM3.done (by rw [List.length_map];exact HN.out) (by unfold maxLen;omega);have R1:=hid r1;have RR:Hid (fp.Nodup/\∀ a ∈ fp,w.heap.size<=a/\a<w3.heap.size):=⟨r2,r3⟩;have O3:=hid hM3.below;clear hM3 hb3 r1 r2 r3;go_wp2;go_ret;exact ⟨_,fp,rfl,R1.out,RR.out.1,RR.out.2,O3.out⟩
theorem Zj3 {α:Type} {F:FuncId} {cp:List Value} {N:Nat} {Cap:World->Prop} {H:World->List Value->α->Prop} {O:World->List Value->α->List Nat->Prop} {g:α->α} {P:α->Prop} (hE:Zf2 F cp Zj0 N Cap H O g P)
 (w0 w:World) (G n:Nat) (v:Value) (xs:List α) (M:List Value) (hM:Made w0 w G n 59 3 O (xs.map g) 0 M []) (hC:Cap w) (hr:Rows w (λa=>a<N) 3 (H w) v xs) (hn:xs.length=n) (hnb:n<=16777216) (hNG:N<=G) (hP:∀ x ∈ xs,P x) :
 Calls prog 135 #[.slice (some ⟨G,0,none⟩) n n,v,.func (.func F) #[] cp.toArray] w λe w'=>e=.returned (.tuple #[])/\(∃ ys fps,Made w0 w' G n 59 3 O (xs.map g) n ys fps)/\Below G w w':=by
 obtain ⟨p,cap,rfl,hcl,hcm,hx⟩:=hr;rw [hn] at hcl ⊢;have HN:=hid hn;have HX:=hid hx;have HM0:=hid hM;have HC:=hid hC;have HE:=hid hE;have HPX:=hid hP;have HNG:=hid hNG;have HNW:Hid (N<=w.heap.size):=(by show _<=_;have:=hM.sz;omega);have hEN:=hE.ent;clear hx hn hM hC hE hP hNG;go_enter func135,ntmps135;go_wp2_with fail
 go_loopw [10] (λiv wr=>∃ (k:Nat) (ys:List Value) (fps:List (List Nat)),k<=n/\iv=.int .i64 k/\Hid (Made w0 wr G n 59 3 O (xs.map g) k ys fps)/\Hid (Below G w wr)) (λiv _=>n - (intOf iv).toNat)
 case atStart=>exact ⟨0,M,[],Nat.zero_le _,rfl,HM0.out,Below.refl _ _⟩
 case round =>
  obtain ⟨k,ys,fps,hk,rfl,HM,HB⟩:=hrel;by_cases hlt:k<n
  . obtain ⟨x,hxk⟩:=sqA (l:=xs) (k:=k) HN.out hlt
    obtain ⟨gr,off,rfl,hg,hgl,hat⟩:=HX.out (sqE hxk);obtain ⟨cs,hcl6,hcs,hh⟩:=hat k x hxk;obtain ⟨tS,tK,tP,tN,tQ,rfl⟩:=HE.out.hsh _ _ _ hh;obtain ⟨a0,a1,a2⟩:=sqC3 hcs (by omega);rw [<-HB.out.cell (p:=⟨gr,_,none⟩) (show gr<G by have:=HNG.out;omega)] at a0 a1 a2;clear hcs hat;simp at a0 a1 a2;have hki:(k:Int)<(n:Int):=(by omega);have hk0:=sqI k;obtain ⟨W5,hW5⟩:∃ W5,W5=wr.alloc (.cells #[.string tS,.int .i64 tK,.slice tP tN tQ] 59):=⟨_,rfl⟩;have K5:Hid (Bz wr W5):=(by show Below _ _ _;rw [hW5];exact (sqN _ _));have HW5:=hid hW5;have hs0:=HM.out.sz;have B5:Below N w W5:=(HB.out.mono HNG.out).trans (K5.out.mono (by have:=HNG.out;omega));have H5:=hid (HE.out.hnext w W5 _ x HNW.out B5 hh);have C5:=hid (HE.out.cnext w W5 HNW.out B5 HC.out);have N5:Hid (N<=W5.heap.size):=(by show _<=_;have:=B5.size;have:=HNW.out;omega);have HYK:Hid ((xs.map g)[k]?=some (g x)):=(by show _=_;rw [List.getElem?_map,hxk];rfl);have HPK:=hid (HPX.out x (List.mem_of_getElem? hxk));clear hW5 hcl6 hh B5 hs0;go_wp2_with fail;rw [<-HW5.out];refine (HE.out.call W5 _ x N5.out C5.out H5.out HPK.out).mono ?_;rintro e w1 ⟨cs',fp,rfl,ho,hnd,hrg,hb1⟩;obtain ⟨sS,sK,sP,sN,sQ,hsh⟩:=HE.out.osh _ _ _ _ ho;subst hsh;have K6:=hid (K5.out.trans (hb1.mono K5.out.size));have HO:=hid ho;have ND:Hid (fp.Nodup/\∀ a ∈ fp,wr.heap.size<=a/\a<w1.heap.size):=⟨hnd,λa ha=>⟨Nat.le_trans K5.out.size (hrg a ha).1,(hrg a ha).2⟩⟩;have hGl:=HM.out.sz;have o1:w1.ownsRow G 59 3 (.slice (some ⟨G,0,none⟩) n n) n ys:=ZaO HM.out.own (K6.out.block G (by omega));have HO1:=hid o1;have f0:=o1.frozenAt (k * 3);obtain ⟨y0,g0⟩:=Zl o1 (k * 3) (by omega);have f1:=o1.frozenAt (k * 3+1);obtain ⟨y1,g1⟩:=Zl o1 (k * 3+1) (by omega);have f2:=o1.frozenAt (k * 3+2);obtain ⟨y2,g2⟩:=Zl o1 (k * 3+2) (by omega);clear o1 hb1 hGl ho hnd hrg a0 a1 a2;go_wp2_with fail;have sd:=Zdx HO1.out (k * 3) (.string sS) (.int .i64 sK) (.slice sP sN sQ);have hlen:ys.length=n * 3:=HO1.out.1;have HMN:=Made.step (O:=O) (c:=3) HE.out.keep HM.out HYK.out K6.out HO.out ND.out.1 ND.out.2 rfl sd.1 sd.2 (λm hm=>Zbe hm) (λj hj=>ZbL (by omega) j hj);exact ⟨⟨k+1,_,_,by omega,by go_num,HMN,HB.out.trans ((K6.out.mono (by have:=HM.out.sz;omega)).trans ⟨sd.2.os,sd.2.tape,sd.2.output,sd.2.size,λj hj=>sd.2.block j (by have:=HM.out.sz;have:=K6.out.size;omega) (by simp;omega)⟩)⟩,by simp [intOf];omega⟩
  . obtain rfl:k=n:=by omega
    go_wp2;go_end0;exact ⟨rfl,⟨_,_,HM.out⟩,HB.out⟩
theorem Zj4 {α:Type} {F:FuncId} {cp:List Value} {Cap:World->Prop} {H:World->List Value->α->Prop} {O:World->List Value->α->List Nat->Prop} {g:α->α} {P:α->Prop}
 (w:World) (v:Value) (xs:List α) (hE:Zf2 F cp Zj0 w.heap.size Cap H O g P) (hC:Cap w) (hr:Rows w All 3 (H w) v xs) (hw:xs.length<=16777216) (hP:∀ x ∈ xs,P x) :
 Calls prog 91 #[v,.func (.func F) #[] cp.toArray] w λe w'=>∃ u fp,e=.returned u/\Zg w' 59 3 (O w') u (xs.map g) fp/\fp.Nodup/\(∀ a ∈ fp,w.heap.size<=a/\a<w'.heap.size)/\Bz w w':=by
 have HR:=hid hr;have HC:=hid hC;have HE:=hid hE;have HPX:=hid hP;obtain ⟨p,cap,rfl,hcl,hcm,hx⟩:=hr;clear hx hC hE hP
 cases p with
 | none =>
  obtain rfl:=ZT HR.out;go_enter func91,ntmps91;go_wp2_with fail;refine (Zd3 _ _).mono ?_;rintro e w2 ⟨rfl,rfl⟩;go_wp2_with fail;refine (ZeD _ _ _ _ _ _).mono ?_;rintro e w3 ⟨rfl,rfl⟩;go_wp2;go_ret;exact ⟨_,[],rfl,ZaP none 0 (Nat.zero_le _),by simp,by simp,Below.refl _ _⟩
 | some a =>
  generalize hn:xs.length=n at *;have HN:=hid hn;clear hn;go_enter func91,ntmps91;go_wp2_with fail;refine (Zde _ a n cap hw).mono ?_;rintro e w2 ⟨rfl,M,hM,hw2⟩;have K2:Hid (Bz w w2):=(by show Below _ _ _;rw [hw2];exact (sqN _ _))
  have HM0:Hid (Made w w2 w.heap.size n 59 3 O (xs.map g) 0 M.toList []):=by
   show Made _ _ _ _ _ _ _ _ _ _ _;rw [hw2];exact Made.start hM (by unfold maxLen;omega)
  have R2:Hid (Rows w2 (λa=>a<w.heap.size) 3 (H w2) (.slice (some a) n cap) xs):=by
   show Rows _ _ _ _ _ _;obtain ⟨p',cap',h1,h2,h3,h4⟩:=HR.out;refine ⟨p',cap',h1,h2,h3,λhne=>?_⟩;obtain ⟨g',off,h5,-,h6,h7⟩:=h4 hne;refine ⟨g',off,h5,h6,Nat.lt_of_lt_of_le h6 K2.out.size,λi x hi=>?_⟩;obtain ⟨cs,h8,h9,hh⟩:=h7 i x hi;exact ⟨cs,h8,λj hj=>(K2.out.cell (p:=⟨g',_,none⟩) h6).trans (h9 j hj),HE.out.hnext w w2 cs x (sqR _) K2.out hh⟩
  have CF:Hid (Calls prog 135 #[.slice (some ⟨w.heap.size,0,none⟩) n n,.slice (some a) n cap,.func (.func F) #[] cp.toArray] w2 λe w'=>e=.returned (.tuple #[])/\(∃ ys fps,Made w w' w.heap.size n 59 3 O (xs.map g) n ys fps)/\Below w.heap.size w2 w') :=
   Zj3 HE.out w w2 w.heap.size n _ xs M.toList HM0.out (HE.out.cnext w w2 (sqR _) K2.out HC.out) R2.out HN.out hw (sqR _) HPX.out
  clear hw2 hM;go_wp2_with fail;refine CF.out.mono ?_;rintro e w3 ⟨rfl,⟨ys,fps,hM3⟩,hb3⟩;obtain ⟨fp,r1,r2,r3⟩:=hM3.done (by rw [List.length_map];exact HN.out) (by unfold maxLen;omega);have R1:=hid r1;have RR:Hid (fp.Nodup/\∀ a ∈ fp,w.heap.size<=a/\a<w3.heap.size):=⟨r2,r3⟩;have O3:=hid hM3.below;clear hM3 hb3 r1 r2 r3;go_wp2;go_ret;exact ⟨_,fp,rfl,R1.out,RR.out.1,RR.out.2,O3.out⟩
theorem ZgW {α:Type} {F:FuncId} {cp:List Value} {N:Nat} {Cap:World->Prop} {H:World->List Value->α->Prop} {O:World->List Value->α->List Nat->Prop} {g:α->α} {P:α->Prop} (hE:Zf2 F cp Zf1 N Cap H O g P)
 (w0 w:World) (G n:Nat) (v:Value) (xs:List α) (M:List Value) (hM:Made w0 w G n 63 3 O (xs.map g) 0 M []) (hC:Cap w) (hr:Rows w (λa=>a<N) 3 (H w) v xs) (hn:xs.length=n) (hnb:n<=16777216) (hNG:N<=G) (hP:∀ x ∈ xs,P x) :
 Calls prog 88 #[.slice (some ⟨G,0,none⟩) n n,v,.func (.func F) #[] cp.toArray] w λe w'=>e=.returned (.tuple #[])/\(∃ ys fps,Made w0 w' G n 63 3 O (xs.map g) n ys fps)/\Below G w w':=by
 obtain ⟨p,cap,rfl,hcl,hcm,hx⟩:=hr;rw [hn] at hcl ⊢;have HN:=hid hn;have HX:=hid hx;have HM0:=hid hM;have HC:=hid hC;have HE:=hid hE;have HPX:=hid hP;have HNG:=hid hNG;have HNW:Hid (N<=w.heap.size):=(by show _<=_;have:=hM.sz;omega);have hEN:=hE.ent;clear hx hn hM hC hE hP hNG;go_enter func88,ntmps88;go_wp2_with fail
 go_loopw [10] (λiv wr=>∃ (k:Nat) (ys:List Value) (fps:List (List Nat)),k<=n/\iv=.int .i64 k/\Hid (Made w0 wr G n 63 3 O (xs.map g) k ys fps)/\Hid (Below G w wr)) (λiv _=>n - (intOf iv).toNat)
 case atStart=>exact ⟨0,M,[],Nat.zero_le _,rfl,HM0.out,Below.refl _ _⟩
 case round =>
  obtain ⟨k,ys,fps,hk,rfl,HM,HB⟩:=hrel;by_cases hlt:k<n
  . obtain ⟨x,hxk⟩:=sqA (l:=xs) (k:=k) HN.out hlt
    obtain ⟨gr,off,rfl,hg,hgl,hat⟩:=HX.out (sqE hxk);obtain ⟨cs,hcl6,hcs,hh⟩:=hat k x hxk;obtain ⟨tS,tP,tN,tQ,tR,tM,tU,rfl⟩:=HE.out.hsh _ _ _ hh;obtain ⟨a0,a1,a2⟩:=sqC3 hcs (by omega);rw [<-HB.out.cell (p:=⟨gr,_,none⟩) (show gr<G by have:=HNG.out;omega)] at a0 a1 a2;clear hcs hat;simp at a0 a1 a2;have hki:(k:Int)<(n:Int):=(by omega);have hk0:=sqI k;obtain ⟨W5,hW5⟩:∃ W5,W5=wr.alloc (.cells #[.string tS,.slice tP tN tQ,.slice tR tM tU] 63):=⟨_,rfl⟩;have K5:Hid (Bz wr W5):=(by show Below _ _ _;rw [hW5];exact (sqN _ _));have HW5:=hid hW5;have hs0:=HM.out.sz;have B5:Below N w W5:=(HB.out.mono HNG.out).trans (K5.out.mono (by have:=HNG.out;omega));have H5:=hid (HE.out.hnext w W5 _ x HNW.out B5 hh);have C5:=hid (HE.out.cnext w W5 HNW.out B5 HC.out);have N5:Hid (N<=W5.heap.size):=(by show _<=_;have:=B5.size;have:=HNW.out;omega);have HYK:Hid ((xs.map g)[k]?=some (g x)):=(by show _=_;rw [List.getElem?_map,hxk];rfl);have HPK:=hid (HPX.out x (List.mem_of_getElem? hxk));clear hW5 hcl6 hh B5 hs0;go_wp2_with fail;rw [<-HW5.out];refine (HE.out.call W5 _ x N5.out C5.out H5.out HPK.out).mono ?_;rintro e w1 ⟨cs',fp,rfl,ho,hnd,hrg,hb1⟩;obtain ⟨sS,sP,sN,sQ,sR,sM,sU,hsh⟩:=HE.out.osh _ _ _ _ ho;subst hsh;have K6:=hid (K5.out.trans (hb1.mono K5.out.size));have HO:=hid ho;have ND:Hid (fp.Nodup/\∀ a ∈ fp,wr.heap.size<=a/\a<w1.heap.size):=⟨hnd,λa ha=>⟨Nat.le_trans K5.out.size (hrg a ha).1,(hrg a ha).2⟩⟩;have hGl:=HM.out.sz;have o1:w1.ownsRow G 63 3 (.slice (some ⟨G,0,none⟩) n n) n ys:=ZaO HM.out.own (K6.out.block G (by omega));have HO1:=hid o1;have f0:=o1.frozenAt (k * 3);obtain ⟨y0,g0⟩:=Zl o1 (k * 3) (by omega);have f1:=o1.frozenAt (k * 3+1);obtain ⟨y1,g1⟩:=Zl o1 (k * 3+1) (by omega);have f2:=o1.frozenAt (k * 3+2);obtain ⟨y2,g2⟩:=Zl o1 (k * 3+2) (by omega);clear o1 hb1 hGl ho hnd hrg a0 a1 a2;go_wp2_with fail;have sd:=Zdx HO1.out (k * 3) (.string sS) (.slice sP sN sQ) (.slice sR sM sU);have hlen:ys.length=n * 3:=HO1.out.1;have HMN:=Made.step (O:=O) (c:=3) HE.out.keep HM.out HYK.out K6.out HO.out ND.out.1 ND.out.2 rfl sd.1 sd.2 (λm hm=>Zbe hm) (λj hj=>ZbL (by omega) j hj);exact ⟨⟨k+1,_,_,by omega,by go_num,HMN,HB.out.trans ((K6.out.mono (by have:=HM.out.sz;omega)).trans ⟨sd.2.os,sd.2.tape,sd.2.output,sd.2.size,λj hj=>sd.2.block j (by have:=HM.out.sz;have:=K6.out.size;omega) (by simp;omega)⟩)⟩,by simp [intOf];omega⟩
  . obtain rfl:k=n:=by omega
    go_wp2;go_end0;exact ⟨rfl,⟨_,_,HM.out⟩,HB.out⟩
theorem ZgX {α:Type} {F:FuncId} {cp:List Value} {Cap:World->Prop} {H:World->List Value->α->Prop} {O:World->List Value->α->List Nat->Prop} {g:α->α} {P:α->Prop}
 (w:World) (v:Value) (xs:List α) (hE:Zf2 F cp Zf1 w.heap.size Cap H O g P) (hC:Cap w) (hr:Rows w All 3 (H w) v xs) (hw:xs.length<=16777216) (hP:∀ x ∈ xs,P x) :
 Calls prog 47 #[v,.func (.func F) #[] cp.toArray] w λe w'=>∃ u fp,e=.returned u/\Zg w' 63 3 (O w') u (xs.map g) fp/\fp.Nodup/\(∀ a ∈ fp,w.heap.size<=a/\a<w'.heap.size)/\Bz w w':=by
 have HR:=hid hr;have HC:=hid hC;have HE:=hid hE;have HPX:=hid hP;obtain ⟨p,cap,rfl,hcl,hcm,hx⟩:=hr;clear hx hC hE hP
 cases p with
 | none =>
  obtain rfl:=ZT HR.out;go_enter func47,ntmps47;go_wp2_with fail;refine (Zcp _ _).mono ?_;rintro e w2 ⟨rfl,rfl⟩;go_wp2_with fail;refine (ZcT _ _ _ _ _ _).mono ?_;rintro e w3 ⟨rfl,rfl⟩;go_wp2;go_ret;exact ⟨_,[],rfl,ZaP none 0 (Nat.zero_le _),by simp,by simp,Below.refl _ _⟩
 | some a =>
  generalize hn:xs.length=n at *;have HN:=hid hn;clear hn;go_enter func47,ntmps47;go_wp2_with fail;refine (Zce _ a n cap hw).mono ?_;rintro e w2 ⟨rfl,M,hM,hw2⟩;have K2:Hid (Bz w w2):=(by show Below _ _ _;rw [hw2];exact (sqN _ _))
  have HM0:Hid (Made w w2 w.heap.size n 63 3 O (xs.map g) 0 M.toList []):=by
   show Made _ _ _ _ _ _ _ _ _ _ _;rw [hw2];exact Made.start hM (by unfold maxLen;omega)
  have R2:Hid (Rows w2 (λa=>a<w.heap.size) 3 (H w2) (.slice (some a) n cap) xs):=by
   show Rows _ _ _ _ _ _;obtain ⟨p',cap',h1,h2,h3,h4⟩:=HR.out;refine ⟨p',cap',h1,h2,h3,λhne=>?_⟩;obtain ⟨g',off,h5,-,h6,h7⟩:=h4 hne;refine ⟨g',off,h5,h6,Nat.lt_of_lt_of_le h6 K2.out.size,λi x hi=>?_⟩;obtain ⟨cs,h8,h9,hh⟩:=h7 i x hi;exact ⟨cs,h8,λj hj=>(K2.out.cell (p:=⟨g',_,none⟩) h6).trans (h9 j hj),HE.out.hnext w w2 cs x (sqR _) K2.out hh⟩
  have CF:Hid (Calls prog 88 #[.slice (some ⟨w.heap.size,0,none⟩) n n,.slice (some a) n cap,.func (.func F) #[] cp.toArray] w2 λe w'=>e=.returned (.tuple #[])/\(∃ ys fps,Made w w' w.heap.size n 63 3 O (xs.map g) n ys fps)/\Below w.heap.size w2 w') :=
   ZgW HE.out w w2 w.heap.size n _ xs M.toList HM0.out (HE.out.cnext w w2 (sqR _) K2.out HC.out) R2.out HN.out hw (sqR _) HPX.out
  clear hw2 hM;go_wp2_with fail;refine CF.out.mono ?_;rintro e w3 ⟨rfl,⟨ys,fps,hM3⟩,hb3⟩;obtain ⟨fp,r1,r2,r3⟩:=hM3.done (by rw [List.length_map];exact HN.out) (by unfold maxLen;omega);have R1:=hid r1;have RR:Hid (fp.Nodup/\∀ a ∈ fp,w.heap.size<=a/\a<w3.heap.size):=⟨r2,r3⟩;have O3:=hid hM3.below;clear hM3 hb3 r1 r2 r3;go_wp2;go_ret;exact ⟨_,fp,rfl,R1.out,RR.out.1,RR.out.2,O3.out⟩
end
end Go.Proofs.YtdhlonogmnkemaaGreatDoor
