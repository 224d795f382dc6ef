/-
  OpenMap RemBase RemShape RemRefs
-/
import Derived.Test.YtbdhpganbbandaaGreatDoorP03
set_option maxHeartbeats 16000000
set_option linter.unusedVariables false
set_option maxRecDepth 100000
namespace Go.Proofs.YtbdhpganbbandaaGreatDoor
open Go.ChangeShapes Go.WideShapes Go.ChangeAt Go.RowKit
section
def keyV (a:Addr) (n:Nat):Value:=.agg #[.pointer (some a),.int .i64 n]
def PlainAt (w:World) (g:Nat):Prop:=∃ cs t,w.heap[g]?=some (.cells cs t (0,0))
def MapSt (w:World) (mb:Nat) (es:Array MapEntry):Prop:=∃ clock,w.heap[mb]?=some (.map es clock)
def KeyNot (w:World) (es:List MapEntry) (a:Addr) (n:Nat):Prop:=∀ e ∈ es,∃ a' n',e.key=keyV a' n'/\PlainAt w a'.block/\¬ (a'=a/\n'=n)
theorem extU:Tryz.prog.underlying 145=some (.struct (Tryz.prog.fieldsOf 145)):=by kernel_rfl
theorem extH:Tryz.prog.stoodInHeld 145=false:=by kernel_rfl
theorem expI:(Tryz.prog.info? 74).map (·.size)=some 6:=by kernel_rfl
theorem run_ptr {w:World} {a b:Addr} (ha:PlainAt w a.block) (hb:PlainAt w b.block) (d:Nat):(Op.equalIn (d+1) 143 (.pointer (some a)) (.pointer (some b))).run Tryz.prog w=.ok (decide (a=b)) w:=by
 obtain ⟨ca,ta,ha⟩:=ha;obtain ⟨cb,tb,hb⟩:=hb
 have hs:(Go.sizeOf 74).run Tryz.prog w=.ok 6 w:=by
  cases hi:Tryz.prog.info? 74 with
  | none=>have:=expI;rw [hi] at this;cases this
  | some i =>
   have:=expI;rw [hi] at this;simp at this;simp [Go.sizeOf,typeInfo,hi,this]
 by_cases h:a=b
 . subst h
   simp [Op.equalIn,run_underlying Tryz.underlying143,hs,run_sameAddr_same]
 . simp [Op.equalIn,run_underlying Tryz.underlying143,hs,run_sameAddr_other w h ha hb,h]
theorem extE {w:World} {a b:Addr} {n m:Nat} (ha:PlainAt w a.block) (hb:PlainAt w b.block):(Op.equal 145 (keyV a n) (keyV b m)).run Tryz.prog w=.ok (decide (a=b/\n=m)) w:=by
 unfold Op.equal Op.maxDepth keyV;rw [show (10000:Nat)=9999+1 from rfl,run_equalIn_struct w 9999 _ _ _ extU extH];have h1:(Op.equalIn 9999 143 (.pointer (some a)) (.pointer (some b))).run Tryz.prog w=.ok (decide (a=b)) w:=run_ptr ha hb 9998;by_cases e1:a=b
 . subst e1
   by_cases e2:n=m
   . simp [go_sem,Program.fieldsOf,Tryz.underlying145,Tryz.underlying3,Op.eqFields,h1,e2]
   . have e3:¬ (n:Int)=(m:Int):=by omega
     simp [go_sem,Program.fieldsOf,Tryz.underlying145,Tryz.underlying3,Op.eqFields,h1,e2,e3]
 . simp [go_sem,Program.fieldsOf,Tryz.underlying145,Tryz.underlying3,Op.eqFields,h1,e1]
theorem findAsking_none {w:World} {a:Addr} {n:Nat} (ha:PlainAt w a.block):∀ (es:List MapEntry) (i:Nat),KeyNot w es a n->(Instr.findAsking 145 (keyV a n) es i).run Tryz.prog w=.ok none w
 | [],i,_=>by simp [Instr.findAsking]
 | e :: es,i,h=>by
  obtain ⟨a',n',hk,hp,hne⟩:=h e (by simp);have hd:decide (a=a'/\n=n')=false:=decide_eq_false (λh=>hne ⟨h.1.symm,h.2.symm⟩);have h1:=extE (n:=n) (m:=n') ha hp;rw [<-hk,hd] at h1;have h2:=findAsking_none ha es (i+1) (λe he=>h e (by simp [he]));simp [Instr.findAsking,h1,h2]
theorem findAsking_last {w:World} {a:Addr} {n:Nat} (ha:PlainAt w a.block) (x:MapEntry) (hx:x.key=keyV a n):∀ (es:List MapEntry) (i:Nat),KeyNot w es a n->(Instr.findAsking 145 (keyV a n) (es ++ [x]) i).run Tryz.prog w=.ok (some (i+es.length,x.val)) w
 | [],i,_=>by
  have h1:=extE (n:=n) (m:=n) ha ha;rw [<-hx] at h1;simp [Instr.findAsking,hx] at h1 ⊢;simp [h1]
 | e :: es,i,h=>by
  obtain ⟨a',n',hk,hp,hne⟩:=h e (by simp);have hd:decide (a=a'/\n=n')=false:=decide_eq_false (λh=>hne ⟨h.1.symm,h.2.symm⟩);have h1:=extE (n:=n) (m:=n') ha hp;rw [<-hk,hd] at h1;have h2:=findAsking_last ha x hx es (i+1) (λe he=>h e (by simp [he]));simp [Instr.findAsking,h1,h2];omega
theorem findNow_struct (fs:Array Field) (a:Addr) (n:Nat) (es:List MapEntry) (hk:∀ e ∈ es,∃ a' n',e.key=keyV a' n') (i:Nat) (hne:es≠[]):Instr.findNow (.struct fs) (keyV a n) es i=none:=by
 cases es with
 | nil=>exact absurd rfl hne
 | cons e es =>
  simp [Instr.findNow,Instr.sameNow]
theorem findKey_none {w:World} {a:Addr} {n:Nat} (ha:PlainAt w a.block) (es:List MapEntry) (h:KeyNot w es a n):(Instr.findKey 145 (keyV a n) es).run Tryz.prog w=.ok none w:=by
 by_cases he:es = []
 . subst he
   simp [Instr.findKey,run_underlying extU,Instr.findNow]
 . simp [Instr.findKey,run_underlying extU,findNow_struct _ a n es (λe he=>by obtain ⟨a',n',hk,-⟩:=h e he;exact ⟨a',n',hk⟩) 0 he,findAsking_none ha es 0 h]
theorem findKey_last {w:World} {a:Addr} {n:Nat} (ha:PlainAt w a.block) (es:List MapEntry) (x:MapEntry) (hx:x.key=keyV a n) (h:KeyNot w es a n):(Instr.findKey 145 (keyV a n) (es ++ [x])).run Tryz.prog w=.ok (some (es.length,x.val)) w:=by
 have hf:=findNow_struct (Tryz.prog.fieldsOf 145) a n (es ++ [x]) (λe he=>by
  rcases List.mem_append.1 he with he | he
  . obtain ⟨a',n',hk,-⟩:=h e he;exact ⟨a',n',hk⟩
  . simp at he;subst he;exact ⟨a,n,hx⟩) 0 (by simp)
 have h2:=findAsking_last ha x hx es 0 h;simp only [Nat.zero_add] at h2;simp [Instr.findKey,run_underlying extU,hf,h2]
theorem checkKey_ext (em:Bool) (a:Addr) (n:Nat) (w:World):(Instr.checkKey em 10000 145 (keyV a n)).run Tryz.prog w=.ok () w:=by kernel_rfl
theorem obj_map {w:World} {r:Nat} {es:Array MapEntry} {clock:Nat} (hb:w.heap[r]?=some (.map es clock)):(getObj r).run Tryz.prog w=.ok (.map es clock) w:=by simp [getObj,Sem.run,hb]
theorem set_map {w:World} {r:Nat} {es:Array MapEntry} {clock:Nat} (o:Obj) (hb:w.heap[r]?=some (.map es clock)):(setObj r o).run Tryz.prog w=.ok () { w with heap:=w.heap.setIfInBounds r o }:=by simp [setObj,Sem.run,hb]
theorem run_look {w:World} {mb:Nat} {es:Array MapEntry} {a:Addr} {n:Nat} (hm:MapSt w mb es) (ha:PlainAt w a.block) (h:KeyNot w es.toList a n) :
 (Instr.lookup 69 (.map (some mb)) (keyV a n) true).run Tryz.prog w=.ok (.tuple #[.slice none 0 0,.bool false]) w:=by
 obtain ⟨clock,hm⟩:=hm;simp [Instr.lookup,run_underlying Tryz.underlying69,obj_map hm,checkKey_ext,findKey_none ha _ h]
theorem run_put {w:World} {mb:Nat} {es:Array MapEntry} {clock:Nat} {a:Addr} {n:Nat} (v:Value) (hm:w.heap[mb]?=some (.map es clock)) (ha:PlainAt w a.block) (h:KeyNot w es.toList a n) :
 (Instr.mapUpdate 69 (.map (some mb)) (keyV a n) v).run Tryz.prog w=.ok () { w with heap:=w.heap.setIfInBounds mb (.map (es.push { key:=keyV a n,val:=v,born:=clock }) (clock+1)) }:=by
 simp [Instr.mapUpdate,run_underlying Tryz.underlying69,obj_map hm,checkKey_ext,findKey_none ha _ h,set_map _ hm]
theorem run_del {w:World} {mb:Nat} {es:Array MapEntry} {clock:Nat} {a:Addr} {n:Nat} (x:MapEntry) (hx:x.key=keyV a n) (hm:w.heap[mb]?=some (.map (es.push x) clock)) (ha:PlainAt w a.block) (h:KeyNot w es.toList a n) (ty:TypeId) :
 (Builtin.delete_ #[69,145] ty #[.map (some mb),keyV a n]).run Tryz.prog w=.ok (.tuple #[]) { w with heap:=w.heap.setIfInBounds mb (.map es clock) }:=by
 have hf:(Instr.findKey 145 (keyV a n) (es.push x).toList).run Tryz.prog w=.ok (some (es.size,x.val)) w:=by
  have:=findKey_last ha es.toList x hx h
  simpa using this
 have he:(es.push x).eraseIdxIfInBounds es.size=es:=by
  apply Array.toList_inj.1
  simp only [Array.eraseIdxIfInBounds,Array.size_push,Nat.lt_succ_self,dite_true,Array.toList_eraseIdx,Array.toList_push];rw [List.eraseIdx_append_of_length_le (by simp)];simp
 simp only [Builtin.delete_];simp [run_underlying Tryz.underlying69,obj_map hm,checkKey_ext];simp only [Array.toList_push] at hf;simp [hf,set_map _ hm,he]
section
variable {P:Program} {ops:Array Oper} {rest:List Oper} {o:Oper} {a:Act} {Q:Exit->Act->World->Prop}
theorem wpList_lookup_run (w:World) (hg:o.guard=none) (m x:Operand) (t:TypeId) (hop:o.op=Op.lookup t m x true) (mv key v:Value) (hm:a.eval m=mv) (hx:a.eval x=key)
 (hrun:(Instr.lookup t mv key true).run P w=.ok v w) (hK:wpList P ops Q rest (a.put o.dst v) w):wpList P ops Q (o :: rest) a w:=by
 refine wpList_plain hg λK' hK'=>?_;unfold Oper.wp;simp [execOp,hop,hm,hx,hrun,Result.andThen];exact hK' _ _ hK
theorem wpList_mapUpdate_run (w w':World) (hg:o.guard=none) (m x v:Operand) (t:TypeId) (hop:o.op=Op.mapUpdate t m x v) (mv key val:Value) (hm:a.eval m=mv) (hx:a.eval x=key) (hv:a.eval v=val)
 (hrun:(Instr.mapUpdate t mv key val).run P w=.ok () w') (hK:wpList P ops Q rest (a.put o.dst undef) w'):wpList P ops Q (o :: rest) a w:=by
 refine wpList_plain hg λK' hK'=>?_;unfold Oper.wp;simp [execOp,hop,hm,hx,hv,hrun,Result.andThen];exact hK' _ _ hK
theorem wpList_delete_run (w w':World) (hg:o.guard=none) (m x:Operand) (t k:TypeId) (hop:o.op=Op.call { callee:=Callee.builtin Builtin.delete,args:=#[m,x],argTypes:=#[t,k] }) (mv key:Value) (hm:a.eval m=mv) (hx:a.eval x=key)
 (hrun:(Builtin.delete_ #[t,k] o.type #[mv,key]).run P w=.ok (.tuple #[]) w') (hK:wpList P ops Q rest (a.put o.dst (.tuple #[])) w'):wpList P ops Q (o :: rest) a w:=by
 refine wpList_plain hg λK' hK'=>?_;unfold Oper.wp;simp [execOp,hop,resolve,invoke,builtin,hm,hx,hrun,Result.andThen];exact hK' _ _ hK
end
theorem offB_put (w:World) (mb:Nat) (ob:Obj) (N:Nat):OffB mb N w { w with heap:=w.heap.setIfInBounds mb ob } :=
 ⟨rfl,rfl,rfl,by simp,λk _ hk=>by simp [Ne.symm hk]⟩
theorem put_at {w:World} {mb:Nat} {o:Obj} (ob:Obj) (h:w.heap[mb]?=some o):({ w with heap:=w.heap.setIfInBounds mb ob }:World).heap[mb]?=some ob:=by
 have:=(Array.getElem?_eq_some_iff.1 h).1;simp [this]
theorem PlainAt.off {w w':World} {mb N g:Nat} (h:PlainAt w g) (ho:OffB mb N w w') (hN:g<N) (hne:g≠mb):PlainAt w' g:=by
 obtain ⟨cs,t,h⟩:=h;exact ⟨cs,t,(ho.block g hN hne).trans h⟩
def Plain (w:World) (N mb:Nat) (PL:Nat->Prop):Prop:=∀ g,PL g->g<N/\g≠mb/\PlainAt w g
theorem Plain.off {w w':World} {N N' mb:Nat} {PL:Nat->Prop} (h:Plain w N mb PL) (ho:OffB mb N' w w') (hN:N<=N'):Plain w' N mb PL :=
 λg hg=>⟨(h g hg).1,(h g hg).2.1,(h g hg).2.2.off ho (Nat.lt_of_lt_of_le (h g hg).1 hN) (h g hg).2.1⟩
theorem Plain.same {w w':World} {N N' mb:Nat} {PL:Nat->Prop} (h:Plain w N mb PL) (ho:OffB mb N' w w') (hN:N<=N'):SameOn PL w w' :=
 ho.same (λg hg=>⟨Nat.lt_of_lt_of_le (h g hg).1 hN,(h g hg).2.1⟩)
def KeysIn (w:World) (PL:Nat->Prop) (es:Array MapEntry) (z:Nat):Prop :=
 ∀ e ∈ es.toList,∃ (a:Addr) (n q d:Nat) (ys:List Ex),e.key=keyV a n/\ys≠[]/\Rows w PL 6 (HEx w PL d) (.slice (some a) n q) ys/\z<SizeOf.sizeOf ys
theorem KeysIn.mono {w w':World} {PL:Nat->Prop} {es:Array MapEntry} {z z':Nat} (h:KeysIn w PL es z) (hs:SameOn PL w w') (hz:z'<=z):KeysIn w' PL es z':=λe he=>by
 obtain ⟨a,n,q,d,ys,h1,h2,h3,h4⟩:=h e he;exact ⟨a,n,q,d,ys,h1,h2,h3.mono hs sqj (λ_ _ _ h=>h.mono hs sqj),Nat.lt_of_le_of_lt hz h4⟩
theorem rows_first {α:Type} {w:World} {S:Nat->Prop} {c n q:Nat} {R:List Value->α->Prop} {a:Addr} {xs:List α} (h:Rows w S c R (.slice (some a) n q) xs) (hne:xs≠[]):S a.block:=by
 obtain ⟨p,cap,hv,-,-,hx⟩:=h;obtain ⟨g,off,hp,hS,-⟩:=hx hne;simp only [Value.slice.injEq] at hv;rw [hp] at hv;simp only [Option.some.injEq] at hv;rw [hv.1];exact hS
theorem KeysIn.not {w:World} {N mb:Nat} {PL:Nat->Prop} {es:Array MapEntry} {z:Nat} (h:KeysIn w PL es z) (hP:Plain w N mb PL) {a:Addr} {n q d:Nat} {xs:List Ex} (hr:Rows w PL 6 (HEx w PL d) (.slice (some a) n q) xs) (hz:SizeOf.sizeOf xs<=z):KeyNot w es.toList a n:=λe he=>by
 obtain ⟨a',n',q',d',ys,h1,h2,h3,h4⟩:=h e he;refine ⟨a',n',h1,(hP _ (rows_first h3 h2)).2.2,?_⟩;rintro ⟨rfl,rfl⟩;have:xs=ys:=rows_uniq (λcs x x' h h'=>HEx.uniq cs x x' h h') hr h3;subst this;omega
theorem KeysIn.push {w:World} {PL:Nat->Prop} {es:Array MapEntry} {z z':Nat} (h:KeysIn w PL es z) (hz:z'<=z) {a:Addr} {n q d:Nat} {xs:List Ex} (hne:xs≠[]) (hr:Rows w PL 6 (HEx w PL d) (.slice (some a) n q) xs) (hx:z'<SizeOf.sizeOf xs) (v:Value) (b:Nat):KeysIn w PL (es.push { key:=keyV a n,val:=v,born:=b }) z':=λe he=>by
 simp only [Array.toList_push,List.mem_append,List.mem_singleton] at he
 rcases he with he | rfl
 . obtain ⟨a',n',q',d',ys,h1,h2,h3,h4⟩:=h e he
   exact ⟨a',n',q',d',ys,h1,h2,h3,by omega⟩
 . exact ⟨a,n,q,d,xs,rfl,hne,hr,hx⟩
theorem KeysIn.none (w:World) (PL:Nat->Prop) (z:Nat):KeysIn w PL #[] z:=λe he=>by simp at he
end
section
open Go.Proofs.Tryz
structure Ctx (Cap:World->Prop) (w:World) (N mb:Nat) (PL:Nat->Prop) (es:Array MapEntry) (z:Nat):Prop where
 pl:Plain w N mb PL
 mp:MapSt w mb es
 ks:KeysIn w PL es z
 lt:mb<N
 le:N<=w.heap.size
 cap:Cap w
def CapK (Cap:World->Prop) (N mb:Nat):Prop:=∀ w w',OffB mb N w w'->Cap w->Cap w'
def ResM (w:World) (mb:Nat) (es:Array MapEntry) (O:World->Value->List Nat->Prop) (e:Ending) (w':World):Prop :=
 ∃ u fp,e=.returned u/\O w' u fp/\fp.Nodup/\(∀ a ∈ fp,w.heap.size<=a/\a<w'.heap.size)/\OffB mb w.heap.size w w'/\MapSt w' mb es
theorem MapSt.keep {w w':World} {mb:Nat} {es:Array MapEntry} (h:MapSt w mb es) (he:w'.heap[mb]?=w.heap[mb]?):MapSt w' mb es:=by
 obtain ⟨c,h⟩:=h;exact ⟨c,he.trans h⟩
theorem Ctx.off {Cap:World->Prop} {w w':World} {N N' mb:Nat} {PL:Nat->Prop} {es:Array MapEntry} {z z':Nat} (h:Ctx Cap w N mb PL es z) (hC:CapK Cap N mb) (ho:OffB mb N' w w') (hN:N<=N') (hm:MapSt w' mb es) (hz:z'<=z):Ctx Cap w' N mb PL es z' :=
 ⟨h.pl.off ho hN,hm,h.ks.mono (h.pl.same ho hN) hz,h.lt,Nat.le_trans h.le ho.size,hC _ _ (ho.mono hN) h.cap⟩
theorem Ctx.next {Cap:World->Prop} {w w':World} {N mb:Nat} {PL:Nat->Prop} {es:Array MapEntry} {z z':Nat} (h:Ctx Cap w N mb PL es z) (hC:CapK Cap N mb) (hb:Bz w w') (hz:z'<=z):Ctx Cap w' N mb PL es z' :=
 h.off hC (OffB.of_below hb) h.le (h.mp.keep (hb.block mb (by have:=h.lt;have:=h.le;omega))) hz
theorem Ctx.same {Cap:World->Prop} {w w':World} {N N' mb:Nat} {PL:Nat->Prop} {es:Array MapEntry} {z:Nat} (h:Ctx Cap w N mb PL es z) (ho:OffB mb N' w w') (hN:N<=N'):SameOn PL w w':=h.pl.same ho hN
theorem Ctx.mlt {Cap:World->Prop} {w:World} {N mb:Nat} {PL:Nat->Prop} {es:Array MapEntry} {z:Nat} (h:Ctx Cap w N mb PL es z):mb<w.heap.size:=by
 have:=h.lt;have:=h.le;omega
theorem OffB.cellAt {b N:Nat} {u v:World} (h:OffB b N u v) {p:Addr} (hN:p.block<N) (hne:p.block≠b):v.cell? p=u.cell? p:=sqK (h.block p.block hN hne)
theorem ownsG_blk {w w':World} {B G n cap c:Nat} {e:TypeId} {xs:List Value} (h:w.ownsRow B e c (.slice (some ⟨G,0,none⟩) n cap) n xs) (hk:w'.heap[G]?=w.heap[G]?):w'.ownsRow B e c (.slice (some ⟨G,0,none⟩) n cap) n xs:=by
 refine ⟨h.1,?_⟩
 rcases h.2 with hn | ⟨g',cap',cur,hv',hb,hg,hr⟩
 . exact .inl hn
 . have:g'=G:=by simp at hv';exact hv'.1.symm
   subst this;exact .inr ⟨g',cap',cur,hv',hb,hk.trans hg,hr⟩
theorem MadeB.next {α:Type} {b:Nat} {w wr w1:World} {G n c k:Nat} {e:TypeId} {O:World->List Value->α->List Nat->Prop} {es:List α} {xs:List Value} {fps:List (List Nat)}
 (hO:∀ w w' cs x f,O w cs x f->KeepOn f w w'->O w' cs x f) (h:MadeB b w wr G n e c O es k xs fps) (ho:OffB b wr.heap.size wr w1):MadeB b w w1 G n e c O es k xs fps:=by
 have h1:=h.sz;have h2:=h.lt;have h3:=ho.size;refine ⟨ownsG_blk h.own (ho.block G (by omega) (by omega)),h.len,h.nd,λa ha=>?_,λi x f hx hf=>?_,h.off.trans (ho.mono (by omega)),by omega,h2⟩
 . have:=h.rng a ha;omega
 . obtain ⟨cs,g1,g2,g3⟩:=h.el i x f hx hf
   refine ⟨cs,g1,g2,hO _ _ _ _ _ g3 (λa ha=>?_)⟩;have:=h.rng a (List.mem_flatten.2 ⟨f,List.mem_of_getElem? hf,ha⟩);exact ho.block a this.2 (by omega)
theorem blankExp_nil (w:World) (c:Nat):Calls prog 93 #[.slice none 0 c] w λe w'=>e=.returned (.slice none 0 0)/\w'=w:=by
 have e0:Sem.run prog (binOp .eql 141 (.slice none 0 c) (.slice none 0 0)) w=.ok (.bool true) w:=(by kernel_rfl);go_enter func93,ntmps93;go_wp2;go_ret;exact ⟨rfl,rfl⟩
theorem blankExp_some (w:World) (a:Addr) (n c:Nat) (hn:n<=16777216):Calls prog 93 #[.slice (some a) n c] w λe w'=>e=.returned (.slice (some ⟨w.heap.size,0,none⟩) n n)/\∃ M:Array Value,M.size=n * 6/\w'=w.alloc (.cells M 74):=by
 obtain ⟨M,hM,hmk⟩:=make_row (t:=141) (e:=74) (c:=6) underlying141 (by kernel_rfl) w n hn;have e0:Sem.run prog (binOp .eql 141 (.slice (some a) n c) (.slice none 0 0)) w=.ok (.bool false) w:=(by kernel_rfl);go_enter func93,ntmps93;go_wp2;go_ret;exact ⟨rfl,M,hM,rfl⟩
theorem blankClause_nil (w:World) (c:Nat):Calls prog 154 #[.slice none 0 c] w λe w'=>e=.returned (.slice none 0 0)/\w'=w:=by
 have e0:Sem.run prog (binOp .eql 171 (.slice none 0 c) (.slice none 0 0)) w=.ok (.bool true) w:=(by kernel_rfl);go_enter func154,ntmps154;go_wp2;go_ret;exact ⟨rfl,rfl⟩
theorem blankClause_some (w:World) (a:Addr) (n c:Nat) (hn:n<=16777216):Calls prog 154 #[.slice (some a) n c] w λe w'=>e=.returned (.slice (some ⟨w.heap.size,0,none⟩) n n)/\∃ M:Array Value,M.size=n * 2/\w'=w.alloc (.cells M 44):=by
 obtain ⟨M,hM,hmk⟩:=make_row (t:=171) (e:=44) (c:=2) underlying171 (by kernel_rfl) w n hn;have e0:Sem.run prog (binOp .eql 171 (.slice (some a) n c) (.slice none 0 0)) w=.ok (.bool false) w:=(by kernel_rfl);go_enter func154,ntmps154;go_wp2;go_ret;exact ⟨rfl,M,hM,rfl⟩
theorem blankFun_nil (w:World) (c:Nat):Calls prog 124 #[.slice none 0 c] w λe w'=>e=.returned (.slice none 0 0)/\w'=w:=by
 have e0:Sem.run prog (binOp .eql 136 (.slice none 0 c) (.slice none 0 0)) w=.ok (.bool true) w:=(by kernel_rfl);go_enter func124,ntmps124;go_wp2;go_ret;exact ⟨rfl,rfl⟩
theorem blankFun_some (w:World) (a:Addr) (n c:Nat) (hn:n<=16777216):Calls prog 124 #[.slice (some a) n c] w λe w'=>e=.returned (.slice (some ⟨w.heap.size,0,none⟩) n n)/\∃ M:Array Value,M.size=n * 3/\w'=w.alloc (.cells M 57):=by
 obtain ⟨M,hM,hmk⟩:=make_row (t:=136) (e:=57) (c:=3) underlying136 (by kernel_rfl) w n hn;have e0:Sem.run prog (binOp .eql 136 (.slice (some a) n c) (.slice none 0 0)) w=.ok (.bool false) w:=(by kernel_rfl);go_enter func124,ntmps124;go_wp2;go_ret;exact ⟨rfl,M,hM,rfl⟩
theorem blankRef_nil (w:World) (c:Nat):Calls prog 122 #[.slice none 0 c] w λe w'=>e=.returned (.slice none 0 0)/\w'=w:=by
 have e0:Sem.run prog (binOp .eql 133 (.slice none 0 c) (.slice none 0 0)) w=.ok (.bool true) w:=(by kernel_rfl);go_enter func122,ntmps122;go_wp2;go_ret;exact ⟨rfl,rfl⟩
theorem blankRef_some (w:World) (a:Addr) (n c:Nat) (hn:n<=16777216):Calls prog 122 #[.slice (some a) n c] w λe w'=>e=.returned (.slice (some ⟨w.heap.size,0,none⟩) n n)/\∃ M:Array Value,M.size=n * 2/\w'=w.alloc (.cells M 110):=by
 obtain ⟨M,hM,hmk⟩:=make_row (t:=133) (e:=110) (c:=2) underlying133 (by kernel_rfl) w n hn;have e0:Sem.run prog (binOp .eql 133 (.slice (some a) n c) (.slice none 0 0)) w=.ok (.bool false) w:=(by kernel_rfl);go_enter func122,ntmps122;go_wp2;go_ret;exact ⟨rfl,M,hM,rfl⟩
theorem blankModule_nil (w:World) (c:Nat):Calls prog 85 #[.slice none 0 c] w λe w'=>e=.returned (.slice none 0 0)/\w'=w:=by
 have e0:Sem.run prog (binOp .eql 96 (.slice none 0 c) (.slice none 0 0)) w=.ok (.bool true) w:=(by kernel_rfl);go_enter func85,ntmps85;go_wp2;go_ret;exact ⟨rfl,rfl⟩
theorem blankModule_some (w:World) (a:Addr) (n c:Nat) (hn:n<=16777216):Calls prog 85 #[.slice (some a) n c] w λe w'=>e=.returned (.slice (some ⟨w.heap.size,0,none⟩) n n)/\∃ M:Array Value,M.size=n * 3/\w'=w.alloc (.cells M 61):=by
 obtain ⟨M,hM,hmk⟩:=make_row (t:=96) (e:=61) (c:=3) underlying96 (by kernel_rfl) w n hn;have e0:Sem.run prog (binOp .eql 96 (.slice (some a) n c) (.slice none 0 0)) w=.ok (.bool false) w:=(by kernel_rfl);go_enter func85,ntmps85;go_wp2;go_ret;exact ⟨rfl,M,hM,rfl⟩
theorem fillClause_nil (w:World) (p p':Option Addr) (c c':Nat) (bf:Value):Calls prog 155 #[.slice p 0 c,.slice p' 0 c',bf] w λe w'=>e=.returned (.tuple #[])/\w'=w:=by
 go_enter func155,ntmps155;go_wp2_with fail
 go_loopw [10] (λiv wr=>iv=.int .i64 0/\Hid (wr=w)) (λ_ _=>0)
 case atStart=>exact ⟨rfl,rfl⟩
 case round =>
  obtain ⟨rfl,hw⟩:=hrel;go_wp2;go_end0;exact ⟨rfl,hw.out⟩
theorem fillFun_nil (w:World) (p p':Option Addr) (c c':Nat) (bf:Value):Calls prog 125 #[.slice p 0 c,.slice p' 0 c',bf] w λe w'=>e=.returned (.tuple #[])/\w'=w:=by
 go_enter func125,ntmps125;go_wp2_with fail
 go_loopw [10] (λiv wr=>iv=.int .i64 0/\Hid (wr=w)) (λ_ _=>0)
 case atStart=>exact ⟨rfl,rfl⟩
 case round =>
  obtain ⟨rfl,hw⟩:=hrel;go_wp2;go_end0;exact ⟨rfl,hw.out⟩
theorem fillRef_nil (w:World) (p p':Option Addr) (c c':Nat) (bf:Value):Calls prog 123 #[.slice p 0 c,.slice p' 0 c',bf] w λe w'=>e=.returned (.tuple #[])/\w'=w:=by
 go_enter func123,ntmps123;go_wp2_with fail
 go_loopw [10] (λiv wr=>iv=.int .i64 0/\Hid (wr=w)) (λ_ _=>0)
 case atStart=>exact ⟨rfl,rfl⟩
 case round =>
  obtain ⟨rfl,hw⟩:=hrel;go_wp2;go_end0;exact ⟨rfl,hw.out⟩
theorem fillModule_nil (w:World) (p p':Option Addr) (c c':Nat) (bf:Value):Calls prog 86 #[.slice p 0 c,.slice p' 0 c',bf] w λe w'=>e=.returned (.tuple #[])/\w'=w:=by
 go_enter func86,ntmps86;go_wp2_with fail
 go_loopw [10] (λiv wr=>iv=.int .i64 0/\Hid (wr=w)) (λ_ _=>0)
 case atStart=>exact ⟨rfl,rfl⟩
 case round =>
  obtain ⟨rfl,hw⟩:=hrel;go_wp2;go_end0;exact ⟨rfl,hw.out⟩
end
theorem HEx.shapeR {w:World} {S:Nat->Prop} {d:Nat} {cs:List Value} {x:Ex} (h:HEx w S d cs x):∃ sk sn st se p1 n1 q1 p2 n2 q2,cs = [.int .i64 sk,.int .i64 sn,.string st,.string se,.slice p1 n1 q1,.slice p2 n2 q2]:=by
 cases d with
 | zero=>exact h.elim
 | succ d =>
  obtain ⟨kv,cv,rfl,-,-,-,-,⟨p,c,rfl,-⟩,⟨p',c',rfl,-⟩⟩:=h;exact ⟨_,_,_,_,_,_,_,_,_,_,rfl⟩
theorem HCl.shapeR {w:World} {S:Nat->Prop} {R:List Value->Ex->Prop} {cs:List Value} {c:Cl} (h:HCl w S R cs c):∃ p1 n1 q1 p2 n2 q2,cs = [.slice p1 n1 q1,.slice p2 n2 q2]:=by
 obtain ⟨p,b,rfl,⟨p1,c1,rfl,-⟩,⟨p2,c2,rfl,-⟩⟩:=h;exact ⟨_,_,_,_,_,_,rfl⟩
theorem OCls.shape {w:World} {O:List Value->Ex->List Nat->Prop} {cs:List Value} {c:Cl} {fp:List Nat} (h:OCl w O cs c fp):∃ p1 n1 q1 p2 n2 q2,cs = [.slice p1 n1 q1,.slice p2 n2 q2]:=by
 obtain ⟨pv,bv,f1,f2,rfl,rfl,h1,h2⟩:=h;obtain ⟨p1,c1,rfl,-⟩:=h1.shape;obtain ⟨p2,c2,rfl,-⟩:=h2.shape;exact ⟨_,_,_,_,_,_,rfl⟩
theorem offB_of_off {mb G N:Nat} {w w':World} (h:Off [mb,G] w w') (hN:N<=G) (hw:N<=w.heap.size):OffB mb N w w' :=
 ⟨h.os,h.tape,h.output,h.size,λk hk hb=>h.block k (by omega) (by simp;omega)⟩
theorem off_of_offB {mb G:Nat} {w w':World} (h:OffB mb w.heap.size w w'):Off [mb,G] w w' :=
 ⟨h.os,h.tape,h.output,h.size,λk hk hf=>h.block k hk (by simp at hf;exact hf.1)⟩
theorem rows_nil_of_none {α:Type} {w:World} {S:Nat->Prop} {c n q:Nat} {R:List Value->α->Prop} {xs:List α} (h:Rows w S c R (.slice none n q) xs):xs = []:=by
 obtain ⟨p,cap,hv,-,-,hx⟩:=h
 apply Classical.byContradiction
 intro hne;obtain ⟨g,off,hp,-⟩:=hx hne;simp only [Value.slice.injEq] at hv;rw [hp] at hv
 cases hv.1
theorem orows_nil {α:Type} {w:World} {e:TypeId} {c:Nat} {R:List Value->α->List Nat->Prop} (p:Option Addr) (q:Nat) (hq:q<=maxLen):ORows w e c R (.slice p 0 q) ([]:List α) []:=.inl ⟨rfl,rfl,p,q,rfl,hq⟩
section
open Go.Proofs.Tryz
theorem HFn.shapeR {w:World} {S:Nat->Prop} {d:Nat} {cs:List Value} {x:Fn'} (h:HFn w S d cs x):∃ t k p1 n1 q1,cs = [.string t,.int .i64 k,.slice p1 n1 q1]:=by
 obtain ⟨cv,rfl,-,-,⟨p,c,rfl,-⟩⟩:=h;exact ⟨_,_,_,_,_,rfl⟩
theorem HMd.shapeR {w:World} {S:Nat->Prop} {d:Nat} {cs:List Value} {x:Md} (h:HMd w S d cs x):∃ t p1 n1 q1 p2 n2 q2,cs = [.string t,.slice p1 n1 q1,.slice p2 n2 q2]:=by
 obtain ⟨ev,fv,rfl,-,⟨p,c,rfl,-⟩,⟨p',c',rfl,-⟩⟩:=h;exact ⟨_,_,_,_,_,_,_,rfl⟩
theorem unchangedRef_any (w:World) (s:ByteArray) (n:Int):Calls prog 88 #[.agg #[.string s,.int .i64 n]] w λe w'=>e=.returned (.agg #[.string s,.int .i64 n])/\Bz w w':=by
 have BL:Hid (∀ (cs cs':Array Value) (t t':TypeId),Bz w ((w.alloc (.cells cs t)).alloc (.cells cs' t'))):=λcs cs' t t'=>((sqN _ _)).alloc (by simp) _
 have RB:Hid (∀ (cs:Array Value) (t:TypeId),Blk ((w.alloc (.cells cs t)).alloc (.cells #[.string s,.int .i64 n] 110)) (w.heap.size+1) #[.string s,.int .i64 n] 110):=λcs t=>by
  have:=Blk.new (w:=w.alloc (.cells cs t)) (cs:=#[.string s,.int .i64 n]) (t:=110)
  rwa [alloc_hs] at this
 go_enter func88,ntmps88;go_wp2_with fail;have q0:=(RB.out #[.string s,.int .i64 n] 110).cell 0 _ rfl;have q1:=(RB.out #[.string s,.int .i64 n] 110).cell 1 _ rfl;exact bodyPost_ret (v:=.agg #[.string s,.int .i64 n]) (by simp [results,results88,go_sem,q0,q1]) rfl ⟨rfl,BL.out _ _ _ _⟩
theorem unchangedExp_any (w:World) (k n:Int) (t m:ByteArray) (p1 p2:Option Addr) (n1 q1 n2 q2:Nat):Calls prog 58 #[.agg #[.int .i64 k,.int .i64 n,.string t,.string m,.slice p1 n1 q1,.slice p2 n2 q2]] w λe w'=>e=.returned (.agg #[.int .i64 k,.int .i64 n,.string t,.string m,.slice p1 n1 q1,.slice p2 n2 q2])/\Bz w w':=by
 have BL:Hid (∀ (cs cs':Array Value) (t t':TypeId),Bz w ((w.alloc (.cells cs t)).alloc (.cells cs' t'))):=λcs cs' t t'=>((sqN _ _)).alloc (by simp) _
 have RB:Hid (∀ (cs:Array Value) (ty:TypeId),Blk ((w.alloc (.cells cs ty)).alloc (.cells #[.int .i64 k,.int .i64 n,.string t,.string m,.slice p1 n1 q1,.slice p2 n2 q2] 74)) (w.heap.size+1) #[.int .i64 k,.int .i64 n,.string t,.string m,.slice p1 n1 q1,.slice p2 n2 q2] 74):=λcs ty=>by
  have:=Blk.new (w:=w.alloc (.cells cs ty)) (cs:=#[.int .i64 k,.int .i64 n,.string t,.string m,.slice p1 n1 q1,.slice p2 n2 q2]) (t:=74)
  rwa [alloc_hs] at this
 go_enter func58,ntmps58;go_wp2_with fail;have q:=RB.out #[.int .i64 k,.int .i64 n,.string t,.string m,.slice p1 n1 q1,.slice p2 n2 q2] 74;obtain ⟨q0,q1,q2,q3,q4,q5⟩:=sqB6 q;exact bodyPost_ret (v:=.agg #[.int .i64 k,.int .i64 n,.string t,.string m,.slice p1 n1 _,.slice p2 n2 _]) (by simp [results,results58,go_sem,q0,q1,q2,q3,q4,q5]) rfl ⟨rfl,BL.out _ _ _ _⟩
theorem fillRef_any (d:Nat) (w0 w:World) (G n:Nat) (S:Nat->Prop) (v:Value) (rs:List Rf) (M:List Value) (hM:Made w0 w G n 110 2 (λw=>ORf w d) rs 0 M []) (hr:Rows w S 2 HRf v rs) (hS:∀ g,S g->g<G) (hn:rs.length=n) (hnb:n<=16777216) :
 Calls prog 123 #[.slice (some ⟨G,0,none⟩) n n,v,.func (.func 88) #[] #[]] w λe w'=>e=.returned (.tuple #[])/\(∃ ys fps,Made w0 w' G n 110 2 (λw=>ORf w d) rs n ys fps)/\Below G w w':=by
 obtain ⟨p,cap,rfl,hcl,hcm,hx⟩:=hr;rw [hn] at hcl ⊢;have HN:=hid hn;have HX:=hid hx;have HM0:=hid hM;have HS:=hid hS;clear hx hn hM hS;go_enter func123,ntmps123;go_wp2_with fail
 go_loopw [10] (λiv wr=>∃ (k:Nat) (ys:List Value) (fps:List (List Nat)),k<=n/\iv=.int .i64 k/\Hid (Made w0 wr G n 110 2 (λw=>ORf w d) rs k ys fps)/\Hid (Below G w wr)) (λiv _=>n - (intOf iv).toNat)
 case atStart=>exact ⟨0,M,[],Nat.zero_le _,rfl,HM0.out,Below.refl _ _⟩
 case round =>
  obtain ⟨k,ys,fps,hk,rfl,HM,HB⟩:=hrel;by_cases hlt:k<n
  . obtain ⟨x,hxk⟩:=sqA (l:=rs) (k:=k) HN.out hlt
    obtain ⟨g,off,rfl,hg,hgl,hat⟩:=HX.out (sqE hxk);obtain ⟨cs,hcl6,hcs,rfl,h1,h2⟩:=hat k x hxk;have HXX:Hid (ORf wr d [.string x.name,.int .i64 x.arity] x []):=⟨⟨rfl,h1,h2⟩,rfl⟩;obtain ⟨a0,a1⟩:=sqC2 hcs (by omega);rw [<-HB.out.cell (p:=⟨g,_,none⟩) (HS.out g hg)] at a0 a1;clear hcs hat;simp at a0 a1;have hki:(k:Int)<(n:Int):=(by omega);have hk0:=sqI k;obtain ⟨W5,hW5⟩:∃ W5,W5=wr.alloc (.cells #[.string x.name,.int .i64 x.arity] 110):=⟨_,rfl⟩;have K5:Hid (Bz wr W5):=(by show Below _ _ _;rw [hW5];exact (sqN _ _));have HW5:=hid hW5;clear hW5 hcl6 h1 h2;go_wp2_with fail;rw [<-HW5.out];refine (unchangedRef_any W5 x.name x.arity).mono ?_;rintro e w1 ⟨rfl,hb1⟩;have K6:=hid (K5.out.trans (hb1.mono K5.out.size));have hGl:=HM.out.sz;have o1:w1.ownsRow G 110 2 (.slice (some ⟨G,0,none⟩) n n) n ys:=ownsG_blk HM.out.own (K6.out.block G (by omega));have HO1:=hid o1;have f0:=o1.frozenAt (k * 2);obtain ⟨y0,g0⟩:=own_someR o1 (k * 2) (by omega);have f1:=o1.frozenAt (k * 2+1);obtain ⟨y1,g1⟩:=own_someR o1 (k * 2+1) (by omega);clear o1 hb1 hGl a0 a1;go_wp2_with fail;have sd:=stored2 HO1.out (k * 2) (.string x.name) (.int .i64 x.arity);have hlen:ys.length=n * 2:=HO1.out.1;have HMN:=Made.step (O:=λw=>ORf w d) (c:=2) (λw w' cs x f h hk=>h) HM.out hxk K6.out (show ORf w1 d [.string x.name,.int .i64 x.arity] x [] from HXX.out) (by simp) (by simp) rfl sd.1 sd.2 (λm hm=>set2_other hm) (λj hj=>set2_self (by omega) j hj);exact ⟨⟨k+1,_,_,by omega,by go_num,HMN,HB.out.trans ((K6.out.mono (by have:=HM.out.sz;omega)).trans ⟨sd.2.os,sd.2.tape,sd.2.output,sd.2.size,λj hj=>sd.2.block j (by have:=HM.out.sz;have:=K6.out.size;omega) (by simp;omega)⟩)⟩,by simp [intOf];omega⟩
  . obtain rfl:k=n:=by omega
    go_wp2;go_end0;exact ⟨rfl,⟨_,_,HM.out⟩,HB.out⟩
theorem eachRef_any (d:Nat) (w:World) (S:Nat->Prop) (v:Value) (rs:List Rf) (hr:Rows w S 2 HRf v rs) (hS:∀ g,S g->g<w.heap.size) (hw:rs.length<=16777216) :
 Calls prog 87 #[v,.func (.func 88) #[] #[]] w λe w'=>∃ u fp,e=.returned u/\ORows w' 110 2 (ORf w' d) u rs fp/\fp.Nodup/\(∀ a ∈ fp,w.heap.size<=a/\a<w'.heap.size)/\Bz w w':=by
 have HR:=hid hr;have HS:=hid hS;obtain ⟨p,cap,rfl,hcl,hcm,hx⟩:=hr;clear hx hS
 cases p with
 | none =>
  obtain rfl:=rows_nil_of_none HR.out;go_enter func87,ntmps87;go_wp2_with fail;refine (blankRef_nil _ _).mono ?_;rintro e w2 ⟨rfl,rfl⟩;go_wp2_with fail;refine (fillRef_nil _ _ _ _ _ _).mono ?_;rintro e w3 ⟨rfl,rfl⟩;go_wp2;go_ret;exact ⟨_,[],rfl,orows_nil none 0 (Nat.zero_le _),by simp,by simp,Below.refl _ _⟩
 | some a =>
  generalize hn:rs.length=n at *;have HN:=hid hn;clear hn;go_enter func87,ntmps87;go_wp2_with fail;refine (blankRef_some _ a n cap hw).mono ?_;rintro e w2 ⟨rfl,M,hM,hw2⟩;have K2:Hid (Bz w w2):=(by show Below _ _ _;rw [hw2];exact (sqN _ _))
  have HM0:Hid (Made w w2 w.heap.size n 110 2 (λw=>ORf w d) rs 0 M.toList []):=by
   show Made _ _ _ _ _ _ _ _ _ _ _;rw [hw2];exact Made.start hM (by unfold maxLen;omega)
  have R2:=hid (HR.out.mono ⟨K2.out.size,λg hg hl=>K2.out.block g hl⟩ sqj (λ_ _ _ h=>h));clear hw2 hM;go_wp2_with fail;refine (fillRef_any d w w2 w.heap.size n S _ rs M.toList HM0.out R2.out HS.out HN.out hw).mono ?_;rintro e w3 ⟨rfl,⟨ys,fps,hM3⟩,hb3⟩;obtain ⟨fp,r1,r2,r3⟩:=hM3.done HN.out (by unfold maxLen;omega);have R1:=hid r1;have RR:Hid (fp.Nodup/\∀ a ∈ fp,w.heap.size<=a/\a<w3.heap.size):=⟨r2,r3⟩;have O3:=hid hM3.below;clear hM3 hb3 r1 r2 r3;go_wp2;go_ret;exact ⟨_,fp,rfl,R1.out,RR.out.1,RR.out.2,O3.out⟩
end
end Go.Proofs.YtbdhpganbbandaaGreatDoor
