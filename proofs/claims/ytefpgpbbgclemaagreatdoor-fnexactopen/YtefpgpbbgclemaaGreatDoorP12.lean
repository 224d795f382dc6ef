/-
  OpenMap RemBase RemShape
-/
import Derived.Test.YtefpgpbbgclemaaGreatDoorP05
set_option maxHeartbeats 16000000
set_option linter.unusedVariables false
set_option maxRecDepth 100000
namespace Go.Proofs.YtefpgpbbgclemaaGreatDoor
open Go.ChangeShapes Go.WideShapes Go.ChangeAt Go.RowKit
section
def keyV (a:Addr) (n:Nat):Value:=.agg #[.pointer (some a),.int .i64 n]
def PlainAt (w:World) (g:Nat):Prop:=∃ cs t,w.heap[g]?=some (.cells cs t (0,0))
def MapSt (w:World) (mb:Nat) (es:Array MapEntry):Prop:=∃ clock,w.heap[mb]?=some (.map es clock)
def KeyNot (w:World) (es:List MapEntry) (a:Addr) (n:Nat):Prop:=∀ e ∈ es,∃ a' n',e.key=keyV a' n'∧PlainAt w a'.block∧¬ (a'=a∧n'=n)
theorem extU:Tryz.prog.underlying 204=some (.struct (Tryz.prog.fieldsOf 204)):=by kernel_rfl
theorem extH:Tryz.prog.stoodInHeld 204=false:=by kernel_rfl
theorem expI:(Tryz.prog.info? 79).map (·.size)=some 6:=by kernel_rfl
theorem run_ptr {w:World} {a b:Addr} (ha:PlainAt w a.block) (hb:PlainAt w b.block) (d:Nat):(Op.equalIn (d+1) 202 (.pointer (some a)) (.pointer (some b))).run Tryz.prog w=.ok (decide (a=b)) w:=by
  obtain ⟨ca,ta,ha⟩:=ha
  obtain ⟨cb,tb,hb⟩:=hb
  have hs:(Go.sizeOf 79).run Tryz.prog w=.ok 6 w:=by
    cases hi:Tryz.prog.info? 79 with
    | none=>have:=expI;rw [hi] at this;cases this
    | some i =>
      have:=expI
      rw [hi] at this
      simp at this
      simp [Go.sizeOf,typeInfo,hi,this]
  by_cases h:a=b
  · subst h
    simp [Op.equalIn,run_underlying Tryz.underlying202,hs,run_sameAddr_same]
  · simp [Op.equalIn,run_underlying Tryz.underlying202,hs,run_sameAddr_other w h ha hb,h]
theorem extE {w:World} {a b:Addr} {n m:Nat} (ha:PlainAt w a.block) (hb:PlainAt w b.block):(Op.equal 204 (keyV a n) (keyV b m)).run Tryz.prog w=.ok (decide (a=b∧n=m)) w:=by
  unfold Op.equal Op.maxDepth keyV
  rw [show (10000:Nat)=9999+1 from rfl,run_equalIn_struct w 9999 _ _ _ extU extH]
  have h1:(Op.equalIn 9999 202 (.pointer (some a)) (.pointer (some b))).run Tryz.prog w=.ok (decide (a=b)) w:=run_ptr ha hb 9998
  by_cases e1:a=b
  · subst e1
    by_cases e2:n=m
    · simp [go_sem,Program.fieldsOf,Tryz.underlying204,Tryz.underlying3,Op.eqFields,h1,e2]
    · have e3:¬ (n:Int)=(m:Int):=by omega
      simp [go_sem,Program.fieldsOf,Tryz.underlying204,Tryz.underlying3,Op.eqFields,h1,e2,e3]
  · simp [go_sem,Program.fieldsOf,Tryz.underlying204,Tryz.underlying3,Op.eqFields,h1,e1]
theorem findAsking_none {w:World} {a:Addr} {n:Nat} (ha:PlainAt w a.block):∀ (es:List MapEntry) (i:Nat),KeyNot w es a n→(Instr.findAsking 204 (keyV a n) es i).run Tryz.prog w=.ok none w
  | [],i,_=>by simp [Instr.findAsking]
  | e :: es,i,h=>by
    obtain ⟨a',n',hk,hp,hne⟩:=h e (by simp)
    have hd:decide (a=a'∧n=n')=false:=decide_eq_false (fun h=>hne ⟨h.1.symm,h.2.symm⟩)
    have h1:=extE (n:=n) (m:=n') ha hp
    rw [← hk,hd] at h1
    have h2:=findAsking_none ha es (i+1) (fun e he=>h e (by simp [he]))
    simp [Instr.findAsking,h1,h2]
theorem findAsking_last {w:World} {a:Addr} {n:Nat} (ha:PlainAt w a.block) (x:MapEntry) (hx:x.key=keyV a n):∀ (es:List MapEntry) (i:Nat),KeyNot w es a n→(Instr.findAsking 204 (keyV a n) (es ++ [x]) i).run Tryz.prog w=.ok (some (i+es.length,x.val)) w
  | [],i,_=>by
    have h1:=extE (n:=n) (m:=n) ha ha
    rw [← hx] at h1
    simp [Instr.findAsking,hx] at h1 ⊢
    simp [h1]
  | e :: es,i,h=>by
    obtain ⟨a',n',hk,hp,hne⟩:=h e (by simp)
    have hd:decide (a=a'∧n=n')=false:=decide_eq_false (fun h=>hne ⟨h.1.symm,h.2.symm⟩)
    have h1:=extE (n:=n) (m:=n') ha hp
    rw [← hk,hd] at h1
    have h2:=findAsking_last ha x hx es (i+1) (fun e he=>h e (by simp [he]))
    simp [Instr.findAsking,h1,h2]
    omega
theorem findNow_struct (fs:Array Field) (a:Addr) (n:Nat) (es:List MapEntry) (hk:∀ e ∈ es,∃ a' n',e.key=keyV a' n') (i:Nat) (hne:es≠[]):Instr.findNow (.struct fs) (keyV a n) es i=none:=by
  cases es with
  | nil=>exact absurd rfl hne
  | cons e es =>
    simp [Instr.findNow,Instr.sameNow]
theorem findKey_none {w:World} {a:Addr} {n:Nat} (ha:PlainAt w a.block) (es:List MapEntry) (h:KeyNot w es a n):(Instr.findKey 204 (keyV a n) es).run Tryz.prog w=.ok none w:=by
  by_cases he:es = []
  · subst he
    simp [Instr.findKey,run_underlying extU,Instr.findNow]
  · simp [Instr.findKey,run_underlying extU,findNow_struct _ a n es (fun e he=>by obtain ⟨a',n',hk,-⟩:=h e he;exact ⟨a',n',hk⟩) 0 he,findAsking_none ha es 0 h]
theorem findKey_last {w:World} {a:Addr} {n:Nat} (ha:PlainAt w a.block) (es:List MapEntry) (x:MapEntry) (hx:x.key=keyV a n) (h:KeyNot w es a n):(Instr.findKey 204 (keyV a n) (es ++ [x])).run Tryz.prog w=.ok (some (es.length,x.val)) w:=by
  have hf:=findNow_struct (Tryz.prog.fieldsOf 204) a n (es ++ [x]) (fun e he=>by
    rcases List.mem_append.1 he with he | he
    · obtain ⟨a',n',hk,-⟩:=h e he;exact ⟨a',n',hk⟩
    · simp at he;subst he;exact ⟨a,n,hx⟩) 0 (by simp)
  have h2:=findAsking_last ha x hx es 0 h
  simp only [Nat.zero_add] at h2
  simp [Instr.findKey,run_underlying extU,hf,h2]
theorem checkKey_ext (em:Bool) (a:Addr) (n:Nat) (w:World):(Instr.checkKey em 10000 204 (keyV a n)).run Tryz.prog w=.ok () w:=by kernel_rfl
theorem obj_map {w:World} {r:Nat} {es:Array MapEntry} {clock:Nat} (hb:w.heap[r]?=some (.map es clock)):(getObj r).run Tryz.prog w=.ok (.map es clock) w:=by simp [getObj,Sem.run,hb]
theorem set_map {w:World} {r:Nat} {es:Array MapEntry} {clock:Nat} (o:Obj) (hb:w.heap[r]?=some (.map es clock)):(setObj r o).run Tryz.prog w=.ok () { w with heap:=w.heap.setIfInBounds r o }:=by simp [setObj,Sem.run,hb]
theorem run_look {w:World} {mb:Nat} {es:Array MapEntry} {a:Addr} {n:Nat} (hm:MapSt w mb es) (ha:PlainAt w a.block) (h:KeyNot w es.toList a n) :
    (Instr.lookup 72 (.map (some mb)) (keyV a n) true).run Tryz.prog w=.ok (.tuple #[.slice none 0 0,.bool false]) w:=by
  obtain ⟨clock,hm⟩:=hm
  simp [Instr.lookup,run_underlying Tryz.underlying72,obj_map hm,checkKey_ext,findKey_none ha _ h]
theorem run_put {w:World} {mb:Nat} {es:Array MapEntry} {clock:Nat} {a:Addr} {n:Nat} (v:Value) (hm:w.heap[mb]?=some (.map es clock)) (ha:PlainAt w a.block) (h:KeyNot w es.toList a n) :
    (Instr.mapUpdate 72 (.map (some mb)) (keyV a n) v).run Tryz.prog w=.ok () { w with heap:=w.heap.setIfInBounds mb (.map (es.push { key:=keyV a n,val:=v,born:=clock }) (clock+1)) }:=by
  simp [Instr.mapUpdate,run_underlying Tryz.underlying72,obj_map hm,checkKey_ext,findKey_none ha _ h,set_map _ hm]
theorem run_del {w:World} {mb:Nat} {es:Array MapEntry} {clock:Nat} {a:Addr} {n:Nat} (x:MapEntry) (hx:x.key=keyV a n) (hm:w.heap[mb]?=some (.map (es.push x) clock)) (ha:PlainAt w a.block) (h:KeyNot w es.toList a n) (ty:TypeId) :
    (Builtin.delete_ #[72,204] ty #[.map (some mb),keyV a n]).run Tryz.prog w=.ok (.tuple #[]) { w with heap:=w.heap.setIfInBounds mb (.map es clock) }:=by
  have hf:(Instr.findKey 204 (keyV a n) (es.push x).toList).run Tryz.prog w=.ok (some (es.size,x.val)) w:=by
    have:=findKey_last ha es.toList x hx h
    simpa using this
  have he:(es.push x).eraseIdxIfInBounds es.size=es:=by
    apply Array.toList_inj.1
    simp only [Array.eraseIdxIfInBounds,Array.size_push,Nat.lt_succ_self,dite_true,Array.toList_eraseIdx,Array.toList_push]
    rw [List.eraseIdx_append_of_length_le (by simp)]
    simp
  simp only [Builtin.delete_]
  simp [run_underlying Tryz.underlying72,obj_map hm,checkKey_ext]
  simp only [Array.toList_push] at hf
  simp [hf,set_map _ hm,he]
section
variable {P:Program} {ops:Array Oper} {rest:List Oper} {o:Oper} {a:Act} {Q:Exit→Act→World→Prop}
theorem wpList_lookup_run (w:World) (hg:o.guard=none) (m x:Operand) (t:TypeId) (hop:o.op=Op.lookup t m x true) (mv key v:Value) (hm:a.eval m=mv) (hx:a.eval x=key)
    (hrun:(Instr.lookup t mv key true).run P w=.ok v w) (hK:wpList P ops Q rest (a.put o.dst v) w):wpList P ops Q (o :: rest) a w:=by
  refine wpList_plain hg fun K' hK'=>?_
  unfold Oper.wp
  simp [execOp,hop,hm,hx,hrun,Result.andThen]
  exact hK' _ _ hK
theorem wpList_mapUpdate_run (w w':World) (hg:o.guard=none) (m x v:Operand) (t:TypeId) (hop:o.op=Op.mapUpdate t m x v) (mv key val:Value) (hm:a.eval m=mv) (hx:a.eval x=key) (hv:a.eval v=val)
    (hrun:(Instr.mapUpdate t mv key val).run P w=.ok () w') (hK:wpList P ops Q rest (a.put o.dst undef) w'):wpList P ops Q (o :: rest) a w:=by
  refine wpList_plain hg fun K' hK'=>?_
  unfold Oper.wp
  simp [execOp,hop,hm,hx,hv,hrun,Result.andThen]
  exact hK' _ _ hK
theorem wpList_delete_run (w w':World) (hg:o.guard=none) (m x:Operand) (t k:TypeId) (hop:o.op=Op.call { callee:=Callee.builtin Builtin.delete,args:=#[m,x],argTypes:=#[t,k] }) (mv key:Value) (hm:a.eval m=mv) (hx:a.eval x=key)
    (hrun:(Builtin.delete_ #[t,k] o.type #[mv,key]).run P w=.ok (.tuple #[]) w') (hK:wpList P ops Q rest (a.put o.dst (.tuple #[])) w'):wpList P ops Q (o :: rest) a w:=by
  refine wpList_plain hg fun K' hK'=>?_
  unfold Oper.wp
  simp [execOp,hop,resolve,invoke,builtin,hm,hx,hrun,Result.andThen]
  exact hK' _ _ hK
end
theorem offB_put (w:World) (mb:Nat) (ob:Obj) (N:Nat):OffB mb N w { w with heap:=w.heap.setIfInBounds mb ob } :=
  ⟨rfl,rfl,rfl,by simp,fun k _ hk=>by simp [Ne.symm hk]⟩
theorem put_at {w:World} {mb:Nat} {o:Obj} (ob:Obj) (h:w.heap[mb]?=some o):({ w with heap:=w.heap.setIfInBounds mb ob }:World).heap[mb]?=some ob:=by
  have:=(Array.getElem?_eq_some_iff.1 h).1
  simp [this]
theorem PlainAt.off {w w':World} {mb N g:Nat} (h:PlainAt w g) (ho:OffB mb N w w') (hN:g<N) (hne:g≠mb):PlainAt w' g:=by
  obtain ⟨cs,t,h⟩:=h
  exact ⟨cs,t,(ho.block g hN hne).trans h⟩
def Plain (w:World) (N mb:Nat) (PL:Nat→Prop):Prop:=∀ g,PL g→g<N∧g≠mb∧PlainAt w g
theorem Plain.off {w w':World} {N N' mb:Nat} {PL:Nat→Prop} (h:Plain w N mb PL) (ho:OffB mb N' w w') (hN:N≤N'):Plain w' N mb PL :=
  fun g hg=>⟨(h g hg).1,(h g hg).2.1,(h g hg).2.2.off ho (Nat.lt_of_lt_of_le (h g hg).1 hN) (h g hg).2.1⟩
theorem Plain.same {w w':World} {N N' mb:Nat} {PL:Nat→Prop} (h:Plain w N mb PL) (ho:OffB mb N' w w') (hN:N≤N'):SameOn PL w w' :=
  ho.same (fun g hg=>⟨Nat.lt_of_lt_of_le (h g hg).1 hN,(h g hg).2.1⟩)
def KeysIn (w:World) (PL:Nat→Prop) (es:Array MapEntry) (z:Nat):Prop :=
  ∀ e ∈ es.toList,∃ (a:Addr) (n q d:Nat) (ys:List Ex),e.key=keyV a n∧ys≠[]∧Rows w PL 6 (HEx w PL d) (.slice (some a) n q) ys∧z<SizeOf.sizeOf ys
theorem KeysIn.mono {w w':World} {PL:Nat→Prop} {es:Array MapEntry} {z z':Nat} (h:KeysIn w PL es z) (hs:SameOn PL w w') (hz:z'≤z):KeysIn w' PL es z':=fun e he=>by
  obtain ⟨a,n,q,d,ys,h1,h2,h3,h4⟩:=h e he
  exact ⟨a,n,q,d,ys,h1,h2,h3.mono hs (fun _ h=>h) (fun _ _ _ h=>h.mono hs (fun _ h=>h)),Nat.lt_of_le_of_lt hz h4⟩
theorem rows_first {α:Type} {w:World} {S:Nat→Prop} {c n q:Nat} {R:List Value→α→Prop} {a:Addr} {xs:List α} (h:Rows w S c R (.slice (some a) n q) xs) (hne:xs≠[]):S a.block:=by
  obtain ⟨p,cap,hv,-,-,hx⟩:=h
  obtain ⟨g,off,hp,hS,-⟩:=hx hne
  simp only [Value.slice.injEq] at hv
  rw [hp] at hv
  simp only [Option.some.injEq] at hv
  rw [hv.1];exact hS
theorem KeysIn.not {w:World} {N mb:Nat} {PL:Nat→Prop} {es:Array MapEntry} {z:Nat} (h:KeysIn w PL es z) (hP:Plain w N mb PL) {a:Addr} {n q d:Nat} {xs:List Ex} (hr:Rows w PL 6 (HEx w PL d) (.slice (some a) n q) xs) (hz:SizeOf.sizeOf xs≤z):KeyNot w es.toList a n:=fun e he=>by
  obtain ⟨a',n',q',d',ys,h1,h2,h3,h4⟩:=h e he
  refine ⟨a',n',h1,(hP _ (rows_first h3 h2)).2.2,?_⟩
  rintro ⟨rfl,rfl⟩
  have:xs=ys:=rows_uniq (fun cs x x' h h'=>HEx.uniq cs x x' h h') hr h3
  subst this
  omega
theorem KeysIn.push {w:World} {PL:Nat→Prop} {es:Array MapEntry} {z z':Nat} (h:KeysIn w PL es z) (hz:z'≤z) {a:Addr} {n q d:Nat} {xs:List Ex} (hne:xs≠[]) (hr:Rows w PL 6 (HEx w PL d) (.slice (some a) n q) xs) (hx:z'<SizeOf.sizeOf xs) (v:Value) (b:Nat):KeysIn w PL (es.push { key:=keyV a n,val:=v,born:=b }) z':=fun e he=>by
  simp only [Array.toList_push,List.mem_append,List.mem_singleton] at he
  rcases he with he | rfl
  · obtain ⟨a',n',q',d',ys,h1,h2,h3,h4⟩:=h e he
    exact ⟨a',n',q',d',ys,h1,h2,h3,by omega⟩
  · exact ⟨a,n,q,d,xs,rfl,hne,hr,hx⟩
theorem KeysIn.none (w:World) (PL:Nat→Prop) (z:Nat):KeysIn w PL #[] z:=fun e he=>by simp at he
end
structure Ctx (Cap:World→Prop) (w:World) (N mb:Nat) (PL:Nat→Prop) (es:Array MapEntry) (z:Nat):Prop where
  pl:Plain w N mb PL
  mp:MapSt w mb es
  ks:KeysIn w PL es z
  lt:mb<N
  le:N≤w.heap.size
  cap:Cap w
def CapK (Cap:World→Prop) (N mb:Nat):Prop:=∀ w w',OffB mb N w w'→Cap w→Cap w'
def ResM (w:World) (mb:Nat) (es:Array MapEntry) (O:World→Value→List Nat→Prop) (e:Ending) (w':World):Prop :=
  ∃ u fp,e=.returned u∧O w' u fp∧fp.Nodup∧(∀ a ∈ fp,w.heap.size≤a∧a<w'.heap.size)∧OffB mb w.heap.size w w'∧MapSt w' mb es
theorem MapSt.keep {w w':World} {mb:Nat} {es:Array MapEntry} (h:MapSt w mb es) (he:w'.heap[mb]?=w.heap[mb]?):MapSt w' mb es:=by
  obtain ⟨c,h⟩:=h
  exact ⟨c,he.trans h⟩
theorem Ctx.off {Cap:World→Prop} {w w':World} {N N' mb:Nat} {PL:Nat→Prop} {es:Array MapEntry} {z z':Nat} (h:Ctx Cap w N mb PL es z) (hC:CapK Cap N mb) (ho:OffB mb N' w w') (hN:N≤N') (hm:MapSt w' mb es) (hz:z'≤z):Ctx Cap w' N mb PL es z' :=
  ⟨h.pl.off ho hN,hm,h.ks.mono (h.pl.same ho hN) hz,h.lt,Nat.le_trans h.le ho.size,hC _ _ (ho.mono hN) h.cap⟩
theorem Ctx.next {Cap:World→Prop} {w w':World} {N mb:Nat} {PL:Nat→Prop} {es:Array MapEntry} {z z':Nat} (h:Ctx Cap w N mb PL es z) (hC:CapK Cap N mb) (hb:Below w.heap.size w w') (hz:z'≤z):Ctx Cap w' N mb PL es z' :=
  h.off hC (OffB.of_below hb) h.le (h.mp.keep (hb.block mb (by have:=h.lt;have:=h.le;omega))) hz
theorem Ctx.same {Cap:World→Prop} {w w':World} {N N' mb:Nat} {PL:Nat→Prop} {es:Array MapEntry} {z:Nat} (h:Ctx Cap w N mb PL es z) (ho:OffB mb N' w w') (hN:N≤N'):SameOn PL w w':=h.pl.same ho hN
theorem Ctx.mlt {Cap:World→Prop} {w:World} {N mb:Nat} {PL:Nat→Prop} {es:Array MapEntry} {z:Nat} (h:Ctx Cap w N mb PL es z):mb<w.heap.size:=by
  have:=h.lt;have:=h.le;omega
theorem OffB.cellAt {b N:Nat} {u v:World} (h:OffB b N u v) {p:Addr} (hN:p.block<N) (hne:p.block≠b):v.cell? p=u.cell? p:=World.cell?_of_block (h.block p.block hN hne)
theorem ownsG_blk {w w':World} {B G n cap c:Nat} {e:TypeId} {xs:List Value} (h:w.ownsRow B e c (.slice (some ⟨G,0,none⟩) n cap) n xs) (hk:w'.heap[G]?=w.heap[G]?):w'.ownsRow B e c (.slice (some ⟨G,0,none⟩) n cap) n xs:=by
  refine ⟨h.1,?_⟩
  rcases h.2 with hn | ⟨g',cap',cur,hv',hb,hg,hr⟩
  · exact .inl hn
  · have:g'=G:=by simp at hv';exact hv'.1.symm
    subst this
    exact .inr ⟨g',cap',cur,hv',hb,hk.trans hg,hr⟩
theorem MadeB.next {α:Type} {b:Nat} {w wr w1:World} {G n c k:Nat} {e:TypeId} {O:World→List Value→α→List Nat→Prop} {es:List α} {xs:List Value} {fps:List (List Nat)}
    (hO:∀ w w' cs x f,O w cs x f→KeepOn f w w'→O w' cs x f) (h:MadeB b w wr G n e c O es k xs fps) (ho:OffB b wr.heap.size wr w1):MadeB b w w1 G n e c O es k xs fps:=by
  have h1:=h.sz
  have h2:=h.lt
  have h3:=ho.size
  refine ⟨ownsG_blk h.own (ho.block G (by omega) (by omega)),h.len,h.nd,fun a ha=>?_,fun i x f hx hf=>?_,h.off.trans (ho.mono (by omega)),by omega,h2⟩
  · have:=h.rng a ha;omega
  · obtain ⟨cs,g1,g2,g3⟩:=h.el i x f hx hf
    refine ⟨cs,g1,g2,hO _ _ _ _ _ g3 (fun a ha=>?_)⟩
    have:=h.rng a (List.mem_flatten.2 ⟨f,List.mem_of_getElem? hf,ha⟩)
    exact ho.block a this.2 (by omega)
theorem blankExp_nil (w:World) (c:Nat):Calls Tryz.prog 155 #[.slice none 0 c] w fun e w'=>e=.returned (.slice none 0 0)∧w'=w:=by
  have e0:Sem.run Tryz.prog (binOp .eql 200 (.slice none 0 c) (.slice none 0 0)) w=.ok (.bool true) w:=by kernel_rfl
  go_enter Tryz.func155,Tryz.ntmps155
  go_wp2
  go_ret
  exact ⟨rfl,rfl⟩
theorem blankExp_some (w:World) (a:Addr) (n c:Nat) (hn:n≤1048576):Calls Tryz.prog 155 #[.slice (some a) n c] w fun e w'=>e=.returned (.slice (some ⟨w.heap.size,0,none⟩) n n)∧∃ M:Array Value,M.size=n * 6∧w'=w.alloc (.cells M 79):=by
  obtain ⟨M,hM,hmk⟩:=make_row (t:=200) (e:=79) (c:=6) Tryz.underlying200 (by kernel_rfl) w n hn
  have e0:Sem.run Tryz.prog (binOp .eql 200 (.slice (some a) n c) (.slice none 0 0)) w=.ok (.bool false) w:=by kernel_rfl
  go_enter Tryz.func155,Tryz.ntmps155
  go_wp2
  go_ret
  exact ⟨rfl,M,hM,rfl⟩
theorem blankClause_nil (w:World) (c:Nat):Calls Tryz.prog 132 #[.slice none 0 c] w fun e w'=>e=.returned (.slice none 0 0)∧w'=w:=by
  have e0:Sem.run Tryz.prog (binOp .eql 152 (.slice none 0 c) (.slice none 0 0)) w=.ok (.bool true) w:=by kernel_rfl
  go_enter Tryz.func132,Tryz.ntmps132
  go_wp2
  go_ret
  exact ⟨rfl,rfl⟩
theorem blankClause_some (w:World) (a:Addr) (n c:Nat) (hn:n≤1048576):Calls Tryz.prog 132 #[.slice (some a) n c] w fun e w'=>e=.returned (.slice (some ⟨w.heap.size,0,none⟩) n n)∧∃ M:Array Value,M.size=n * 2∧w'=w.alloc (.cells M 127):=by
  obtain ⟨M,hM,hmk⟩:=make_row (t:=152) (e:=127) (c:=2) Tryz.underlying152 (by kernel_rfl) w n hn
  have e0:Sem.run Tryz.prog (binOp .eql 152 (.slice (some a) n c) (.slice none 0 0)) w=.ok (.bool false) w:=by kernel_rfl
  go_enter Tryz.func132,Tryz.ntmps132
  go_wp2
  go_ret
  exact ⟨rfl,M,hM,rfl⟩
theorem blankFun_nil (w:World) (c:Nat):Calls Tryz.prog 98 #[.slice none 0 c] w fun e w'=>e=.returned (.slice none 0 0)∧w'=w:=by
  have e0:Sem.run Tryz.prog (binOp .eql 119 (.slice none 0 c) (.slice none 0 0)) w=.ok (.bool true) w:=by kernel_rfl
  go_enter Tryz.func98,Tryz.ntmps98
  go_wp2
  go_ret
  exact ⟨rfl,rfl⟩
theorem blankFun_some (w:World) (a:Addr) (n c:Nat) (hn:n≤1048576):Calls Tryz.prog 98 #[.slice (some a) n c] w fun e w'=>e=.returned (.slice (some ⟨w.heap.size,0,none⟩) n n)∧∃ M:Array Value,M.size=n * 3∧w'=w.alloc (.cells M 91):=by
  obtain ⟨M,hM,hmk⟩:=make_row (t:=119) (e:=91) (c:=3) Tryz.underlying119 (by kernel_rfl) w n hn
  have e0:Sem.run Tryz.prog (binOp .eql 119 (.slice (some a) n c) (.slice none 0 0)) w=.ok (.bool false) w:=by kernel_rfl
  go_enter Tryz.func98,Tryz.ntmps98
  go_wp2
  go_ret
  exact ⟨rfl,M,hM,rfl⟩
theorem blankRef_nil (w:World) (c:Nat):Calls Tryz.prog 96 #[.slice none 0 c] w fun e w'=>e=.returned (.slice none 0 0)∧w'=w:=by
  have e0:Sem.run Tryz.prog (binOp .eql 116 (.slice none 0 c) (.slice none 0 0)) w=.ok (.bool true) w:=by kernel_rfl
  go_enter Tryz.func96,Tryz.ntmps96
  go_wp2
  go_ret
  exact ⟨rfl,rfl⟩
theorem blankRef_some (w:World) (a:Addr) (n c:Nat) (hn:n≤1048576):Calls Tryz.prog 96 #[.slice (some a) n c] w fun e w'=>e=.returned (.slice (some ⟨w.heap.size,0,none⟩) n n)∧∃ M:Array Value,M.size=n * 2∧w'=w.alloc (.cells M 89):=by
  obtain ⟨M,hM,hmk⟩:=make_row (t:=116) (e:=89) (c:=2) Tryz.underlying116 (by kernel_rfl) w n hn
  have e0:Sem.run Tryz.prog (binOp .eql 116 (.slice (some a) n c) (.slice none 0 0)) w=.ok (.bool false) w:=by kernel_rfl
  go_enter Tryz.func96,Tryz.ntmps96
  go_wp2
  go_ret
  exact ⟨rfl,M,hM,rfl⟩
theorem blankModule_nil (w:World) (c:Nat):Calls Tryz.prog 64 #[.slice none 0 c] w fun e w'=>e=.returned (.slice none 0 0)∧w'=w:=by
  have e0:Sem.run Tryz.prog (binOp .eql 68 (.slice none 0 c) (.slice none 0 0)) w=.ok (.bool true) w:=by kernel_rfl
  go_enter Tryz.func64,Tryz.ntmps64
  go_wp2
  go_ret
  exact ⟨rfl,rfl⟩
theorem blankModule_some (w:World) (a:Addr) (n c:Nat) (hn:n≤1048576):Calls Tryz.prog 64 #[.slice (some a) n c] w fun e w'=>e=.returned (.slice (some ⟨w.heap.size,0,none⟩) n n)∧∃ M:Array Value,M.size=n * 3∧w'=w.alloc (.cells M 47):=by
  obtain ⟨M,hM,hmk⟩:=make_row (t:=68) (e:=47) (c:=3) Tryz.underlying68 (by kernel_rfl) w n hn
  have e0:Sem.run Tryz.prog (binOp .eql 68 (.slice (some a) n c) (.slice none 0 0)) w=.ok (.bool false) w:=by kernel_rfl
  go_enter Tryz.func64,Tryz.ntmps64
  go_wp2
  go_ret
  exact ⟨rfl,M,hM,rfl⟩
theorem fillClause_nil (w:World) (p p':Option Addr) (c c':Nat) (bf:Value):Calls Tryz.prog 133 #[.slice p 0 c,.slice p' 0 c',bf] w fun e w'=>e=.returned (.tuple #[])∧w'=w:=by
  go_enter Tryz.func133,Tryz.ntmps133
  go_wp2_with fail
  go_loopw [10] (fun iv wr=>iv=.int .i64 0∧Hid (wr=w)) (fun _ _=>0)
  case atStart=>exact ⟨rfl,rfl⟩
  case round =>
    obtain ⟨rfl,hw⟩:=hrel
    go_wp2_with fail
    go_end0
    exact ⟨rfl,hw.out⟩
theorem fillFun_nil (w:World) (p p':Option Addr) (c c':Nat) (bf:Value):Calls Tryz.prog 99 #[.slice p 0 c,.slice p' 0 c',bf] w fun e w'=>e=.returned (.tuple #[])∧w'=w:=by
  go_enter Tryz.func99,Tryz.ntmps99
  go_wp2_with fail
  go_loopw [10] (fun iv wr=>iv=.int .i64 0∧Hid (wr=w)) (fun _ _=>0)
  case atStart=>exact ⟨rfl,rfl⟩
  case round =>
    obtain ⟨rfl,hw⟩:=hrel
    go_wp2_with fail
    go_end0
    exact ⟨rfl,hw.out⟩
theorem fillRef_nil (w:World) (p p':Option Addr) (c c':Nat) (bf:Value):Calls Tryz.prog 97 #[.slice p 0 c,.slice p' 0 c',bf] w fun e w'=>e=.returned (.tuple #[])∧w'=w:=by
  go_enter Tryz.func97,Tryz.ntmps97
  go_wp2_with fail
  go_loopw [10] (fun iv wr=>iv=.int .i64 0∧Hid (wr=w)) (fun _ _=>0)
  case atStart=>exact ⟨rfl,rfl⟩
  case round =>
    obtain ⟨rfl,hw⟩:=hrel
    go_wp2_with fail
    go_end0
    exact ⟨rfl,hw.out⟩
theorem fillModule_nil (w:World) (p p':Option Addr) (c c':Nat) (bf:Value):Calls Tryz.prog 65 #[.slice p 0 c,.slice p' 0 c',bf] w fun e w'=>e=.returned (.tuple #[])∧w'=w:=by
  go_enter Tryz.func65,Tryz.ntmps65
  go_wp2_with fail
  go_loopw [10] (fun iv wr=>iv=.int .i64 0∧Hid (wr=w)) (fun _ _=>0)
  case atStart=>exact ⟨rfl,rfl⟩
  case round =>
    obtain ⟨rfl,hw⟩:=hrel
    go_wp2_with fail
    go_end0
    exact ⟨rfl,hw.out⟩
theorem HEx.shapeR {w:World} {S:Nat→Prop} {d:Nat} {cs:List Value} {x:Ex} (h:HEx w S d cs x):∃ sk sn st se p1 n1 q1 p2 n2 q2,cs = [.int .i64 sk,.int .i64 sn,.string st,.string se,.slice p1 n1 q1,.slice p2 n2 q2]:=by
  cases d with
  | zero=>exact h.elim
  | succ d =>
    obtain ⟨kv,cv,rfl,-,-,-,-,⟨p,c,rfl,-⟩,⟨p',c',rfl,-⟩⟩:=h
    exact ⟨_,_,_,_,_,_,_,_,_,_,rfl⟩
theorem HCl.shapeR {w:World} {S:Nat→Prop} {R:List Value→Ex→Prop} {cs:List Value} {c:Cl} (h:HCl w S R cs c):∃ p1 n1 q1 p2 n2 q2,cs = [.slice p1 n1 q1,.slice p2 n2 q2]:=by
  obtain ⟨p,b,rfl,⟨p1,c1,rfl,-⟩,⟨p2,c2,rfl,-⟩⟩:=h
  exact ⟨_,_,_,_,_,_,rfl⟩
theorem OCls.shape {w:World} {O:List Value→Ex→List Nat→Prop} {cs:List Value} {c:Cl} {fp:List Nat} (h:OCl w O cs c fp):∃ p1 n1 q1 p2 n2 q2,cs = [.slice p1 n1 q1,.slice p2 n2 q2]:=by
  obtain ⟨pv,bv,f1,f2,rfl,rfl,h1,h2⟩:=h
  obtain ⟨p1,c1,rfl,-⟩:=h1.shape
  obtain ⟨p2,c2,rfl,-⟩:=h2.shape
  exact ⟨_,_,_,_,_,_,rfl⟩
theorem offB_of_off {mb G N:Nat} {w w':World} (h:Off [mb,G] w w') (hN:N≤G) (hw:N≤w.heap.size):OffB mb N w w' :=
  ⟨h.os,h.tape,h.output,h.size,fun k hk hb=>h.block k (by omega) (by simp;omega)⟩
theorem off_of_offB {mb G:Nat} {w w':World} (h:OffB mb w.heap.size w w'):Off [mb,G] w w' :=
  ⟨h.os,h.tape,h.output,h.size,fun k hk hf=>h.block k hk (by simp at hf;exact hf.1)⟩
theorem rows_nil_of_none {α:Type} {w:World} {S:Nat→Prop} {c n q:Nat} {R:List Value→α→Prop} {xs:List α} (h:Rows w S c R (.slice none n q) xs):xs = []:=by
  obtain ⟨p,cap,hv,-,-,hx⟩:=h
  apply Classical.byContradiction
  intro hne
  obtain ⟨g,off,hp,-⟩:=hx hne
  simp only [Value.slice.injEq] at hv
  rw [hp] at hv
  cases hv.1
theorem orows_nil {α:Type} {w:World} {e:TypeId} {c:Nat} {R:List Value→α→List Nat→Prop} (p:Option Addr) (q:Nat) (hq:q≤maxLen):ORows w e c R (.slice p 0 q) ([]:List α) []:=.inl ⟨rfl,rfl,p,q,rfl,hq⟩
end Go.Proofs.YtefpgpbbgclemaaGreatDoor
