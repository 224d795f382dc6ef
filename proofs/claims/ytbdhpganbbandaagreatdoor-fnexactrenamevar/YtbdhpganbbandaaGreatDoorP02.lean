/-
  Tree Tight
-/
import Derived.Test.YtbdhpganbbandaaGreatDoorRows
import Derived.WalkKit
import Derived.ProofKit
import Derived.Lib.LaidTab
import Derived.BigQuiet
set_option maxHeartbeats 16000000
set_option linter.unusedVariables false
set_option maxRecDepth 100000
namespace Go.Proofs.YtbdhpganbbandaaGreatDoor
open Go.ChangeShapes Go.WideShapes Go.ChangeAt Go.RowKit
section
def SameOn (S:Nat→Prop) (w w':World):Prop:=w.heap.size≤w'.heap.size∧∀ g,S g→g<w.heap.size→w'.heap[g]?=w.heap[g]?
theorem SameOn.of_below {S:Nat→Prop} {w w':World} (h:Below w.heap.size w w'):SameOn S w w':=⟨h.size,fun g _ hg=>h.block g hg⟩
theorem SameOn.of_low {N:Nat} {w w':World} (h:Below N w w'):SameOn (fun g=>g<N) w w':=⟨h.size,fun g hg _=>h.block g hg⟩
theorem SameOn.trans {S:Nat→Prop} {a b c:World} (h:SameOn S a b) (k:SameOn S b c):SameOn S a c :=
  ⟨Nat.le_trans h.1 k.1,fun g hs hg=>(k.2 g hs (Nat.lt_of_lt_of_le hg h.1)).trans (h.2 g hs hg)⟩
def All (_:Nat):Prop:=True
theorem alloc_hs (w:World) (o:Obj):(w.alloc o).heap.size=w.heap.size+1:=by simp
theorem cell_new (w:World) (cs:Array Value) (t:TypeId) (j:Nat) (v:Value) (h:cs[j]?=some v):(w.alloc (.cells cs t)).cell? ⟨w.heap.size,j,none⟩=some v:=by
  have e:(w.alloc (.cells cs t)).heap[w.heap.size]?=some (.cells cs t):=by
    show (w.heap.push _)[w.heap.size]?=_;simp
  unfold World.cell?;rw [e];simpa using h
structure Wd (C:World→Prop) where
  val:World
  ok:C val
theorem wp_region_class {P:Program} (C:World→Prop) {id:Nat} {Q:Exit→Act→World→Prop} {a:Act} {w:World} {l:List Oper} (hm:P.follows .mixedOrders=true) (hB:Region.lexB .any l.toArray=true)
    (hC:C w.drew) (h:wpQuiet P l.toArray (fun w'=>∃ m:Wd C,w'=m.val) (fun a'=>∀ w',(∃ m:Wd C,w'=m.val)→Q .normal a' w') l a):(Code.region id l.toArray true).wp P Q a w :=
  wp_region_quiet (C:=fun w'=>∃ m:Wd C,w'=m.val) hm hB ⟨⟨_,hC⟩,rfl⟩ (by simpa using h)
def Rows {α:Type} (w:World) (S:Nat→Prop) (c:Nat) (R:List Value→α→Prop) (v:Value) (xs:List α):Prop :=
  ∃ p cap,v=.slice p xs.length cap∧xs.length≤cap∧cap≤maxLen ∧
    (xs≠[]→∃ g off,p=some ⟨g,off,none⟩∧S g∧g<w.heap.size∧∀ i x,xs[i]?=some x→∃ cs,cs.length=c∧(∀ j,j<c→w.cell? ⟨g,off+i * c+j,none⟩=cs[j]?)∧R cs x)
theorem Rows.mono {α:Type} {w w':World} {S S':Nat→Prop} {c:Nat} {R R':List Value→α→Prop} {v:Value} {xs:List α} (h:Rows w S c R v xs)
    (hs:SameOn S w w') (hS:∀ g,S g→S' g) (hR:∀ cs x,x ∈ xs→R cs x→R' cs x):Rows w' S' c R' v xs:=by
  obtain ⟨p,cap,hv,h1,h2,h3⟩:=h;refine ⟨p,cap,hv,h1,h2,fun hne=>?_⟩;obtain ⟨g,off,hp,hg,hlt,hx⟩:=h3 hne;refine ⟨g,off,hp,hS g hg,Nat.lt_of_lt_of_le hlt hs.1,fun i x hi=>?_⟩;obtain ⟨cs,hl,hc,hr⟩:=hx i x hi;exact ⟨cs,hl,fun j hj=>(World.cell?_of_block (hs.2 g hg hlt)).trans (hc j hj),hR cs x (List.mem_of_getElem? hi) hr⟩
theorem Rows.nil {α:Type} {w:World} {S:Nat→Prop} {c:Nat} {R:List Value→α→Prop} {p:Option Addr} {cap:Nat} (hc:cap≤maxLen):Rows w S c R (.slice p 0 cap) [] :=
  ⟨p,cap,rfl,Nat.zero_le _,hc,fun h=>absurd rfl h⟩
inductive Ex where
  | mk (kind n:Int) (text mod:ByteArray) (kids:List Ex) (clauses:List (List Ex × List Ex))
abbrev Cl:=List Ex × List Ex
def Ex.kind:Ex→Int | .mk k _ _ _ _ _=>k
def Ex.n:Ex→Int | .mk _ n _ _ _ _=>n
def Ex.text:Ex→ByteArray | .mk _ _ t _ _ _=>t
def Ex.mod:Ex→ByteArray | .mk _ _ _ m _ _=>m
def Ex.kids:Ex→List Ex | .mk _ _ _ _ k _=>k
def Ex.clauses:Ex→List Cl | .mk _ _ _ _ _ c=>c
theorem Ex.eq_iff (a b:Ex):a=b ↔ a.kind=b.kind∧a.n=b.n∧a.text=b.text∧a.mod=b.mod∧a.kids=b.kids∧a.clauses=b.clauses:=by
  cases a;cases b;simp [Ex.kind,Ex.n,Ex.text,Ex.mod,Ex.kids,Ex.clauses]
structure Rf where
  name:ByteArray
  arity:Int
structure Fn' where
  name:ByteArray
  arity:Int
  clauses:List Cl
structure Md where
  name:ByteArray
  exports:List Rf
  funs:List Fn'
def okI (n:Int):Prop:=(Lit.int .i64 n).wf=true
def okS (s:ByteArray):Prop:=s.size≤maxLen
def HCl (w:World) (S:Nat→Prop) (R:List Value→Ex→Prop) (cs:List Value) (c:Cl):Prop :=
  ∃ p b,cs = [p,b]∧Rows w S 6 R p c.1∧Rows w S 6 R b c.2
def HEx (w:World) (S:Nat→Prop):Nat→List Value→Ex→Prop
  | 0,_,_=>False
  | d+1,cs,e=>∃ kv cv,cs = [.int .i64 e.kind,.int .i64 e.n,.string e.text,.string e.mod,kv,cv]∧okI e.kind∧okI e.n∧okS e.text∧okS e.mod ∧
      Rows w S 6 (HEx w S d) kv e.kids∧Rows w S 2 (HCl w S (HEx w S d)) cv e.clauses
def HRf (cs:List Value) (r:Rf):Prop:=cs = [.string r.name,.int .i64 r.arity]∧okS r.name∧okI r.arity
def HFn (w:World) (S:Nat→Prop) (d:Nat) (cs:List Value) (f:Fn'):Prop :=
  ∃ cv,cs = [.string f.name,.int .i64 f.arity,cv]∧okS f.name∧okI f.arity∧Rows w S 2 (HCl w S (HEx w S d)) cv f.clauses
def HMd (w:World) (S:Nat→Prop) (d:Nat) (cs:List Value) (m:Md):Prop :=
  ∃ ev fv,cs = [.string m.name,ev,fv]∧okS m.name∧Rows w S 2 HRf ev m.exports∧Rows w S 3 (HFn w S d) fv m.funs
theorem HCl.mono {w w':World} {S S':Nat→Prop} {R R':List Value→Ex→Prop} {cs:List Value} {c:Cl} (h:HCl w S R cs c) (hs:SameOn S w w') (hS:∀ g,S g→S' g)
    (hR:∀ cs x,R cs x→R' cs x):HCl w' S' R' cs c:=by
  obtain ⟨p,b,rfl,h1,h2⟩:=h;exact ⟨p,b,rfl,h1.mono hs hS (fun cs x _=>hR cs x),h2.mono hs hS (fun cs x _=>hR cs x)⟩
theorem HEx.mono {w w':World} {S S':Nat→Prop} (hs:SameOn S w w') (hS:∀ g,S g→S' g):∀ {d:Nat} {cs:List Value} {e:Ex},HEx w S d cs e→HEx w' S' d cs e
  | 0,_,_,h=>h.elim
  | d+1,cs,e,h=>by
    obtain ⟨kv,cv,rfl,h1,h2,h3,h4,hk,hc⟩:=h;exact ⟨kv,cv,rfl,h1,h2,h3,h4,hk.mono hs hS (fun _ _ _=>HEx.mono hs hS),hc.mono hs hS (fun _ _ _ h=>h.mono hs hS (fun _ _=>HEx.mono hs hS))⟩
theorem HFn.mono {w w':World} {S S':Nat→Prop} (hs:SameOn S w w') (hS:∀ g,S g→S' g) {d:Nat} {cs:List Value} {f:Fn'} (h:HFn w S d cs f):HFn w' S' d cs f:=by
  obtain ⟨cv,rfl,h1,h2,hc⟩:=h;exact ⟨cv,rfl,h1,h2,hc.mono hs hS (fun _ _ _ h=>h.mono hs hS (fun _ _=>HEx.mono hs hS))⟩
theorem HMd.mono {w w':World} {S S':Nat→Prop} (hs:SameOn S w w') (hS:∀ g,S g→S' g) {d:Nat} {cs:List Value} {m:Md} (h:HMd w S d cs m):HMd w' S' d cs m:=by
  obtain ⟨ev,fv,rfl,h1,he,hf⟩:=h;exact ⟨ev,fv,rfl,h1,he.mono hs hS (fun _ _ _ h=>h),hf.mono hs hS (fun _ _ _ h=>h.mono hs hS)⟩
/-! What the statement's reader reads. -/
section
variable {H:Type} {enc:TypeId × Value→H} {P:Program} {w:World} {base:Nat} {sp:Nat→Bool} {held:Bool}
theorem pick {α β:Type} {p:α→β→Prop}:∀ {l:List α},(∀ a ∈ l,∃ b,p a b)→∃ bs:List β,bs.length=l.length∧∀ (i:Nat) b,bs[i]?=some b→∃ a,l[i]?=some a∧p a b
  | [],_=>⟨[],rfl,fun i b h=>by simp at h⟩
  | a :: l,h=>by
    obtain ⟨b,hb⟩:=h a (by simp);obtain ⟨bs,hl,hbs⟩:=pick (l:=l) fun a ha=>h a (by simp [ha]);refine ⟨b :: bs,by simp [hl],fun i b' hi=>?_⟩
    cases i with
    | zero=>simp at hi;subst hi;exact ⟨a,by simp,hb⟩
    | succ i=>simp at hi;obtain ⟨a',ha,hp⟩:=hbs i b' hi;exact ⟨a',by simpa using ha,hp⟩
theorem cells_at {a:Addr} {n:Nat} {cs:List Value} (h:w.cells? base a n=some cs):cs.length=n∧∀ j,j<n→w.cell? (a.add j)=cs[j]?:=by
  simp only [World.cells?] at h
  split at h
  · refine ⟨by simpa using Lib.mapM_length h,fun j hj=>?_⟩
    obtain ⟨b,hb,hf⟩:=Lib.mapM_at h j j (by simp [hj]);rw [hf,hb]
  · cases h
theorem add_add (a:Addr) (n m:Nat) (h:a.spot=none):(a.add n).add m=⟨a.block,a.off+n+m,none⟩:=by
  obtain ⟨b,o,s⟩:=a;simp only at h;subst h;unfold Addr.add
  by_cases hn:n=0 <;> by_cases hm:m=0 <;> simp_all
theorem open_rows {α:Type} {t e:TypeId} {c fuel:Nat} {cs:List Value} {x:DataW H × List MemPlace} {R:List Value→α→Prop} (ht:P.underlying t=some (.slice e)) (hc:P.cellsOf e=c) (hc0:0<c)
    (hR:∀ cs x,DataW.trod enc P w base sp held fuel e cs=some x→∃ a,R cs a)
    (h:DataW.trod enc P w base sp held (fuel+1) t cs=some x):∃ v xs,cs = [v]∧Rows w (fun g=>g<w.heap.size) c R v xs:=by
  unfold DataW.trod at h;simp only [ht] at h
  split at h
  all_goals try (rename_i heq _;cases heq;done)
  all_goals try (rename_i heq;cases heq;done)
  all_goals try (cases h;done)
  · exact ⟨_,[],rfl,Rows.nil (Nat.zero_le _)⟩
  · rename_i e' a len cap heq1 
    injection heq1 with heq1
    injection heq1 with heq1
    subst heq1;simp only [hc] at h
    split at h
    · rename_i hb
      obtain ⟨elems,he,hr⟩:=Option.bind_eq_some_iff.1 h;have hel:elems.length=len:=(by simpa using Lib.mapM_length he)
      have hat:∀ i ∈ List.range len,∃ b:List Value × α,w.cells? base (a.add (i * c)) c=some b.1∧R b.1 b.2:=by
        intro i hi;have hi':i<len:=(by simpa using hi);obtain ⟨b,_,hf⟩:=Lib.mapM_at he i i (by simp [hi']);obtain ⟨cs,hcs,htr⟩:=Option.bind_eq_some_iff.1 hf;obtain ⟨a',ha'⟩:=hR cs b htr;exact ⟨(cs,a'),hcs,ha'⟩
      obtain ⟨bs,hbl,hbs⟩:=pick hat;refine ⟨_,bs.map (·.2),rfl,some a,cap,?_,?_,hb.2.2,fun hne=>?_⟩
      · simp only [List.length_map,hbl,List.length_range]
      · simp only [List.length_map,hbl,List.length_range];exact hb.2.1
      · have hl0:0<len:=by
          cases bs with
          | nil=>exact absurd rfl hne
          | cons b bs=>simp at hbl;omega
        obtain ⟨b0,hb0⟩:∃ b0,bs[0]?=some b0:=⟨bs[0]'(by rw [hbl];simpa using hl0),List.getElem?_eq_getElem _⟩;obtain ⟨i0,hi0,hc0',_⟩:=hbs 0 b0 hb0
        obtain rfl:i0=0:=by
          rw [List.getElem?_range hl0] at hi0;exact (Option.some.inj hi0).symm
        obtain ⟨hl1,hat1⟩:=cells_at hc0';have hcell:=hat1 0 hc0;simp only [Nat.zero_mul] at hcell
        have hsp:a.spot=none∧a.block<w.heap.size:=by
          have:w.cell? a=some (b0.1[0]'(by rw [hl1];exact hc0)):=by
            rw [← List.getElem?_eq_getElem];rw [← hcell];simp [Addr.add]
          unfold World.cell? at this
          split at this
          · rename_i heq
            constructor
            · cases hs:a.spot with
              | none=>rfl
              | some s=>simp [hs] at this
            · exact (Array.getElem?_eq_some_iff.1 heq).1
          · cases this
        refine ⟨a.block,a.off,?_,hsp.2,hsp.2,fun i x hi=>?_⟩
        · obtain ⟨b,o,s⟩:=a;simp only at hsp;simp [hsp.1]
        · rw [List.getElem?_map] at hi
          obtain ⟨b,hb',rfl⟩:=Option.map_eq_some_iff.1 hi;obtain ⟨i',hi',hcs,hr'⟩:=hbs i b hb'
          have hlt:i<len:=by
            have:=(List.getElem?_eq_some_iff.1 hb').1;rw [hbl] at this;simpa using this
          obtain rfl:i'=i:=by
            rw [List.getElem?_range hlt] at hi';exact (Option.some.inj hi').symm
          obtain ⟨hl2,hat2⟩:=cells_at hcs;exact ⟨b.1,hl2,fun j hj=>by rw [← hat2 j hj,add_add _ _ _ hsp.1],hr'⟩
    · cases h
theorem open_fields {t:TypeId} {fs:Array Field} {tys:List (TypeId × Nat)} {fuel:Nat} {cs:List Value} {x:DataW H × List MemPlace} (ht:P.underlying t=some (.struct fs))
    (hf:(fs.toList.map fun f=>(f.type,f.offset))=tys) (h:DataW.trod enc P w base sp held (fuel+1) t cs=some x) :
    cs.length=P.cellsOf t∧∀ (i:Nat) ty o,tys[i]?=some (ty,o)→∃ y,DataW.trod enc P w base sp held fuel ty ((cs.drop o).take (P.cellsOf ty))=some y:=by
  unfold DataW.trod at h;simp only [ht] at h
  split at h
  · rename_i hl
    refine ⟨hl,fun i ty o hi=>?_⟩;obtain ⟨xs,hm,_⟩:=Option.map_eq_some_iff.1 h;rw [← hf,List.getElem?_map] at hi;obtain ⟨f,hfi,hfe⟩:=Option.map_eq_some_iff.1 hi;obtain ⟨y,_,hy⟩:=Lib.mapM_at hm i f hfi;simp only [Prod.mk.injEq] at hfe;rw [← hfe.1,← hfe.2];exact ⟨y,hy⟩
  · cases h
theorem open_int1 {t:TypeId} {fuel:Nat} {v:Value} {x:DataW H × List MemPlace} (ht:P.underlying t=some (.int .i64)) (h:DataW.trod enc P w base sp held fuel t [v]=some x):∃ n,v=.int .i64 n∧okI n:=by
  obtain ⟨n,hn,hw⟩:∃ n,[v] = [Value.int .i64 n]∧okI n:=by
    cases fuel with
    | zero=>simp [DataW.trod] at h
    | succ fuel =>
      unfold DataW.trod at h;simp only [ht] at h
      split at h
      all_goals try (rename_i heq _;cases heq;done)
      all_goals try (rename_i heq;cases heq;done)
      all_goals try (cases h;done)
      · rename_i k k' n heq heq2
        split at h
        · rename_i hk
          cases heq
          obtain ⟨rfl,hw⟩:=hk;exact ⟨n,heq2,hw⟩
        · cases h
  cases hn
  exact ⟨n,rfl,hw⟩
theorem open_str1 {t:TypeId} {fuel:Nat} {v:Value} {x:DataW H × List MemPlace} (ht:P.underlying t=some .string) (h:DataW.trod enc P w base sp held fuel t [v]=some x):∃ s,v=.string s∧okS s:=by
  obtain ⟨n,hn,hw⟩:∃ n,[v] = [Value.string n]∧okS n:=by
    cases fuel with
    | zero=>simp [DataW.trod] at h
    | succ fuel =>
      unfold DataW.trod at h;simp only [ht] at h
      split at h
      all_goals try (rename_i heq _;cases heq;done)
      all_goals try (rename_i heq;cases heq;done)
      all_goals try (cases h;done)
      · rename_i s heq heq2
        split at h
        · rename_i hk
          exact ⟨s,heq2,hk⟩
        · cases h
  cases hn
  exact ⟨n,rfl,hw⟩
theorem HEx.deeper {S:Nat→Prop}:∀ {d d':Nat} {cs:List Value} {e:Ex},d≤d'→HEx w S d cs e→HEx w S d' cs e
  | 0,_,_,_,_,h=>h.elim
  | d+1,0,_,_,hd,h=>by omega
  | d+1,d'+1,cs,e,hd,h=>by
    have hs:SameOn S w w:=⟨Nat.le_refl _,fun _ _ _=>rfl⟩;obtain ⟨kv,cv,rfl,h1,h2,h3,h4,hk,hc⟩:=h;exact ⟨kv,cv,rfl,h1,h2,h3,h4,hk.mono hs (fun _ h=>h) (fun _ _ _=>HEx.deeper (by omega)),hc.mono hs (fun _ h=>h) (fun _ _ _ h=>h.mono hs (fun _ h=>h) (fun _ _=>HEx.deeper (by omega)))⟩
structure ExTypes (P:Program) (tE tEs tC tCs tI tS:TypeId):Prop where
  e:∃ fs,P.underlying tE=some (.struct fs)∧(fs.toList.map fun f=>(f.type,f.offset)) = [(tI,0),(tI,1),(tS,2),(tS,3),(tEs,4),(tCs,5)]
  c:∃ fs,P.underlying tC=some (.struct fs)∧(fs.toList.map fun f=>(f.type,f.offset)) = [(tEs,0),(tEs,1)]
  es:P.underlying tEs=some (.slice tE)
  cs:P.underlying tCs=some (.slice tC)
  i:P.underlying tI=some (.int .i64)
  s:P.underlying tS=some .string
  ce:P.cellsOf tE=6
  cc:P.cellsOf tC=2
  ci:P.cellsOf tI=1
  cS:P.cellsOf tS=1
  ces:P.cellsOf tEs=1
  ccs:P.cellsOf tCs=1
theorem len6 {cs:List Value} (h:cs.length=6):∃ a b c d e f,cs = [a,b,c,d,e,f]:=by
  match cs,h with
  | [a,b,c,d,e,f],_=>exact ⟨a,b,c,d,e,f,rfl⟩
theorem len2 {cs:List Value} (h:cs.length=2):∃ a b,cs = [a,b]:=by
  match cs,h with
  | [a,b],_=>exact ⟨a,b,rfl⟩
theorem len3 {cs:List Value} (h:cs.length=3):∃ a b c,cs = [a,b,c]:=by
  match cs,h with
  | [a,b,c],_=>exact ⟨a,b,c,rfl⟩
variable {tE tEs tC tCs tI tS:TypeId}
theorem open_exs {n:Nat} (T:ExTypes P tE tEs tC tCs tI tS)
    (ih:∀ fuel,fuel<n→∀ cs x,DataW.trod enc P w base sp held fuel tE cs=some x→∃ e,HEx w (fun g=>g<w.heap.size) n cs e) {fuel:Nat} (hf:fuel≤n) {v:Value} {x:DataW H × List MemPlace}
    (h:DataW.trod enc P w base sp held fuel tEs [v]=some x):∃ es,Rows w (fun g=>g<w.heap.size) 6 (HEx w (fun g=>g<w.heap.size) n) v es:=by
  cases fuel with
  | zero=>simp [DataW.trod] at h
  | succ fuel =>
    obtain ⟨v',xs,hv,hr⟩:=open_rows T.es T.ce (by decide) (ih fuel (by omega)) h
    cases hv
    exact ⟨xs,hr⟩
theorem open_cls {n:Nat} (T:ExTypes P tE tEs tC tCs tI tS)
    (ih:∀ fuel,fuel<n→∀ cs x,DataW.trod enc P w base sp held fuel tE cs=some x→∃ e,HEx w (fun g=>g<w.heap.size) n cs e) {fuel:Nat} (hf:fuel≤n) {v:Value} {x:DataW H × List MemPlace}
    (h:DataW.trod enc P w base sp held fuel tCs [v]=some x):∃ es,Rows w (fun g=>g<w.heap.size) 2 (HCl w (fun g=>g<w.heap.size) (HEx w (fun g=>g<w.heap.size) n)) v es:=by
  cases fuel with
  | zero=>simp [DataW.trod] at h
  | succ fuel =>
    obtain ⟨v',xs,hv,hr⟩:=open_rows (R:=HCl w (fun g=>g<w.heap.size) (HEx w (fun g=>g<w.heap.size) n)) T.cs T.cc (by decide) (fun cs x hx=>by
      cases fuel with
      | zero=>simp [DataW.trod] at hx
      | succ fuel =>
        obtain ⟨fs,hu,hfs⟩:=T.c;obtain ⟨hl,hat⟩:=open_fields hu hfs hx;rw [T.cc] at hl;obtain ⟨a,b,rfl⟩:=len2 hl;obtain ⟨y0,h0⟩:=hat 0 _ _ rfl;obtain ⟨y1,h1⟩:=hat 1 _ _ rfl;rw [T.ces] at h0 h1;obtain ⟨p,hp⟩:=open_exs T ih (by omega) h0;obtain ⟨q,hq⟩:=open_exs T ih (by omega) h1
        exact ⟨(p,q),a,b,rfl,hp,hq⟩) h
    cases hv
    exact ⟨xs,hr⟩
theorem open_ex (T:ExTypes P tE tEs tC tCs tI tS):∀ (n fuel:Nat),fuel<n→∀ cs x,DataW.trod enc P w base sp held fuel tE cs=some x→∃ e,HEx w (fun g=>g<w.heap.size) n cs e:=by
  intro n
  induction n with
  | zero=>intro fuel hf;omega
  | succ n ihn =>
    intro fuel hf cs x h
    cases fuel with
    | zero=>simp [DataW.trod] at h
    | succ fuel =>
      obtain ⟨fs,hu,hfs⟩:=T.e;obtain ⟨hl,hat⟩:=open_fields hu hfs h;rw [T.ce] at hl;obtain ⟨a,b,c,d,e,f,rfl⟩:=len6 hl;obtain ⟨y0,h0⟩:=hat 0 _ _ rfl;obtain ⟨y1,h1⟩:=hat 1 _ _ rfl;obtain ⟨y2,h2⟩:=hat 2 _ _ rfl;obtain ⟨y3,h3⟩:=hat 3 _ _ rfl;obtain ⟨y4,h4⟩:=hat 4 _ _ rfl;obtain ⟨y5,h5⟩:=hat 5 _ _ rfl;rw [T.ci] at h0 h1;rw [T.cS] at h2 h3;rw [T.ces] at h4;rw [T.ccs] at h5;obtain ⟨k,rfl,hk⟩:=open_int1 T.i h0;obtain ⟨m,rfl,hm⟩:=open_int1 T.i h1;obtain ⟨s,rfl,hs⟩:=open_str1 T.s h2;obtain ⟨r,rfl,hr⟩:=open_str1 T.s h3;obtain ⟨ks,hks⟩:=open_exs T ihn (by omega) h4;obtain ⟨cls,hcls⟩:=open_cls T ihn (by omega) h5;exact ⟨.mk k m s r ks cls,e,f,rfl,hk,hm,hs,hr,hks,hcls⟩
structure MdTypes (P:Program) (tE tEs tC tCs tI tS tR tRs tF tFs tM:TypeId):Prop extends ExTypes P tE tEs tC tCs tI tS where
  r:∃ fs,P.underlying tR=some (.struct fs)∧(fs.toList.map fun f=>(f.type,f.offset)) = [(tS,0),(tI,1)]
  f:∃ fs,P.underlying tF=some (.struct fs)∧(fs.toList.map fun f=>(f.type,f.offset)) = [(tS,0),(tI,1),(tCs,2)]
  m:∃ fs,P.underlying tM=some (.struct fs)∧(fs.toList.map fun f=>(f.type,f.offset)) = [(tS,0),(tRs,1),(tFs,2)]
  rs:P.underlying tRs=some (.slice tR)
  fs:P.underlying tFs=some (.slice tF)
  cr:P.cellsOf tR=2
  cf:P.cellsOf tF=3
  cm:P.cellsOf tM=3
  crs:P.cellsOf tRs=1
  cfs:P.cellsOf tFs=1
variable {tR tRs tF tFs tM:TypeId}
end
end
theorem Rows.tight {α:Type} {w:World} {S:Nat->Prop} {c:Nat} {R R':List Value->α->Prop} {v:Value} {xs:List α} (h:Rows w S c R v xs) (hR:∀ cs x,R cs x->R' cs x):Rows w (λg=>g<w.heap.size) c R' v xs:=by
 obtain ⟨p,cap,hv,h1,h2,h3⟩:=h;refine ⟨p,cap,hv,h1,h2,λhne=>?_⟩;obtain ⟨g,off,hp,hg,hlt,hx⟩:=h3 hne;refine ⟨g,off,hp,hlt,hlt,λi x hi=>?_⟩;obtain ⟨cs,hl,hc,hr⟩:=hx i x hi;exact ⟨cs,hl,hc,hR cs x hr⟩
theorem HEx.tight {w:World} {S:Nat->Prop}:∀ {d:Nat} {cs:List Value} {x:Ex},HEx w S d cs x->HEx w (λg=>g<w.heap.size) d cs x
 | 0,_,_,h=>h.elim
 | d+1,cs,x,h=>by
  obtain ⟨kv,cv,rfl,h1,h2,h3,h4,hk,hc⟩:=h;refine ⟨kv,cv,rfl,h1,h2,h3,h4,hk.tight (λ_ _ h=>h.tight),hc.tight (λ_ _ h=>?_)⟩;obtain ⟨p,b,rfl,g1,g2⟩:=h;exact ⟨p,b,rfl,g1.tight (λ_ _ h=>h.tight),g2.tight (λ_ _ h=>h.tight)⟩
end Go.Proofs.YtbdhpganbbandaaGreatDoor
