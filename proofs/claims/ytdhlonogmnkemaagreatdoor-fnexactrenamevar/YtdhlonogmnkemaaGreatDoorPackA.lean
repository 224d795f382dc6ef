/-
  Texts of the proof, packed: Tree, Gen, Sq, Own, StrRow, GrowO, StepPush, Wt, RemMath, MadeOff, OpenMap, ExOwn, ModOwn, RemBase, RemShape, RemRefs, CpBase, CpU, RowG, Grow, RowH, RefRow, CpMod, CpMath, CpV, CpVE.
-/
import Derived.Test.YtdhlonogmnkemaaGreatDoorRows
import Derived.WalkKit
import Derived.ProofKit
import Derived.Lib.LaidTab
import Derived.Below
import Derived.Deep.QuietTactic
import Derived.BigQuiet
import Derived.Test.YtdhlonogmnkemaaGreatDoorProg
import Derived.Deep.RegionWith
import Derived.Deep.RegionHeld3
import Derived.WalkSmall
import Derived.Deep.DeepMust
import Derived.Laws.MakeOwn
import Derived.Laws.AppendOwn
import Derived.Laws.AppendOwnNone
import Derived.OwnWalk
import Derived.Deep.AppendLies
import Derived.Maps.AppendAt
import Derived.LaidEql
import Derived.Maps.OwnOps
import Derived.Deep.RegionLaw
set_option maxHeartbeats 16000000
namespace Go.Proofs.YtdhlonogmnkemaaGreatDoor
open Go.ChangeShapes Go.WideShapes Go.ChangeAt Go.RowKit
set_option linter.unusedVariables false
set_option maxRecDepth 100000
def SameOn (S:Nat→Prop) (w w':World):Prop:=w.heap.size≤w'.heap.size∧∀ g,S g→g<w.heap.size→w'.heap[g]?=w.heap[g]?
theorem SameOn.of_below {S:Nat→Prop} {w w':World} (h:Below w.heap.size w w'):SameOn S w w':=⟨h.size,fun g _ hg=>h.block g hg⟩
theorem SameOn.of_low {N:Nat} {w w':World} (h:Below N w w'):SameOn (fun g=>g<N) w w':=⟨h.size,fun g hg _=>h.block g hg⟩
theorem SameOn.trans {S:Nat→Prop} {a b c:World} (h:SameOn S a b) (k:SameOn S b c):SameOn S a c :=
  ⟨Nat.le_trans h.1 k.1,fun g hs hg=>(k.2 g hs (Nat.lt_of_lt_of_le hg h.1)).trans (h.2 g hs hg)⟩
def All (_:Nat):Prop:=True
theorem alloc_hs (w:World) (o:Obj):(w.alloc o).heap.size=w.heap.size+1:=by simp
theorem cell_new (w:World) (cs:Array Value) (t:TypeId) (j:Nat) (v:Value) (h:cs[j]?=some v):(w.alloc (.cells cs t)).cell? ⟨w.heap.size,j,none⟩=some v:=by
  have e:(w.alloc (.cells cs t)).heap[w.heap.size]?=some (.cells cs t):=by
    show (w.heap.push _)[w.heap.size]?=_;simp
  unfold World.cell?;rw [e];simpa using h
structure Wd (C:World→Prop) where
  val:World
  ok:C val
theorem wp_region_class {P:Program} (C:World→Prop) {id:Nat} {Q:Exit→Act→World→Prop} {a:Act} {w:World} {l:List Oper} (hm:P.follows .mixedOrders=true) (hB:Region.lexB .any l.toArray=true)
    (hC:C w.drew) (h:wpQuiet P l.toArray (fun w'=>∃ m:Wd C,w'=m.val) (fun a'=>∀ w',(∃ m:Wd C,w'=m.val)→Q .normal a' w') l a):(Code.region id l.toArray true).wp P Q a w :=
  wp_region_quiet (C:=fun w'=>∃ m:Wd C,w'=m.val) hm hB ⟨⟨_,hC⟩,rfl⟩ (by simpa using h)
def Rows {α:Type} (w:World) (S:Nat→Prop) (c:Nat) (R:List Value→α→Prop) (v:Value) (xs:List α):Prop :=
  ∃ p cap,v=.slice p xs.length cap∧xs.length≤cap∧cap≤maxLen ∧
    (xs≠[]→∃ g off,p=some ⟨g,off,none⟩∧S g∧g<w.heap.size∧∀ i x,xs[i]?=some x→∃ cs,cs.length=c∧(∀ j,j<c→w.cell? ⟨g,off+i * c+j,none⟩=cs[j]?)∧R cs x)
theorem Rows.mono {α:Type} {w w':World} {S S':Nat→Prop} {c:Nat} {R R':List Value→α→Prop} {v:Value} {xs:List α} (h:Rows w S c R v xs)
    (hs:SameOn S w w') (hS:∀ g,S g→S' g) (hR:∀ cs x,x ∈ xs→R cs x→R' cs x):Rows w' S' c R' v xs:=by
  obtain ⟨p,cap,hv,h1,h2,h3⟩:=h;refine ⟨p,cap,hv,h1,h2,fun hne=>?_⟩;obtain ⟨g,off,hp,hg,hlt,hx⟩:=h3 hne;refine ⟨g,off,hp,hS g hg,Nat.lt_of_lt_of_le hlt hs.1,fun i x hi=>?_⟩;obtain ⟨cs,hl,hc,hr⟩:=hx i x hi;exact ⟨cs,hl,fun j hj=>(World.cell?_of_block (hs.2 g hg hlt)).trans (hc j hj),hR cs x (List.mem_of_getElem? hi) hr⟩
theorem Rows.nil {α:Type} {w:World} {S:Nat→Prop} {c:Nat} {R:List Value→α→Prop} {p:Option Addr} {cap:Nat} (hc:cap≤maxLen):Rows w S c R (.slice p 0 cap) [] :=
  ⟨p,cap,rfl,Nat.zero_le _,hc,fun h=>absurd rfl h⟩
inductive Ex where
  | mk (kind n:Int) (text mod:ByteArray) (kids:List Ex) (clauses:List (List Ex × List Ex))
abbrev Cl:=List Ex × List Ex
def Ex.kind:Ex→Int | .mk k _ _ _ _ _=>k
def Ex.n:Ex→Int | .mk _ n _ _ _ _=>n
def Ex.text:Ex→ByteArray | .mk _ _ t _ _ _=>t
def Ex.mod:Ex→ByteArray | .mk _ _ _ m _ _=>m
def Ex.kids:Ex→List Ex | .mk _ _ _ _ k _=>k
def Ex.clauses:Ex→List Cl | .mk _ _ _ _ _ c=>c
theorem Ex.eq_iff (a b:Ex):a=b ↔ a.kind=b.kind∧a.n=b.n∧a.text=b.text∧a.mod=b.mod∧a.kids=b.kids∧a.clauses=b.clauses:=by
  cases a;cases b;simp [Ex.kind,Ex.n,Ex.text,Ex.mod,Ex.kids,Ex.clauses]
structure Rf where
  name:ByteArray
  arity:Int
structure Fn' where
  name:ByteArray
  arity:Int
  clauses:List Cl
structure Md where
  name:ByteArray
  exports:List Rf
  funs:List Fn'
def okI (n:Int):Prop:=(Lit.int .i64 n).wf=true
def okS (s:ByteArray):Prop:=s.size≤maxLen
def HCl (w:World) (S:Nat→Prop) (R:List Value→Ex→Prop) (cs:List Value) (c:Cl):Prop :=
  ∃ p b,cs = [p,b]∧Rows w S 6 R p c.1∧Rows w S 6 R b c.2
def HEx (w:World) (S:Nat→Prop):Nat→List Value→Ex→Prop
  | 0,_,_=>False
  | d+1,cs,e=>∃ kv cv,cs = [.int .i64 e.kind,.int .i64 e.n,.string e.text,.string e.mod,kv,cv]∧okI e.kind∧okI e.n∧okS e.text∧okS e.mod ∧
      Rows w S 6 (HEx w S d) kv e.kids∧Rows w S 2 (HCl w S (HEx w S d)) cv e.clauses
def HRf (cs:List Value) (r:Rf):Prop:=cs = [.string r.name,.int .i64 r.arity]∧okS r.name∧okI r.arity
def HFn (w:World) (S:Nat→Prop) (d:Nat) (cs:List Value) (f:Fn'):Prop :=
  ∃ cv,cs = [.string f.name,.int .i64 f.arity,cv]∧okS f.name∧okI f.arity∧Rows w S 2 (HCl w S (HEx w S d)) cv f.clauses
def HMd (w:World) (S:Nat→Prop) (d:Nat) (cs:List Value) (m:Md):Prop :=
  ∃ ev fv,cs = [.string m.name,ev,fv]∧okS m.name∧Rows w S 2 HRf ev m.exports∧Rows w S 3 (HFn w S d) fv m.funs
theorem HCl.mono {w w':World} {S S':Nat→Prop} {R R':List Value→Ex→Prop} {cs:List Value} {c:Cl} (h:HCl w S R cs c) (hs:SameOn S w w') (hS:∀ g,S g→S' g)
    (hR:∀ cs x,R cs x→R' cs x):HCl w' S' R' cs c:=by
  obtain ⟨p,b,rfl,h1,h2⟩:=h;exact ⟨p,b,rfl,h1.mono hs hS (fun cs x _=>hR cs x),h2.mono hs hS (fun cs x _=>hR cs x)⟩
theorem HEx.mono {w w':World} {S S':Nat→Prop} (hs:SameOn S w w') (hS:∀ g,S g→S' g):∀ {d:Nat} {cs:List Value} {e:Ex},HEx w S d cs e→HEx w' S' d cs e
  | 0,_,_,h=>h.elim
  | d+1,cs,e,h=>by
    obtain ⟨kv,cv,rfl,h1,h2,h3,h4,hk,hc⟩:=h;exact ⟨kv,cv,rfl,h1,h2,h3,h4,hk.mono hs hS (fun _ _ _=>HEx.mono hs hS),hc.mono hs hS (fun _ _ _ h=>h.mono hs hS (fun _ _=>HEx.mono hs hS))⟩
theorem HFn.mono {w w':World} {S S':Nat→Prop} (hs:SameOn S w w') (hS:∀ g,S g→S' g) {d:Nat} {cs:List Value} {f:Fn'} (h:HFn w S d cs f):HFn w' S' d cs f:=by
  obtain ⟨cv,rfl,h1,h2,hc⟩:=h;exact ⟨cv,rfl,h1,h2,hc.mono hs hS (fun _ _ _ h=>h.mono hs hS (fun _ _=>HEx.mono hs hS))⟩
theorem HMd.mono {w w':World} {S S':Nat→Prop} (hs:SameOn S w w') (hS:∀ g,S g→S' g) {d:Nat} {cs:List Value} {m:Md} (h:HMd w S d cs m):HMd w' S' d cs m:=by
  obtain ⟨ev,fv,rfl,h1,he,hf⟩:=h;exact ⟨ev,fv,rfl,h1,he.mono hs hS (fun _ _ _ h=>h),hf.mono hs hS (fun _ _ _ h=>h.mono hs hS)⟩
/-! What the statement's reader reads. -/
section
variable {H:Type} {enc:TypeId × Value→H} {P:Program} {w:World} {base:Nat} {sp:Nat→Bool} {held:Bool}
theorem pick {α β:Type} {p:α→β→Prop}:∀ {l:List α},(∀ a ∈ l,∃ b,p a b)→∃ bs:List β,bs.length=l.length∧∀ (i:Nat) b,bs[i]?=some b→∃ a,l[i]?=some a∧p a b
  | [],_=>⟨[],rfl,fun i b h=>by simp at h⟩
  | a :: l,h=>by
    obtain ⟨b,hb⟩:=h a (by simp);obtain ⟨bs,hl,hbs⟩:=pick (l:=l) fun a ha=>h a (by simp [ha]);refine ⟨b :: bs,by simp [hl],fun i b' hi=>?_⟩
    cases i with
    | zero=>simp at hi;subst hi;exact ⟨a,by simp,hb⟩
    | succ i=>simp at hi;obtain ⟨a',ha,hp⟩:=hbs i b' hi;exact ⟨a',by simpa using ha,hp⟩
theorem cells_at {a:Addr} {n:Nat} {cs:List Value} (h:w.cells? base a n=some cs):cs.length=n∧∀ j,j<n→w.cell? (a.add j)=cs[j]?:=by
  simp only [World.cells?] at h
  split at h
  · refine ⟨by simpa using Lib.mapM_length h,fun j hj=>?_⟩
    obtain ⟨b,hb,hf⟩:=Lib.mapM_at h j j (by simp [hj]);rw [hf,hb]
  · cases h
theorem add_add (a:Addr) (n m:Nat) (h:a.spot=none):(a.add n).add m=⟨a.block,a.off+n+m,none⟩:=by
  obtain ⟨b,o,s⟩:=a;simp only at h;subst h;unfold Addr.add
  by_cases hn:n=0 <;> by_cases hm:m=0 <;> simp_all
theorem open_rows {α:Type} {t e:TypeId} {c fuel:Nat} {cs:List Value} {x:DataW H × List MemPlace} {R:List Value→α→Prop} (ht:P.underlying t=some (.slice e)) (hc:P.cellsOf e=c) (hc0:0<c)
    (hR:∀ cs x,DataW.trod enc P w base sp held fuel e cs=some x→∃ a,R cs a)
    (h:DataW.trod enc P w base sp held (fuel+1) t cs=some x):∃ v xs,cs = [v]∧Rows w (fun g=>g<w.heap.size) c R v xs:=by
  unfold DataW.trod at h;simp only [ht] at h
  split at h
  all_goals try (rename_i heq _;cases heq;done)
  all_goals try (rename_i heq;cases heq;done)
  all_goals try (cases h;done)
  · exact ⟨_,[],rfl,Rows.nil (Nat.zero_le _)⟩
  · rename_i e' a len cap heq1 
    injection heq1 with heq1
    injection heq1 with heq1
    subst heq1;simp only [hc] at h
    split at h
    · rename_i hb
      obtain ⟨elems,he,hr⟩:=Option.bind_eq_some_iff.1 h;have hel:elems.length=len:=(by simpa using Lib.mapM_length he)
      have hat:∀ i ∈ List.range len,∃ b:List Value × α,w.cells? base (a.add (i * c)) c=some b.1∧R b.1 b.2:=by
        intro i hi;have hi':i<len:=(by simpa using hi);obtain ⟨b,_,hf⟩:=Lib.mapM_at he i i (by simp [hi']);obtain ⟨cs,hcs,htr⟩:=Option.bind_eq_some_iff.1 hf;obtain ⟨a',ha'⟩:=hR cs b htr;exact ⟨(cs,a'),hcs,ha'⟩
      obtain ⟨bs,hbl,hbs⟩:=pick hat;refine ⟨_,bs.map (·.2),rfl,some a,cap,?_,?_,hb.2.2,fun hne=>?_⟩
      · simp only [List.length_map,hbl,List.length_range]
      · simp only [List.length_map,hbl,List.length_range];exact hb.2.1
      · have hl0:0<len:=by
          cases bs with
          | nil=>exact absurd rfl hne
          | cons b bs=>simp at hbl;omega
        obtain ⟨b0,hb0⟩:∃ b0,bs[0]?=some b0:=⟨bs[0]'(by rw [hbl];simpa using hl0),List.getElem?_eq_getElem _⟩;obtain ⟨i0,hi0,hc0',_⟩:=hbs 0 b0 hb0
        obtain rfl:i0=0:=by
          rw [List.getElem?_range hl0] at hi0;exact (Option.some.inj hi0).symm
        obtain ⟨hl1,hat1⟩:=cells_at hc0';have hcell:=hat1 0 hc0;simp only [Nat.zero_mul] at hcell
        have hsp:a.spot=none∧a.block<w.heap.size:=by
          have:w.cell? a=some (b0.1[0]'(by rw [hl1];exact hc0)):=by
            rw [← List.getElem?_eq_getElem];rw [← hcell];simp [Addr.add]
          unfold World.cell? at this
          split at this
          · rename_i heq
            constructor
            · cases hs:a.spot with
              | none=>rfl
              | some s=>simp [hs] at this
            · exact (Array.getElem?_eq_some_iff.1 heq).1
          · cases this
        refine ⟨a.block,a.off,?_,hsp.2,hsp.2,fun i x hi=>?_⟩
        · obtain ⟨b,o,s⟩:=a;simp only at hsp;simp [hsp.1]
        · rw [List.getElem?_map] at hi
          obtain ⟨b,hb',rfl⟩:=Option.map_eq_some_iff.1 hi;obtain ⟨i',hi',hcs,hr'⟩:=hbs i b hb'
          have hlt:i<len:=by
            have:=(List.getElem?_eq_some_iff.1 hb').1;rw [hbl] at this;simpa using this
          obtain rfl:i'=i:=by
            rw [List.getElem?_range hlt] at hi';exact (Option.some.inj hi').symm
          obtain ⟨hl2,hat2⟩:=cells_at hcs;exact ⟨b.1,hl2,fun j hj=>by rw [← hat2 j hj,add_add _ _ _ hsp.1],hr'⟩
    · cases h
theorem open_fields {t:TypeId} {fs:Array Field} {tys:List (TypeId × Nat)} {fuel:Nat} {cs:List Value} {x:DataW H × List MemPlace} (ht:P.underlying t=some (.struct fs))
    (hf:(fs.toList.map fun f=>(f.type,f.offset))=tys) (h:DataW.trod enc P w base sp held (fuel+1) t cs=some x) :
    cs.length=P.cellsOf t∧∀ (i:Nat) ty o,tys[i]?=some (ty,o)→∃ y,DataW.trod enc P w base sp held fuel ty ((cs.drop o).take (P.cellsOf ty))=some y:=by
  unfold DataW.trod at h;simp only [ht] at h
  split at h
  · rename_i hl
    refine ⟨hl,fun i ty o hi=>?_⟩;obtain ⟨xs,hm,_⟩:=Option.map_eq_some_iff.1 h;rw [← hf,List.getElem?_map] at hi;obtain ⟨f,hfi,hfe⟩:=Option.map_eq_some_iff.1 hi;obtain ⟨y,_,hy⟩:=Lib.mapM_at hm i f hfi;simp only [Prod.mk.injEq] at hfe;rw [← hfe.1,← hfe.2];exact ⟨y,hy⟩
  · cases h
theorem open_int1 {t:TypeId} {fuel:Nat} {v:Value} {x:DataW H × List MemPlace} (ht:P.underlying t=some (.int .i64)) (h:DataW.trod enc P w base sp held fuel t [v]=some x):∃ n,v=.int .i64 n∧okI n:=by
  obtain ⟨n,hn,hw⟩:∃ n,[v] = [Value.int .i64 n]∧okI n:=by
    cases fuel with
    | zero=>simp [DataW.trod] at h
    | succ fuel =>
      unfold DataW.trod at h;simp only [ht] at h
      split at h
      all_goals try (rename_i heq _;cases heq;done)
      all_goals try (rename_i heq;cases heq;done)
      all_goals try (cases h;done)
      · rename_i k k' n heq heq2
        split at h
        · rename_i hk
          cases heq
          obtain ⟨rfl,hw⟩:=hk;exact ⟨n,heq2,hw⟩
        · cases h
  cases hn
  exact ⟨n,rfl,hw⟩
theorem open_str1 {t:TypeId} {fuel:Nat} {v:Value} {x:DataW H × List MemPlace} (ht:P.underlying t=some .string) (h:DataW.trod enc P w base sp held fuel t [v]=some x):∃ s,v=.string s∧okS s:=by
  obtain ⟨n,hn,hw⟩:∃ n,[v] = [Value.string n]∧okS n:=by
    cases fuel with
    | zero=>simp [DataW.trod] at h
    | succ fuel =>
      unfold DataW.trod at h;simp only [ht] at h
      split at h
      all_goals try (rename_i heq _;cases heq;done)
      all_goals try (rename_i heq;cases heq;done)
      all_goals try (cases h;done)
      · rename_i s heq heq2
        split at h
        · rename_i hk
          exact ⟨s,heq2,hk⟩
        · cases h
  cases hn
  exact ⟨n,rfl,hw⟩
theorem HEx.deeper {S:Nat→Prop}:∀ {d d':Nat} {cs:List Value} {e:Ex},d≤d'→HEx w S d cs e→HEx w S d' cs e
  | 0,_,_,_,_,h=>h.elim
  | d+1,0,_,_,hd,h=>by omega
  | d+1,d'+1,cs,e,hd,h=>by
    have hs:SameOn S w w:=⟨Nat.le_refl _,fun _ _ _=>rfl⟩;obtain ⟨kv,cv,rfl,h1,h2,h3,h4,hk,hc⟩:=h;exact ⟨kv,cv,rfl,h1,h2,h3,h4,hk.mono hs (fun _ h=>h) (fun _ _ _=>HEx.deeper (by omega)),hc.mono hs (fun _ h=>h) (fun _ _ _ h=>h.mono hs (fun _ h=>h) (fun _ _=>HEx.deeper (by omega)))⟩
structure ExTypes (P:Program) (tE tEs tC tCs tI tS:TypeId):Prop where
  e:∃ fs,P.underlying tE=some (.struct fs)∧(fs.toList.map fun f=>(f.type,f.offset)) = [(tI,0),(tI,1),(tS,2),(tS,3),(tEs,4),(tCs,5)]
  c:∃ fs,P.underlying tC=some (.struct fs)∧(fs.toList.map fun f=>(f.type,f.offset)) = [(tEs,0),(tEs,1)]
  es:P.underlying tEs=some (.slice tE)
  cs:P.underlying tCs=some (.slice tC)
  i:P.underlying tI=some (.int .i64)
  s:P.underlying tS=some .string
  ce:P.cellsOf tE=6
  cc:P.cellsOf tC=2
  ci:P.cellsOf tI=1
  cS:P.cellsOf tS=1
  ces:P.cellsOf tEs=1
  ccs:P.cellsOf tCs=1
theorem len6 {cs:List Value} (h:cs.length=6):∃ a b c d e f,cs = [a,b,c,d,e,f]:=by
  match cs,h with
  | [a,b,c,d,e,f],_=>exact ⟨a,b,c,d,e,f,rfl⟩
theorem len2 {cs:List Value} (h:cs.length=2):∃ a b,cs = [a,b]:=by
  match cs,h with
  | [a,b],_=>exact ⟨a,b,rfl⟩
theorem len3 {cs:List Value} (h:cs.length=3):∃ a b c,cs = [a,b,c]:=by
  match cs,h with
  | [a,b,c],_=>exact ⟨a,b,c,rfl⟩
variable {tE tEs tC tCs tI tS:TypeId}
theorem open_exs {n:Nat} (T:ExTypes P tE tEs tC tCs tI tS)
    (ih:∀ fuel,fuel<n→∀ cs x,DataW.trod enc P w base sp held fuel tE cs=some x→∃ e,HEx w (fun g=>g<w.heap.size) n cs e) {fuel:Nat} (hf:fuel≤n) {v:Value} {x:DataW H × List MemPlace}
    (h:DataW.trod enc P w base sp held fuel tEs [v]=some x):∃ es,Rows w (fun g=>g<w.heap.size) 6 (HEx w (fun g=>g<w.heap.size) n) v es:=by
  cases fuel with
  | zero=>simp [DataW.trod] at h
  | succ fuel =>
    obtain ⟨v',xs,hv,hr⟩:=open_rows T.es T.ce (by decide) (ih fuel (by omega)) h
    cases hv
    exact ⟨xs,hr⟩
theorem open_cls {n:Nat} (T:ExTypes P tE tEs tC tCs tI tS)
    (ih:∀ fuel,fuel<n→∀ cs x,DataW.trod enc P w base sp held fuel tE cs=some x→∃ e,HEx w (fun g=>g<w.heap.size) n cs e) {fuel:Nat} (hf:fuel≤n) {v:Value} {x:DataW H × List MemPlace}
    (h:DataW.trod enc P w base sp held fuel tCs [v]=some x):∃ es,Rows w (fun g=>g<w.heap.size) 2 (HCl w (fun g=>g<w.heap.size) (HEx w (fun g=>g<w.heap.size) n)) v es:=by
  cases fuel with
  | zero=>simp [DataW.trod] at h
  | succ fuel =>
    obtain ⟨v',xs,hv,hr⟩:=open_rows (R:=HCl w (fun g=>g<w.heap.size) (HEx w (fun g=>g<w.heap.size) n)) T.cs T.cc (by decide) (fun cs x hx=>by
      cases fuel with
      | zero=>simp [DataW.trod] at hx
      | succ fuel =>
        obtain ⟨fs,hu,hfs⟩:=T.c;obtain ⟨hl,hat⟩:=open_fields hu hfs hx;rw [T.cc] at hl;obtain ⟨a,b,rfl⟩:=len2 hl;obtain ⟨y0,h0⟩:=hat 0 _ _ rfl;obtain ⟨y1,h1⟩:=hat 1 _ _ rfl;rw [T.ces] at h0 h1;obtain ⟨p,hp⟩:=open_exs T ih (by omega) h0;obtain ⟨q,hq⟩:=open_exs T ih (by omega) h1
        exact ⟨(p,q),a,b,rfl,hp,hq⟩) h
    cases hv
    exact ⟨xs,hr⟩
theorem open_ex (T:ExTypes P tE tEs tC tCs tI tS):∀ (n fuel:Nat),fuel<n→∀ cs x,DataW.trod enc P w base sp held fuel tE cs=some x→∃ e,HEx w (fun g=>g<w.heap.size) n cs e:=by
  intro n
  induction n with
  | zero=>intro fuel hf;omega
  | succ n ihn =>
    intro fuel hf cs x h
    cases fuel with
    | zero=>simp [DataW.trod] at h
    | succ fuel =>
      obtain ⟨fs,hu,hfs⟩:=T.e;obtain ⟨hl,hat⟩:=open_fields hu hfs h;rw [T.ce] at hl;obtain ⟨a,b,c,d,e,f,rfl⟩:=len6 hl;obtain ⟨y0,h0⟩:=hat 0 _ _ rfl;obtain ⟨y1,h1⟩:=hat 1 _ _ rfl;obtain ⟨y2,h2⟩:=hat 2 _ _ rfl;obtain ⟨y3,h3⟩:=hat 3 _ _ rfl;obtain ⟨y4,h4⟩:=hat 4 _ _ rfl;obtain ⟨y5,h5⟩:=hat 5 _ _ rfl;rw [T.ci] at h0 h1;rw [T.cS] at h2 h3;rw [T.ces] at h4;rw [T.ccs] at h5;obtain ⟨k,rfl,hk⟩:=open_int1 T.i h0;obtain ⟨m,rfl,hm⟩:=open_int1 T.i h1;obtain ⟨s,rfl,hs⟩:=open_str1 T.s h2;obtain ⟨r,rfl,hr⟩:=open_str1 T.s h3;obtain ⟨ks,hks⟩:=open_exs T ihn (by omega) h4;obtain ⟨cls,hcls⟩:=open_cls T ihn (by omega) h5;exact ⟨.mk k m s r ks cls,e,f,rfl,hk,hm,hs,hr,hks,hcls⟩
structure MdTypes (P:Program) (tE tEs tC tCs tI tS tR tRs tF tFs tM:TypeId):Prop extends ExTypes P tE tEs tC tCs tI tS where
  r:∃ fs,P.underlying tR=some (.struct fs)∧(fs.toList.map fun f=>(f.type,f.offset)) = [(tS,0),(tI,1)]
  f:∃ fs,P.underlying tF=some (.struct fs)∧(fs.toList.map fun f=>(f.type,f.offset)) = [(tS,0),(tI,1),(tCs,2)]
  m:∃ fs,P.underlying tM=some (.struct fs)∧(fs.toList.map fun f=>(f.type,f.offset)) = [(tS,0),(tRs,1),(tFs,2)]
  rs:P.underlying tRs=some (.slice tR)
  fs:P.underlying tFs=some (.slice tF)
  cr:P.cellsOf tR=2
  cf:P.cellsOf tF=3
  cm:P.cellsOf tM=3
  crs:P.cellsOf tRs=1
  cfs:P.cellsOf tFs=1
variable {tR tRs tF tFs tM:TypeId}
end
def wtS {α:Type} (f:α→Nat) (xs:List α):Nat:=xs.length+(xs.map f).sum
def leftOf (left wt:Nat):Int:=if left<wt then -1 else ((left - wt:Nat):Int)
theorem leftOf_lt {left wt:Nat} (h:left<wt):leftOf left wt = -1:=if_pos h
theorem leftOf_ge {left wt:Nat} (h:wt≤left):leftOf left wt=((left - wt:Nat):Int):=if_neg (by omega)
theorem sum_take_succ {α:Type} (f:α→Nat) (xs:List α) (k:Nat) (x:α) (h:xs[k]?=some x):((xs.take (k+1)).map f).sum=((xs.take k).map f).sum+f x:=by
  rw [List.take_add_one,h];simp
theorem sum_take_le {α:Type} (f:α→Nat) (xs:List α) (k:Nat):((xs.take k).map f).sum≤(xs.map f).sum:=by
  conv=>rhs;rw [← List.take_append_drop k xs]
  rw [List.map_append,List.sum_append];omega
def SzC {α:Type} (F:FuncId) (H:World→Value→α→Prop) (wt:α→Nat):Prop :=
  ∀ (w:World) (v:Value) (x:α) (left:Nat),H w v x→left≤16777216→Calls Tryz.prog F #[v,.int .i64 left] w fun e w'=>e=.returned (.int .i64 (leftOf left (wt x)))∧Below w.heap.size w w'
theorem SzC.at {α:Type} {F:FuncId} {H:World→Value→α→Prop} {wt:α→Nat} (h:SzC F H wt) {w:World} {v:Value} (x:α) (l:Int) (left:Nat) (hl:l=left) (hx:H w v x) (hb:left≤16777216) :
    Calls Tryz.prog F #[v,.int .i64 l] w fun e w'=>e=.returned (.int .i64 (leftOf left (wt x)))∧Below w.heap.size w w':=by
  subst hl;exact h w v x left hx hb
def EqC {α:Type} (F:FuncId) (H:World→Value→α→Prop):Prop :=
  ∀ (w:World) (v1 v2:Value) (x:α),H w v1 x→H w v2 x→Calls Tryz.prog F #[v1,v2] w fun e w'=>e=.returned (.bool true)∧Below w.heap.size w w'
theorem grownBy_transR {a b c:World} {r:Option Nat} (h:a.grownBy b r) (k:b.grownBy c r):a.grownBy c r :=
  ⟨k.os.trans h.os,k.tape.trans h.tape,k.output.trans h.output,Nat.le_trans h.size k.size,fun j hj hr=>(k.block j (Nat.lt_of_lt_of_le hj h.size) hr).trans (h.block j hj hr)⟩
theorem grownBy_belowR {a b:World} {r:Option Nat} (h:Below a.heap.size a b):a.grownBy b r:=⟨h.os,h.tape,h.output,h.size,fun j hj _=>h.block j hj⟩
theorem own_someR {w:World} {B g n cap c:Nat} {e:TypeId} {xs:List Value} (h:w.ownsRow B e c (.slice (some ⟨g,0,none⟩) n cap) n xs) (j:Nat) (hj:j<n * c):∃ u,w.cell? ⟨g,j,none⟩=some u :=
  ⟨_,(h.cellAt j hj).trans (List.getElem?_eq_getElem (by rw [h.1];exact hj))⟩
theorem make_row {t e:TypeId} {c:Nat} (ht:Tryz.prog.underlying t=some (.slice e)) (hi:((Tryz.prog.info? e).any fun i=>i.zero.isSome && (i.size == c && decide (i.bytes≤1000)))=true) (w:World) (n:Nat) (hn:n≤16777216) :
    ∃ M:Array Value,M.size=n * c∧(Instr.makeSlice t (.int .i64 n) (.int .i64 n)).run Tryz.prog w=.ok (.slice (some ⟨w.heap.size,0,none⟩) n n) (w.alloc (.cells M e)):=by
  cases h:Tryz.prog.info? e with
  | none=>rw [h] at hi;cases hi
  | some i =>
    rw [h] at hi;simp only [Option.any_some,Bool.and_eq_true,beq_iff_eq,decide_eq_true_eq] at hi;obtain ⟨hz,hs,hb⟩:=hi;obtain ⟨z,hz⟩:=Option.isSome_iff_exists.1 hz
    have:=run_make (P:=Tryz.prog) w t e i z ht h hz .i64 .i64 n n (by omega) (Int.le_refl _) (by
      have h1:i.bytes * n≤1000 * 16777216:=Nat.mul_le_mul hb hn;have h2:((i.bytes * n:Nat):Int)≤((1000 * 16777216:Nat):Int):=(by exact_mod_cast h1);rw [Int.natCast_mul] at h2
      omega) (by omega)
    exact ⟨_,by rw [size_madeCells,hs];simp,this⟩
def Blk (w:World) (b:Nat) (cs:Array Value) (t:TypeId):Prop:=w.heap[b]?=some (.cells cs t)
theorem Blk.cell {w:World} {b:Nat} {cs:Array Value} {t:TypeId} (h:Blk w b cs t) (j:Nat) (v:Value) (hv:cs[j]?=some v):w.cell? ⟨b,j,none⟩=some v:=by
  unfold Blk at h;unfold World.cell?;rw [h];simpa using hv
theorem Blk.frozen {w:World} {b:Nat} {cs:Array Value} {t:TypeId} (h:Blk w b cs t) (j:Nat):w.frozen? ⟨b,j,none⟩=false:=by
  unfold Blk at h;unfold World.frozen?;rw [h];simp
theorem Blk.below {w w':World} {N b:Nat} {cs:Array Value} {t:TypeId} (h:Blk w b cs t) (hb:Below N w w') (hN:b<N):Blk w' b cs t:=(hb.block b hN).trans h
theorem Blk.new {w:World} {cs:Array Value} {t:TypeId}:Blk (w.alloc (.cells cs t)) w.heap.size cs t:=by
  show (w.heap.push _)[w.heap.size]?=_;simp
theorem Blk.alloc {w:World} {b:Nat} {cs:Array Value} {t:TypeId} {o:Obj} (h:Blk w b cs t):Blk (w.alloc o) b cs t :=
  (Below.heap_alloc _ _ _ (by unfold Blk at h;exact (Array.getElem?_eq_some_iff.1 h).1)).trans h
theorem Blk.same {w:World} {b j:Nat} {cs cs':Array Value} {t:TypeId} {v:Value} (h:Blk w b cs t) (hc:cs.setIfInBounds j v=cs'):Blk (w.setCell ⟨b,j,none⟩ v) b cs' t:=by
  subst hc;exact heap_setCell_same w b j cs t v h
theorem Blk.other {w:World} {b:Nat} {p:Addr} {cs:Array Value} {t:TypeId} {v:Value} (h:Blk w b cs t) (hp:b≠p.block):Blk (w.setCell p v) b cs t:=(Below.heap_setCell _ _ _ _ hp).trans h
theorem SameOn.setCell {S:Nat→Prop} {a b:World} (h:SameOn S a b) {p:Addr} (hp:¬ S p.block) (v:Value):SameOn S a (b.setCell p v) :=
  ⟨by simpa [World.setCell] using h.1,fun g hg hl=>(Below.heap_setCell _ _ _ _ (by intro e;exact hp (e ▸ hg))).trans (h.2 g hg hl)⟩
theorem setCell_hs (w:World) (p:Addr) (v:Value):(w.setCell p v).heap.size=w.heap.size:=by simp [World.setCell]
theorem set2_other {xs:List Value} {d0 d1:Value} {m o:Nat} (h:m<o):((xs.set o d0).set (o+1) d1)[m]?=xs[m]?:=by
  rw [List.getElem?_set_ne (by omega),List.getElem?_set_ne (by omega)]
theorem set2_self {xs:List Value} {d0 d1:Value} {o:Nat} (h:o+1<xs.length) (j:Nat) (hj:j<2):((xs.set o d0).set (o+1) d1)[o+j]? = [d0,d1][j]?:=by
  match j,hj with
  | 0,_=>rw [List.getElem?_set_ne (by omega)];exact List.getElem?_set_self (by omega)
  | 1,_=>rw [List.getElem?_set_self (by simp only [List.length_set];omega)];rfl
theorem stored2 {w:World} {B g n cap:Nat} {e:TypeId} {xs:List Value} (h:w.ownsRow B e 2 (.slice (some ⟨g,0,none⟩) n cap) n xs) (o:Nat) (d0 d1:Value) :
    ((w.setCell ⟨g,o,none⟩ d0).setCell ⟨g,o+1,none⟩ d1).ownsRow B e 2 (.slice (some ⟨g,0,none⟩) n cap) n ((xs.set o d0).set (o+1) d1)∧w.grownBy ((w.setCell ⟨g,o,none⟩ d0).setCell ⟨g,o+1,none⟩ d1) (some g):=by
  have s0:=h.stored o d0;have s1:=s0.1.stored (o+1) d1;exact ⟨s1.1,grownBy_transR s0.2 (s1.2)⟩
theorem set3_other {xs:List Value} {d0 d1 d2:Value} {m o:Nat} (h:m<o):(((xs.set o d0).set (o+1) d1).set (o+2) d2)[m]?=xs[m]?:=by
  rw [List.getElem?_set_ne (by omega),List.getElem?_set_ne (by omega),List.getElem?_set_ne (by omega)]
theorem set3_self {xs:List Value} {d0 d1 d2:Value} {o:Nat} (h:o+2<xs.length) (j:Nat) (hj:j<3):(((xs.set o d0).set (o+1) d1).set (o+2) d2)[o+j]? = [d0,d1,d2][j]?:=by
  match j,hj with
  | 0,_=>rw [List.getElem?_set_ne (by omega),List.getElem?_set_ne (by omega)];exact List.getElem?_set_self (by omega)
  | 1,_=>rw [List.getElem?_set_ne (by omega),List.getElem?_set_self (by simp only [List.length_set];omega)];rfl
  | 2,_=>rw [List.getElem?_set_self (by simp only [List.length_set];omega)];rfl
theorem stored3 {w:World} {B g n cap:Nat} {e:TypeId} {xs:List Value} (h:w.ownsRow B e 3 (.slice (some ⟨g,0,none⟩) n cap) n xs) (o:Nat) (d0 d1 d2:Value) :
    (((w.setCell ⟨g,o,none⟩ d0).setCell ⟨g,o+1,none⟩ d1).setCell ⟨g,o+2,none⟩ d2).ownsRow B e 3 (.slice (some ⟨g,0,none⟩) n cap) n (((xs.set o d0).set (o+1) d1).set (o+2) d2)∧w.grownBy (((w.setCell ⟨g,o,none⟩ d0).setCell ⟨g,o+1,none⟩ d1).setCell ⟨g,o+2,none⟩ d2) (some g):=by
  have s0:=h.stored o d0;have s1:=s0.1.stored (o+1) d1;have s2:=s1.1.stored (o+2) d2;exact ⟨s2.1,grownBy_transR s0.2 (grownBy_transR s1.2 (s2.2))⟩
theorem set6_other {xs:List Value} {d0 d1 d2 d3 d4 d5:Value} {m o:Nat} (h:m<o):((((((xs.set o d0).set (o+1) d1).set (o+2) d2).set (o+3) d3).set (o+4) d4).set (o+5) d5)[m]?=xs[m]?:=by
  rw [List.getElem?_set_ne (by omega),List.getElem?_set_ne (by omega),List.getElem?_set_ne (by omega),List.getElem?_set_ne (by omega),List.getElem?_set_ne (by omega),List.getElem?_set_ne (by omega)]
theorem set6_self {xs:List Value} {d0 d1 d2 d3 d4 d5:Value} {o:Nat} (h:o+5<xs.length) (j:Nat) (hj:j<6):((((((xs.set o d0).set (o+1) d1).set (o+2) d2).set (o+3) d3).set (o+4) d4).set (o+5) d5)[o+j]? = [d0,d1,d2,d3,d4,d5][j]?:=by
  match j,hj with
  | 0,_=>rw [List.getElem?_set_ne (by omega),List.getElem?_set_ne (by omega),List.getElem?_set_ne (by omega),List.getElem?_set_ne (by omega),List.getElem?_set_ne (by omega)];exact List.getElem?_set_self (by omega)
  | 1,_=>rw [List.getElem?_set_ne (by omega),List.getElem?_set_ne (by omega),List.getElem?_set_ne (by omega),List.getElem?_set_ne (by omega),List.getElem?_set_self (by simp only [List.length_set];omega)];rfl
  | 2,_=>rw [List.getElem?_set_ne (by omega),List.getElem?_set_ne (by omega),List.getElem?_set_ne (by omega),List.getElem?_set_self (by simp only [List.length_set];omega)];rfl
  | 3,_=>rw [List.getElem?_set_ne (by omega),List.getElem?_set_ne (by omega),List.getElem?_set_self (by simp only [List.length_set];omega)];rfl
  | 4,_=>rw [List.getElem?_set_ne (by omega),List.getElem?_set_self (by simp only [List.length_set];omega)];rfl
  | 5,_=>rw [List.getElem?_set_self (by simp only [List.length_set];omega)];rfl
theorem stored6 {w:World} {B g n cap:Nat} {e:TypeId} {xs:List Value} (h:w.ownsRow B e 6 (.slice (some ⟨g,0,none⟩) n cap) n xs) (o:Nat) (d0 d1 d2 d3 d4 d5:Value) :
    ((((((w.setCell ⟨g,o,none⟩ d0).setCell ⟨g,o+1,none⟩ d1).setCell ⟨g,o+2,none⟩ d2).setCell ⟨g,o+3,none⟩ d3).setCell ⟨g,o+4,none⟩ d4).setCell ⟨g,o+5,none⟩ d5).ownsRow B e 6 (.slice (some ⟨g,0,none⟩) n cap) n ((((((xs.set o d0).set (o+1) d1).set (o+2) d2).set (o+3) d3).set (o+4) d4).set (o+5) d5)∧w.grownBy ((((((w.setCell ⟨g,o,none⟩ d0).setCell ⟨g,o+1,none⟩ d1).setCell ⟨g,o+2,none⟩ d2).setCell ⟨g,o+3,none⟩ d3).setCell ⟨g,o+4,none⟩ d4).setCell ⟨g,o+5,none⟩ d5) (some g):=by
  have s0:=h.stored o d0;have s1:=s0.1.stored (o+1) d1;have s2:=s1.1.stored (o+2) d2;have s3:=s2.1.stored (o+3) d3;have s4:=s3.1.stored (o+4) d4;have s5:=s4.1.stored (o+5) d5;exact ⟨s5.1,grownBy_transR s0.2 (grownBy_transR s1.2 (grownBy_transR s2.2 (grownBy_transR s3.2 (grownBy_transR s4.2 (s5.2)))))⟩
theorem str_ne {a b:ByteArray} (h:¬ a=b):¬ a.toList=b.toList:=fun e=>h (bytes_inj (by rw [← ByteArray.toList_eq,← ByteArray.toList_eq,e]))
theorem str_neB {a b:ByteArray} (h:¬ a=b):(a.toList == b.toList)=false:=by simpa using str_ne h
theorem Blk.lt {w:World} {b:Nat} {cs:Array Value} {t:TypeId} (h:Blk w b cs t):b<w.heap.size:=by
  unfold Blk at h;exact (Array.getElem?_eq_some_iff.1 h).1
theorem Blk.next {w w':World} {b:Nat} {cs:Array Value} {t:TypeId} (h:Blk w b cs t) (hb:Below w.heap.size w w'):Blk w' b cs t:=h.below hb h.lt
theorem cell_next {w w':World} {a:Addr} {v:Value} (hb:Below w.heap.size w w') (h:w.cell? a=some v):w'.cell? a=some v:=by
  refine (hb.cell (p:=a) ?_).trans h;unfold World.cell? at h
  split at h
  · rename_i heq;exact (Array.getElem?_eq_some_iff.1 heq).1
  · cases h
theorem agg_of_cells {v:Value} {cs:List Value} (h:v.cells.toList=cs) (hl:cs.length≠1):v=.agg cs.toArray:=by
  subst h
  cases v <;> first | (exfalso;exact hl rfl) | rfl
theorem Blk.same_on {w w':World} {b:Nat} {cs:Array Value} {t:TypeId} (h:Blk w b cs t) (hs:SameOn All w w'):Blk w' b cs t :=
  (hs.2 b trivial (by unfold Blk at h;exact (Array.getElem?_eq_some_iff.1 h).1)).trans h
theorem hid {p:Prop} (h:p):Hid p:=h
theorem sqR (n:Nat):n≤n:=Nat.le_refl n
theorem sqN (w:World) (o:Obj):Below w.heap.size w (w.alloc o):=(Below.refl _ _).alloc (Nat.le_refl _) _
theorem sqA {α:Type} {l:List α} {n k:Nat} (h:l.length=n) (hk:k<n):∃ x,l[k]?=some x:=⟨l[k]'(by omega),List.getElem?_eq_getElem _⟩
theorem sqT {α:Type} {l:List α} {n:Nat} (h:l.length=n):l.take n=l:=List.take_of_length_le (by omega)
theorem sqI (k:Nat):(0:Int)≤(k:Int):=by omega
theorem sqL {k n:Nat} (h:k<n):(k:Int)<(n:Int):=by omega
theorem sqB2 {w:World} {b:Nat} {a0 a1:Value} {t:TypeId} (h:Blk w b #[a0,a1] t):w.cell? ⟨b,0,none⟩=some a0∧w.cell? ⟨b,1,none⟩=some a1:=⟨h.cell 0 _ rfl,h.cell 1 _ rfl⟩
theorem sqB3 {w:World} {b:Nat} {a0 a1 a2:Value} {t:TypeId} (h:Blk w b #[a0,a1,a2] t):w.cell? ⟨b,0,none⟩=some a0∧w.cell? ⟨b,1,none⟩=some a1∧w.cell? ⟨b,2,none⟩=some a2:=⟨h.cell 0 _ rfl,h.cell 1 _ rfl,h.cell 2 _ rfl⟩
theorem sqB4 {w:World} {b:Nat} {a0 a1 a2 a3:Value} {t:TypeId} (h:Blk w b #[a0,a1,a2,a3] t):w.cell? ⟨b,0,none⟩=some a0∧w.cell? ⟨b,1,none⟩=some a1∧w.cell? ⟨b,2,none⟩=some a2∧w.cell? ⟨b,3,none⟩=some a3:=⟨h.cell 0 _ rfl,h.cell 1 _ rfl,h.cell 2 _ rfl,h.cell 3 _ rfl⟩
theorem sqB6 {w:World} {b:Nat} {a0 a1 a2 a3 a4 a5:Value} {t:TypeId} (h:Blk w b #[a0,a1,a2,a3,a4,a5] t):w.cell? ⟨b,0,none⟩=some a0∧w.cell? ⟨b,1,none⟩=some a1∧w.cell? ⟨b,2,none⟩=some a2∧w.cell? ⟨b,3,none⟩=some a3∧w.cell? ⟨b,4,none⟩=some a4∧w.cell? ⟨b,5,none⟩=some a5:=⟨h.cell 0 _ rfl,h.cell 1 _ rfl,h.cell 2 _ rfl,h.cell 3 _ rfl,h.cell 4 _ rfl,h.cell 5 _ rfl⟩
theorem sqF2 {w:World} {b:Nat} {cs:Array Value} {t:TypeId} (h:Blk w b cs t):w.frozen? ⟨b,0,none⟩=false∧w.frozen? ⟨b,1,none⟩=false:=⟨h.frozen 0,h.frozen 1⟩
theorem sqF3 {w:World} {b:Nat} {cs:Array Value} {t:TypeId} (h:Blk w b cs t):w.frozen? ⟨b,0,none⟩=false∧w.frozen? ⟨b,1,none⟩=false∧w.frozen? ⟨b,2,none⟩=false:=⟨h.frozen 0,h.frozen 1,h.frozen 2⟩
theorem sqF4 {w:World} {b:Nat} {cs:Array Value} {t:TypeId} (h:Blk w b cs t):w.frozen? ⟨b,0,none⟩=false∧w.frozen? ⟨b,1,none⟩=false∧w.frozen? ⟨b,2,none⟩=false∧w.frozen? ⟨b,3,none⟩=false:=⟨h.frozen 0,h.frozen 1,h.frozen 2,h.frozen 3⟩
theorem sqF6 {w:World} {b:Nat} {cs:Array Value} {t:TypeId} (h:Blk w b cs t):w.frozen? ⟨b,0,none⟩=false∧w.frozen? ⟨b,1,none⟩=false∧w.frozen? ⟨b,2,none⟩=false∧w.frozen? ⟨b,3,none⟩=false∧w.frozen? ⟨b,4,none⟩=false∧w.frozen? ⟨b,5,none⟩=false:=⟨h.frozen 0,h.frozen 1,h.frozen 2,h.frozen 3,h.frozen 4,h.frozen 5⟩
theorem sqC2 {w:World} {g o c:Nat} {cs:List Value} (h:∀ j,j<c→w.cell? ⟨g,o+j,none⟩=cs[j]?) (k:2≤c):w.cell? ⟨g,o+0,none⟩=cs[0]?∧w.cell? ⟨g,o+1,none⟩=cs[1]?:=⟨h 0 (by omega),h 1 (by omega)⟩
theorem sqC3 {w:World} {g o c:Nat} {cs:List Value} (h:∀ j,j<c→w.cell? ⟨g,o+j,none⟩=cs[j]?) (k:3≤c):w.cell? ⟨g,o+0,none⟩=cs[0]?∧w.cell? ⟨g,o+1,none⟩=cs[1]?∧w.cell? ⟨g,o+2,none⟩=cs[2]?:=⟨h 0 (by omega),h 1 (by omega),h 2 (by omega)⟩
theorem sqC4 {w:World} {g o c:Nat} {cs:List Value} (h:∀ j,j<c→w.cell? ⟨g,o+j,none⟩=cs[j]?) (k:4≤c):w.cell? ⟨g,o+0,none⟩=cs[0]?∧w.cell? ⟨g,o+1,none⟩=cs[1]?∧w.cell? ⟨g,o+2,none⟩=cs[2]?∧w.cell? ⟨g,o+3,none⟩=cs[3]?:=⟨h 0 (by omega),h 1 (by omega),h 2 (by omega),h 3 (by omega)⟩
theorem sqC5 {w:World} {g o c:Nat} {cs:List Value} (h:∀ j,j<c→w.cell? ⟨g,o+j,none⟩=cs[j]?) (k:5≤c):w.cell? ⟨g,o+0,none⟩=cs[0]?∧w.cell? ⟨g,o+1,none⟩=cs[1]?∧w.cell? ⟨g,o+2,none⟩=cs[2]?∧w.cell? ⟨g,o+3,none⟩=cs[3]?∧w.cell? ⟨g,o+4,none⟩=cs[4]?:=⟨h 0 (by omega),h 1 (by omega),h 2 (by omega),h 3 (by omega),h 4 (by omega)⟩
theorem sqC6 {w:World} {g o c:Nat} {cs:List Value} (h:∀ j,j<c→w.cell? ⟨g,o+j,none⟩=cs[j]?) (k:6≤c):w.cell? ⟨g,o+0,none⟩=cs[0]?∧w.cell? ⟨g,o+1,none⟩=cs[1]?∧w.cell? ⟨g,o+2,none⟩=cs[2]?∧w.cell? ⟨g,o+3,none⟩=cs[3]?∧w.cell? ⟨g,o+4,none⟩=cs[4]?∧w.cell? ⟨g,o+5,none⟩=cs[5]?:=⟨h 0 (by omega),h 1 (by omega),h 2 (by omega),h 3 (by omega),h 4 (by omega),h 5 (by omega)⟩
theorem sqE {α:Type} {l:List α} {k:Nat} {x:α} (h:l[k]?=some x):l≠[]:=by rintro rfl;simp at h
theorem sqM {n c:Nat} (h:n≤c) (k:c≤maxLen):n≤9223372036854775807:=by unfold maxLen at k;omega
theorem sqO {S:Nat→Prop} {w w':World} (h:Below w.heap.size w w'):SameOn S w w':=SameOn.of_below h
theorem sqK {w w':World} {a:Addr} (h:w'.heap[a.block]?=w.heap[a.block]?):w'.cell? a=w.cell? a:=World.cell?_of_block h
abbrev Bz (w w':World):Prop:=Below w.heap.size w w'
def KeepOn (fp:List Nat) (w w':World):Prop:=∀ a ∈ fp,w'.heap[a]?=w.heap[a]?
theorem KeepOn.sub {fp fp':List Nat} {w w':World} (h:KeepOn fp w w') (hs:∀ a ∈ fp',a ∈ fp):KeepOn fp' w w':=fun a ha=>h a (hs a ha)
theorem KeepOn.below {fp:List Nat} {w w':World} {N:Nat} (h:Below N w w') (hs:∀ a ∈ fp,a<N):KeepOn fp w w':=fun a ha=>h.block a (hs a ha)
structure Off (fp:List Nat) (w w':World):Prop where
 os:w'.os=w.os
 tape:w'.tape=w.tape
 output:w'.output=w.output
 size:w.heap.size≤w'.heap.size
 block:∀ a,a<w.heap.size→a ∉ fp→w'.heap[a]?=w.heap[a]?
theorem Off.refl (fp:List Nat) (w:World):Off fp w w:=⟨rfl,rfl,rfl,Nat.le_refl _,fun _ _ _=>rfl⟩
theorem Off.trans {fp:List Nat} {a b c:World} (h:Off fp a b) (k:Off fp b c):Off fp a c :=
 ⟨k.os.trans h.os,k.tape.trans h.tape,k.output.trans h.output,Nat.le_trans h.size k.size,fun g hg hf=>(k.block g (Nat.lt_of_lt_of_le hg h.size) hf).trans (h.block g hg hf)⟩
theorem Off.sub {fp fp':List Nat} {a b:World} (h:Off fp a b) (hs:∀ g ∈ fp,g ∈ fp'):Off fp' a b :=
 ⟨h.os,h.tape,h.output,h.size,fun g hg hf=>h.block g hg (fun hm=>hf (hs g hm))⟩
theorem Off.of_below {fp:List Nat} {a b:World} (h:Bz a b):Off fp a b:=⟨h.os,h.tape,h.output,h.size,fun g hg _=>h.block g hg⟩
theorem Off.of_grown {fp:List Nat} {a b:World} {g:Nat} (h:a.grownBy b (some g)) (hg:g ∈ fp):Off fp a b :=
 ⟨h.os,h.tape,h.output,h.size,fun j hj hf=>h.block j hj (by simp;intro e;exact hf (e ▸ hg))⟩
theorem Off.below {fp:List Nat} {a b:World} {N:Nat} (h:Off fp a b) (hs:∀ g ∈ fp,N≤g) (hN:N≤a.heap.size):Below N a b :=
 ⟨h.os,h.tape,h.output,h.size,fun j hj=>h.block j (Nat.lt_of_lt_of_le hj hN) (fun hm=>by have:=hs j hm;omega)⟩
theorem Off.keep {fp f:List Nat} {a b:World} (h:Off fp a b) (hs:∀ g ∈ f,g<a.heap.size∧g ∉ fp):KeepOn f a b:=fun g hg=>h.block g (hs g hg).1 (hs g hg).2
theorem Off.under {fp:List Nat} {w A B:World} {N:Nat} (h:Off fp w A) (hN:w.heap.size≤N) (hb:Below N A B):Off fp w B :=
 ⟨hb.os.trans h.os,hb.tape.trans h.tape,hb.output.trans h.output,Nat.le_trans h.size hb.size,fun g hg hf=>(hb.block g (by omega)).trans (h.block g hg hf)⟩
def ORows {α:Type} (w:World) (e:TypeId) (c:Nat) (R:List Value→α→List Nat→Prop) (v:Value) (xs:List α) (fp:List Nat):Prop :=
 (xs = []∧fp = []∧∃ p cap,v=.slice p 0 cap∧cap≤maxLen) ∨
  (xs≠[]∧∃ (cells:List Value) (g cap:Nat) (fps:List (List Nat)),w.ownsRow 0 e c v xs.length cells∧v=.slice (some ⟨g,0,none⟩) xs.length cap∧fps.length=xs.length∧fp=g :: fps.flatten ∧
   ∀ (i:Nat) x f,xs[i]?=some x→fps[i]?=some f→∃ cs:List Value,cs.length=c∧(∀ j,j<c→cells[i * c+j]?=cs[j]?)∧R cs x f)
theorem owns_block {w w':World} {e:TypeId} {c g n cap:Nat} {v:Value} {cells:List Value} (h:w.ownsRow 0 e c v n cells) (hv:v=.slice (some ⟨g,0,none⟩) n cap) (hk:w'.heap[g]?=w.heap[g]?):w'.ownsRow 0 e c v n cells:=by
 refine ⟨h.1,?_⟩
 rcases h.2 with hn | ⟨g',cap',cur,hv',hb,hg,hr⟩
 · exact .inl hn
 · have:g'=g:=by rw [hv] at hv';simp at hv';exact hv'.1.symm
   subst this;exact .inr ⟨g',cap',cur,hv',hb,hk.trans hg,hr⟩
theorem owns_lt {w:World} {e:TypeId} {c g n cap:Nat} {v:Value} {cells:List Value} (h:w.ownsRow 0 e c v n cells) (hv:v=.slice (some ⟨g,0,none⟩) n cap):g<w.heap.size:=by
 rcases h.2 with hn | ⟨g',cap',cur,hv',hb,hg,hr⟩
 · rw [hn.1] at hv;cases hv
 · have:g'=g:=by rw [hv] at hv';simp at hv';exact hv'.1.symm
   subst this;exact (Array.getElem?_eq_some_iff.1 hg).1
theorem ORows.shape {α:Type} {w:World} {e:TypeId} {c:Nat} {R:List Value→α→List Nat→Prop} {v:Value} {xs:List α} {fp:List Nat} (h:ORows w e c R v xs fp):∃ p cap,v=.slice p xs.length cap∧xs.length≤cap∧cap≤maxLen:=by
 rcases h with ⟨rfl,_,p,cap,hv,hc⟩ | ⟨_,cells,g,cap,fps,ho,hv,_⟩
 · exact ⟨p,cap,hv,Nat.zero_le _,hc⟩
 · rcases ho.2 with hn | ⟨g',cap',cur,hv',hb,hg,hr⟩
   · rw [hn.1] at hv;cases hv
   · exact ⟨_,_,hv',hr.1,hr.2.1⟩
theorem ORows.rows {α:Type} {w:World} {e:TypeId} {c:Nat} {R:List Value→α→List Nat→Prop} {R':List Value→α→Prop} {S:Nat→Prop} {v:Value} {xs:List α} {fp:List Nat} (h:ORows w e c R v xs fp) (hS:∀ a ∈ fp,S a)
 (hR:∀ cs x f,x ∈ xs→(∀ a ∈ f,a ∈ fp)→R cs x f→R' cs x):Rows w S c R' v xs:=by
 obtain ⟨p,cap,hv,h1,h2⟩:=h.shape;refine ⟨p,cap,hv,h1,h2,fun hne=>?_⟩
 rcases h with h | ⟨_,cells,g,cap',fps,ho,hv',hl,rfl,hat⟩
 · exact absurd h.1 hne
 have hp:p=some ⟨g,0,none⟩:=(by rw [hv] at hv';simp at hv';exact hv'.1);refine ⟨g,0,hp,hS g (by simp),owns_lt ho hv',fun i x hi=>?_⟩;have hil:i<xs.length:=(List.getElem?_eq_some_iff.1 hi).1;obtain ⟨f,hf⟩:∃ f,fps[i]?=some f:=⟨fps[i]'(by rw [hl];exact hil),List.getElem?_eq_getElem _⟩;obtain ⟨cs,hcl,hcs,hr⟩:=hat i x f hi hf;refine ⟨cs,hcl,fun j hj=>?_,hR cs x f (List.mem_of_getElem? hi) (fun a ha=>?_) hr⟩
 · rw [← hcs j hj,Nat.zero_add]
   rw [hv'] at ho;refine ho.cellAt (i * c+j) ?_;have:i * c+c≤xs.length * c:=(by rw [← Nat.succ_mul];exact Nat.mul_le_mul_right c hil);omega
 · exact List.mem_cons_of_mem _ (List.mem_flatten.2 ⟨f,List.mem_of_getElem? hf,ha⟩)
theorem ORows.keep {α:Type} {w w':World} {e:TypeId} {c:Nat} {R R':List Value→α→List Nat→Prop} {v:Value} {xs:List α} {fp:List Nat} (h:ORows w e c R v xs fp) (hk:KeepOn fp w w')
 (hR:∀ cs x f,x ∈ xs→(∀ a ∈ f,a ∈ fp)→R cs x f→R' cs x f):ORows w' e c R' v xs fp:=by
 rcases h with h | ⟨hne,cells,g,cap',fps,ho,hv',hl,rfl,hat⟩
 · exact .inl h
 refine .inr ⟨hne,cells,g,cap',fps,owns_block ho hv' (hk g (by simp)),hv',hl,rfl,fun i x f hi hf=>?_⟩;obtain ⟨cs,hcl,hcs,hr⟩:=hat i x f hi hf;exact ⟨cs,hcl,hcs,hR cs x f (List.mem_of_getElem? hi) (fun a ha=>List.mem_cons_of_mem _ (List.mem_flatten.2 ⟨f,List.mem_of_getElem? hf,ha⟩)) hr⟩
theorem ORows.lt {α:Type} {w:World} {e:TypeId} {c:Nat} {R:List Value→α→List Nat→Prop} {v:Value} {xs:List α} {fp:List Nat} (h:ORows w e c R v xs fp) (hR:∀ cs x f,R cs x f→∀ a ∈ f,a<w.heap.size):∀ a ∈ fp,a<w.heap.size:=by
 rcases h with ⟨_,rfl,_⟩ | ⟨hne,cells,g,cap',fps,ho,hv',hl,rfl,hat⟩
 · intro a ha;simp at ha
 · intro a ha
   rcases List.mem_cons.1 ha with rfl | ha
   · exact owns_lt ho hv'
   · obtain ⟨f,hf,ha⟩:=List.mem_flatten.1 ha
     obtain ⟨i,hi,rfl⟩:=List.mem_iff_getElem.1 hf;obtain ⟨cs,_,_,hr⟩:=hat i (xs[i]'(by rw [← hl];exact hi)) _ (List.getElem?_eq_getElem _) (List.getElem?_eq_getElem hi);exact hR _ _ _ hr a ha
theorem ORows.set {α:Type} {w':World} {e:TypeId} {c:Nat} {R R':List Value→α→List Nat→Prop} {v:Value} {xs:List α} {cells cells':List Value} {g cap:Nat} {fps:List (List Nat)} {i:Nat} {x':α} {f:List Nat}
 (hne:xs≠[]) (ho:w'.ownsRow 0 e c v xs.length cells') (hv:v=.slice (some ⟨g,0,none⟩) xs.length cap) (hl:fps.length=xs.length)
 (hat:∀ (i:Nat) x f,xs[i]?=some x→fps[i]?=some f→∃ cs:List Value,cs.length=c∧(∀ j,j<c→cells[i * c+j]?=cs[j]?)∧R cs x f) (hf:fps[i]?=some f)
 (hother:∀ m,(m<i * c∨i * c+c≤m)→cells'[m]?=cells[m]?) (cs':List Value) (hcl:cs'.length=c) (hcs:∀ j,j<c→cells'[i * c+j]?=cs'[j]?) (hr:R' cs' x' f)
 (hk:∀ (j:Nat) y f' cs,j≠i→fps[j]?=some f'→R cs y f'→R' cs y f'):ORows w' e c R' v (xs.set i x') (g :: fps.flatten):=by
 refine .inr ⟨fun h=>hne (by cases xs with | nil=>rfl | cons a l=>cases i <;> simp at h),cells',g,cap,fps,by rw [List.length_set];exact ho,by rw [List.length_set];exact hv,by rw [List.length_set];exact hl,rfl,fun j y f' hj hf'=>?_⟩;by_cases hji:j=i
 · subst hji
   have hjl:j<xs.length:=(by rw [← hl];exact (List.getElem?_eq_some_iff.1 hf).1);rw [List.getElem?_set_self hjl] at hj;obtain rfl:=Option.some.inj hj;obtain rfl:=Option.some.inj (hf.symm.trans hf');exact ⟨cs',hcl,hcs,hr⟩
 · rw [List.getElem?_set_ne (fun h=>hji h.symm)] at hj
   obtain ⟨cs,h1,h2,h3⟩:=hat j y f' hj hf';refine ⟨cs,h1,fun q hq=>?_,hk j y f' cs hji hf' h3⟩;rw [hother _ ?_]
   · exact h2 q hq
   · rcases Nat.lt_or_gt_of_ne hji with h | h
     · left;have:j * c+c≤i * c:=by rw [← Nat.succ_mul];exact Nat.mul_le_mul_right c h
       omega
     · right;have:i * c+c≤j * c:=by rw [← Nat.succ_mul];exact Nat.mul_le_mul_right c h
       omega
theorem nodup_parts {g:Nat} {fps:List (List Nat)} (h:(g :: fps.flatten).Nodup) :
 (∀ f ∈ fps,g ∉ f∧f.Nodup)∧∀ (i j:Nat) f f',i≠j→fps[i]?=some f→fps[j]?=some f'→∀ a ∈ f,a ∉ f':=by
 rw [List.nodup_cons] at h;obtain ⟨hg,hp⟩:=h;obtain ⟨h1,h2⟩:=List.pairwise_flatten.1 hp;refine ⟨fun f hf=>⟨fun hm=>hg (List.mem_flatten.2 ⟨f,hf,hm⟩),h1 f hf⟩,fun i j f f' hij hi hj a ha ha'=>?_⟩;rw [List.pairwise_iff_getElem] at h2;obtain ⟨hi1,rfl⟩:=List.getElem?_eq_some_iff.1 hi;obtain ⟨hj1,rfl⟩:=List.getElem?_eq_some_iff.1 hj
 rcases Nat.lt_or_gt_of_ne hij with hlt | hlt
 · exact h2 i j hi1 hj1 hlt a ha a ha' rfl
 · exact h2 j i hj1 hi1 hlt a ha' a ha rfl
def mix {α:Type} (i:Nat) (ys xs:List α):List α:=ys.take i ++ xs.drop i
theorem mix_zero {α:Type} (ys xs:List α):mix 0 ys xs=xs:=by simp [mix]
theorem mix_all {α:Type} {ys xs:List α} {i:Nat} (hl:ys.length=xs.length) (h:xs.length≤i):mix i ys xs=ys:=by
 unfold mix;rw [List.take_of_length_le (by omega),List.drop_of_length_le h,List.append_nil]
theorem mix_length {α:Type} {ys xs:List α} {i:Nat} (hl:ys.length=xs.length):(mix i ys xs).length=xs.length:=by
 unfold mix;rw [List.length_append,List.length_take,List.length_drop];omega
theorem mix_at {α:Type} {ys xs:List α} {i:Nat} (hl:ys.length=xs.length) (hi:i<xs.length):(mix i ys xs)[i]?=xs[i]?:=by
 unfold mix;rw [List.getElem?_append_right (by rw [List.length_take];omega),List.length_take,List.getElem?_drop]
 congr 1;omega
theorem mix_succ {α:Type} {ys xs:List α} {i:Nat} {y:α} (hl:ys.length=xs.length) (hy:ys[i]?=some y):(mix i ys xs).set i y=mix (i+1) ys xs:=by
 have hi:i<ys.length:=(List.getElem?_eq_some_iff.1 hy).1;unfold mix;rw [List.set_append_right (h:=by rw [List.length_take];omega),List.length_take,Nat.min_eq_left (by omega),Nat.sub_self,List.take_add_one,hy,List.append_assoc]
 congr 1
 rw [List.drop_eq_getElem_cons (i:=i) (l:=xs) (by omega)]
 rfl
def markL {α:Type} (f:Nat→α→α) (c:α→Nat):Nat→List α→List α
 | _,[]=>[]
 | k,x :: xs=>f k x :: markL f c (k+c x) xs
theorem markL_length {α:Type} (f:Nat→α→α) (c:α→Nat):∀ (k:Nat) (xs:List α),(markL f c k xs).length=xs.length
 | _,[]=>rfl
 | k,x :: xs=>by simp [markL,markL_length f c (k+c x) xs]
theorem markL_at {α:Type} (f:Nat→α→α) (c:α→Nat):∀ (k:Nat) (xs:List α) (i:Nat) (x:α),xs[i]?=some x→(markL f c k xs)[i]?=some (f (k+((xs.take i).map c).sum) x)
 | _,[],i,x,h=>by simp at h
 | k,y :: xs,0,x,h=>by simp at h;subst h;simp [markL]
 | k,y :: xs,i+1,x,h=>by
  simp at h;simp only [markL,List.getElem?_cons_succ,markL_at f c (k+c y) xs i x h,List.take_succ_cons,List.map_cons,List.sum_cons,Nat.add_assoc]
structure Made {α:Type} (w wr:World) (G n:Nat) (e:TypeId) (c:Nat) (O:World→List Value→α→List Nat→Prop) (es:List α) (k:Nat) (xs:List Value) (fps:List (List Nat)):Prop where
 own:wr.ownsRow G e c (.slice (some ⟨G,0,none⟩) n n) n xs
 len:fps.length=k
 nd:fps.flatten.Nodup
 rng:∀ a ∈ fps.flatten,G<a∧a<wr.heap.size
 el:∀ (i:Nat) x f,es[i]?=some x→fps[i]?=some f→∃ cs:List Value,cs.length=c∧(∀ j,j<c→xs[i * c+j]?=cs[j]?)∧O wr cs x f
 below:Below G w wr
 sz:G+1≤wr.heap.size
variable {α:Type} {w wr:World} {G n c k:Nat} {e:TypeId} {O:World→List Value→α→List Nat→Prop} {es:List α} {xs:List Value} {fps:List (List Nat)}
theorem Made.start {M:Array Value} (hM:M.size=n * c) (hn:n≤maxLen):Made w (w.alloc (.cells M e)) w.heap.size n e c O es 0 M.toList [] :=
 ⟨World.ownsRow_lit w M n (sqR _) hn hM,rfl,by simp,fun a ha=>by simp at ha,fun i x f _ hf=>by simp at hf,(sqN _ _),by rw [alloc_hs];exact Nat.le_refl _⟩
theorem Made.step (hO:∀ w w' cs x f,O w cs x f→KeepOn f w w'→O w' cs x f) (h:Made w wr G n e c O es k xs fps) {w1 w2:World} {x:α} {cs xs':List Value} {f:List Nat} (hx:es[k]?=some x) (hb:Bz wr w1) (ho:O w1 cs x f)
 (hnd:f.Nodup) (hf:∀ a ∈ f,wr.heap.size≤a∧a<w1.heap.size) (hcl:cs.length=c) (hown:w2.ownsRow G e c (.slice (some ⟨G,0,none⟩) n n) n xs') (hgr:w1.grownBy w2 (some G))
 (hlow:∀ m,m<k * c→xs'[m]?=xs[m]?) (hself:∀ j,j<c→xs'[k * c+j]?=cs[j]?):Made w w2 G n e c O es (k+1) xs' (fps ++ [f]):=by
 have h1:=h.sz;have h2:=hb.size;have h3:=hgr.size;refine ⟨hown,by rw [List.length_append,h.len];rfl,?_,?_,?_,?_,by omega⟩
 · rw [List.flatten_append,List.nodup_append]
   refine ⟨h.nd,by simpa using hnd,fun a ha b hb'=>?_⟩;have:=(h.rng a ha).2;have:=(hf b (by simpa using hb')).1;omega
 · intro a ha
   rw [List.flatten_append,List.mem_append] at ha
   rcases ha with ha | ha
   · have:=h.rng a ha;omega
   · have:=hf a (by simpa using ha);omega
 · intro i y f' hy hf'
   by_cases hik:i<k
   · rw [List.getElem?_append_left (by rw [h.len];exact hik)] at hf'
     obtain ⟨cs',g1,g2,g3⟩:=h.el i y f' hy hf';refine ⟨cs',g1,fun j hj=>?_,hO _ _ _ _ _ g3 (fun a ha=>?_)⟩
     · rw [hlow]
       · exact g2 j hj
       · have:i * c+c≤k * c:=by rw [← Nat.succ_mul];exact Nat.mul_le_mul_right c hik
         omega
     · have hr:=h.rng a (List.mem_flatten.2 ⟨f',List.mem_of_getElem? hf',ha⟩)
       exact (hgr.block a (by omega) (by simp;omega)).trans (hb.block a hr.2)
   · have hil:i<k+1:=by
      have:=(List.getElem?_eq_some_iff.1 hf').1;rw [List.length_append,h.len] at this;simpa using this
     obtain rfl:i=k:=(by omega);obtain rfl:x=y:=Option.some.inj (hx.symm.trans hy);rw [List.getElem?_append_right (by rw [h.len];exact Nat.le_refl _),h.len,Nat.sub_self] at hf';simp at hf';subst hf';exact ⟨cs,hcl,hself,hO _ _ _ _ _ ho (fun a ha=>by have:=hf a ha;exact hgr.block a (by omega) (by simp;omega))⟩
 · exact h.below.trans ((hb.mono (by omega)).trans ⟨hgr.os,hgr.tape,hgr.output,hgr.size,fun j hj=>hgr.block j (by omega) (by simp;omega)⟩)
theorem Made.done (h:Made w wr G n e c O es n xs fps) (hn:es.length=n) (hm:n≤maxLen):∃ fp,ORows wr e c (O wr) (.slice (some ⟨G,0,none⟩) n n) es fp∧fp.Nodup∧∀ a ∈ fp,G≤a∧a<wr.heap.size:=by
 by_cases hne:es = []
 · subst hne
   exact ⟨[],.inl ⟨rfl,rfl,_,_,by rw [← hn];rfl,hm⟩,by simp,fun a ha=>by simp at ha⟩
 · refine ⟨G :: fps.flatten,.inr ⟨hne,xs,G,n,fps,?_,by rw [hn],by rw [h.len,hn],rfl,h.el⟩,?_,?_⟩
   · rw [hn]
     obtain ⟨h1,h2⟩:=h.own;refine ⟨h1,h2.imp id ?_⟩;rintro ⟨g,cap,cur,a1,a2,a3⟩;exact ⟨g,cap,cur,a1,Nat.zero_le _,a3⟩
   · rw [List.nodup_cons]
     exact ⟨fun hm=>by have:=(h.rng G hm).1;omega,h.nd⟩
   · intro a ha
     have:=h.sz
     rcases List.mem_cons.1 ha with rfl | ha
     · omega
     · have:=h.rng a ha;omega
def ToO {α:Type} (F:FuncId) (H:World→Value→α→Prop) (O:World→Value→α→List Nat→Prop) (wt:α→Nat):Prop :=
 ∀ (w:World) (v:Value) (x:α),H w v x→wt x≤16777216→Calls Tryz.prog F #[v] w fun e w'=>∃ u fp,e=.returned u∧O w' u x fp∧fp.Nodup∧(∀ a ∈ fp,w.heap.size≤a∧a<w'.heap.size)∧Bz w w'
def HStr (cs:List Value) (s:ByteArray):Prop:=cs = [.string s]∧okS s
abbrev StrR (w:World) (v:Value) (xs:List ByteArray):Prop:=Rows w All 1 HStr v xs
theorem StrR.mono {w w':World} {v:Value} {xs:List ByteArray} (h:StrR w v xs) (hs:SameOn All w w'):StrR w' v xs:=Rows.mono h hs (fun _ h=>h) (fun _ _ _ h=>h)
theorem StrR.okS {w:World} {v:Value} {xs:List ByteArray} (h:StrR w v xs):∀ x ∈ xs,Go.Proofs.YtdhlonogmnkemaaGreatDoor.okS x:=by
 intro x hx;obtain ⟨p,cap,_,_,_,hr⟩:=h;obtain ⟨i,hi⟩:=List.mem_iff_getElem?.1 hx;obtain ⟨g,off,_,_,_,hat⟩:=hr (by intro e;rw [e] at hi;simp at hi);obtain ⟨cs,_,_,hv⟩:=hat i x hi;exact hv.2
def strs (l:List ByteArray):List Value:=l.map Value.string
theorem strs_length (l:List ByteArray):(strs l).length=l.length:=by simp [strs]
theorem strs_append (a b:List ByteArray):strs (a ++ b)=strs a ++ strs b:=by simp [strs]
theorem strs_oneCell (l:List ByteArray):∀ u ∈ strs l,u.oneCell'=true:=by
 intro u hu;simp only [strs,List.mem_map] at hu;obtain ⟨b,_,rfl⟩:=hu
 rfl
theorem info_str:(Tryz.prog.info? 9).map (fun i=>(i.zero,i.size,i.bytes))=some (some (.string ⟨#[]⟩),1,16):=by kernel_rfl
def OwnS (w:World) (B:Nat) (v:Value) (l:List ByteArray):Prop:=w.ownsRow B 9 1 v l.length (strs l)∧B≤w.heap.size
theorem OwnS.next {w w':World} {B:Nat} {v:Value} {l:List ByteArray} (h:OwnS w B v l) (hb:Bz w w'):OwnS w' B v l:=by
 refine ⟨⟨h.1.1,?_⟩,Nat.le_trans h.2 hb.size⟩
 rcases h.1.2 with hn | ⟨g,cap,cur,hv,hB,hg,hr⟩
 · exact .inl hn
 · exact .inr ⟨g,cap,cur,hv,hB,(hb.block g (Array.getElem?_eq_some_iff.1 hg).1).trans hg,hr⟩
theorem OwnS.off {w:World} {B:Nat} {v:Value} {l:List ByteArray} (h:OwnS w B v l) {b:Nat} (hb:v.ownBlock=some b):B≤b∧b<w.heap.size:=by
 rcases h.1.2 with hn | ⟨g',cap',cur,hv',hB,hg,hr⟩
 · rw [hn.1] at hb;cases hb
 · rw [hv'] at hb
   simp [Value.ownBlock] at hb;subst hb;exact ⟨hB,(Array.getElem?_eq_some_iff.1 hg).1⟩
theorem OwnS.below {w w':World} {B:Nat} {v:Value} {l:List ByteArray} (h:OwnS w B v l) (hg:w.grownBy w' v.ownBlock):Below B w w' :=
 ⟨hg.os,hg.tape,hg.output,hg.size,fun j hj=>hg.block j (by have:=h.2;omega) (fun e=>by have:=(h.off e.symm).1;omega)⟩
theorem OwnS.blk {w w':World} {B b:Nat} {v:Value} {l:List ByteArray} {cs:Array Value} {t:TypeId} (h:OwnS w B v l) (hg:w.grownBy w' v.ownBlock) (hb:Blk w b cs t) (hne:v.ownBlock≠some b):Blk w' b cs t :=
 (hg.block b hb.lt (fun e=>hne e.symm)).trans hb
theorem OwnS.of {w':World} {B n:Nat} {v:Value} {l m:List ByteArray} {xs:List Value} (h:w'.ownsRow B 9 1 v n xs) (hn:n=(l ++ m).length) (hx:xs=strs l ++ strs m) (hB:B≤w'.heap.size):OwnS w' B v (l ++ m):=by
 subst hn;subst hx;rw [← strs_append] at h;exact ⟨h,hB⟩
theorem OwnS.fresh {w:World}:OwnS (w.alloc (.cells #[] 9)) w.heap.size (.slice (some ⟨w.heap.size,0,none⟩) 0 0) []:=by
 refine ⟨⟨by simp [strs],.inr ⟨w.heap.size,0,#[],rfl,Nat.le_refl _,?_,Nat.le_refl _,Nat.zero_le _,rfl,rfl⟩⟩,by simp⟩;exact Blk.new (w:=w) (cs:=#[]) (t:=9)
theorem OwnS.rows {w:World} {B:Nat} {v:Value} {l:List ByteArray} (h:OwnS w B v l) (ho:∀ x ∈ l,okS x):Rows w (fun g=>B≤g) 1 HStr v l:=by
 obtain ⟨h,_⟩:=h
 rcases h.2 with ⟨rfl,hn⟩ | ⟨g,cap,cur,rfl,hB,hg,h1,h2,h3,h4⟩
 · obtain rfl:=List.length_eq_zero_iff.1 hn
   exact Rows.nil (Nat.zero_le _)
 · refine ⟨_,cap,rfl,h1,h2,fun hne=>⟨g,0,rfl,hB,(Array.getElem?_eq_some_iff.1 hg).1,fun i x hi=>⟨[.string x],rfl,fun j hj=>?_,rfl,ho x (List.mem_of_getElem? hi)⟩⟩⟩
   obtain rfl:j=0:=(by omega);rw [show 0+i * 1+0=i by omega];exact (h.cellAt i (by have:=(List.getElem?_eq_some_iff.1 hi).1;omega)).trans (by simp [strs,hi])
theorem OwnS.strR {w:World} {B:Nat} {v:Value} {l:List ByteArray} (h:OwnS w B v l) (ho:∀ x ∈ l,okS x):StrR w v l:=Rows.mono (h.rows ho) ⟨Nat.le_refl _,fun _ _ _=>rfl⟩ (fun _ _=>trivial) (fun _ _ _ h=>h)
def StrV (w:World) (v:Value) (xs:List ByteArray):Prop:=StrR w v xs∧∀ n c,v=.slice none n c→v=.slice none 0 0
theorem OwnS.strV {w:World} {B:Nat} {v:Value} {l:List ByteArray} (h:OwnS w B v l) (ho:∀ x ∈ l,okS x):StrV w v l:=by
 refine ⟨h.strR ho,fun n c hv=>?_⟩
 rcases h.1.2 with hn | ⟨g,cap,cur,hv',_⟩
 · exact hn.1
 · rw [hv] at hv';simp at hv'
theorem StrV.next {w w':World} {v:Value} {xs:List ByteArray} (h:StrV w v xs) (hs:SameOn All w w'):StrV w' v xs:=⟨h.1.mono hs,h.2⟩
def hasS (l:List ByteArray) (s:ByteArray):Bool:=l.any fun x=>x.toList == s.toList
def onceS (l:List ByteArray):List ByteArray→List ByteArray
 | []=>l
 | y :: ys=>onceS (if hasS l y then l else l ++ [y]) ys
theorem onceS_snoc (l ys:List ByteArray) (y:ByteArray):onceS l (ys ++ [y])=if hasS (onceS l ys) y then onceS l ys else onceS l ys ++ [y]:=by
 induction ys generalizing l with
 | nil=>rfl
 | cons z zs ih=>exact ih _
theorem onceS_length (l ys:List ByteArray):(onceS l ys).length≤l.length+ys.length:=by
 induction ys generalizing l with
 | nil=>simp [onceS]
 | cons z zs ih =>
  have:=ih (if hasS l z then l else l ++ [z])
  have h2:(if hasS l z then l else l ++ [z]).length≤l.length+1:=by split <;> simp
  simp only [onceS,List.length_cons];omega
theorem onceS_mem (l ys:List ByteArray):∀ x ∈ onceS l ys,x ∈ l∨x ∈ ys:=by
 induction ys generalizing l with
 | nil=>intro x hx;exact .inl hx
 | cons z zs ih =>
  intro x hx
  rcases ih _ x hx with h | h
  · split at h
    · exact .inl h
    · rcases List.mem_append.1 h with h | h
      · exact .inl h
      · simp at h;subst h;exact .inr (by simp)
  · exact .inr (by simp [h])
def GrowO {α:Type} (e:TypeId) (c:Nat) (O:World→List Value→α→List Nat→Prop) (w:World) (B C:Nat) (v:Value) (xs:List α):Prop :=
 ∃ (cells:List Value) (fps:List (List Nat)),w.ownsRow B e c v xs.length cells∧fps.length=xs.length∧fps.flatten.Nodup ∧
  (∀ (i:Nat) x f,xs[i]?=some x→fps[i]?=some f→∃ cs:List Value,cs.length=c∧(∀ j,j<c→cells[i * c+j]?=cs[j]?)∧O w cs x f) ∧
  (∀ a ∈ fps.flatten,B≤a∧a<C∧v.ownBlock≠some a)∧(∀ a,v.ownBlock=some a→B≤a∧a<C)∧B≤C∧C≤w.heap.size
def KeepsC {α:Type} (O:World→List Value→α→List Nat→Prop):Prop:=∀ (w w':World) (cs:List Value) (x:α) (fp:List Nat),O w cs x fp→KeepOn fp w w'→O w' cs x fp
section
variable {α:Type} {e:TypeId} {c:Nat} {O:World→List Value→α→List Nat→Prop} {w w':World} {B C:Nat} {v:Value} {xs:List α}
theorem ownsRow_blk {n:Nat} {cells:List Value} (h:w.ownsRow B e c v n cells) (hk:∀ a,v.ownBlock=some a→w'.heap[a]?=w.heap[a]?):w'.ownsRow B e c v n cells:=by
 refine ⟨h.1,?_⟩
 rcases h.2 with hn | ⟨g,cap,cur,hv,hB,hg,hr⟩
 · exact .inl hn
 · exact .inr ⟨g,cap,cur,hv,hB,(hk g (by rw [hv];rfl)).trans hg,hr⟩
theorem GrowO.keep (hO:KeepsC O) (h:GrowO e c O w B C v xs) (hs:w.heap.size≤w'.heap.size) (hk:∀ a,B≤a→a<C→w'.heap[a]?=w.heap[a]?):GrowO e c O w' B C v xs:=by
 obtain ⟨cells,fps,h1,h2,h3,h4,h5,h6,h7,h8⟩:=h;refine ⟨cells,fps,ownsRow_blk h1 (fun a ha=>hk a (h6 a ha).1 (h6 a ha).2),h2,h3,fun i x f hi hf=>?_,h5,h6,h7,Nat.le_trans h8 hs⟩;obtain ⟨cs,g1,g2,g3⟩:=h4 i x f hi hf
 exact ⟨cs,g1,g2,hO _ _ _ _ _ g3 (fun a ha=>by
  have:=h5 a (List.mem_flatten.2 ⟨f,List.mem_of_getElem? hf,ha⟩)
  exact hk a this.1 this.2.1)⟩
theorem GrowO.next (hO:KeepsC O) (h:GrowO e c O w B C v xs) (hb:Bz w w'):GrowO e c O w' B C v xs:=by
 have h8:C≤w.heap.size:=(by obtain ⟨_,_,_,_,_,_,_,_,_,h8⟩:=h;exact h8);exact h.keep hO hb.size (fun a _ ha=>hb.block a (by omega))
theorem GrowO.off (hO:KeepsC O) {pb:Nat} (h:GrowO e c O w B C v xs) (ho:Off [pb] w w') (hp:pb<B):GrowO e c O w' B C v xs:=by
 have h8:C≤w.heap.size:=(by obtain ⟨_,_,_,_,_,_,_,_,_,h8⟩:=h;exact h8);exact h.keep hO ho.size (fun a h1 h2=>ho.block a (by omega) (by simp;omega))
theorem GrowO.nil (h:B≤w.heap.size):GrowO e c O w B B (.slice none 0 0) [] :=
 ⟨[],[],⟨by simp,.inl ⟨rfl,rfl⟩⟩,rfl,by simp,fun i x f hi=>by simp at hi,fun a ha=>by simp at ha,fun a ha=>by simp [Value.ownBlock] at ha,Nat.le_refl _,h⟩
theorem GrowO.fresh:GrowO e c O (w.alloc (.cells #[] e)) w.heap.size (w.heap.size+1) (.slice (some ⟨w.heap.size,0,none⟩) 0 0) []:=by
 refine ⟨[],[],⟨by simp,.inr ⟨w.heap.size,0,#[],rfl,Nat.le_refl _,Blk.new (w:=w) (cs:=#[]) (t:=e),Nat.le_refl _,Nat.zero_le _,?_,by simp⟩⟩,rfl,by simp,fun i x f hi=>by simp at hi,fun a ha=>by simp at ha,fun a ha=>?_,by omega,by simp⟩
 · simp
 · simp [Value.ownBlock] at ha;subst ha;exact ⟨Nat.le_refl _,by omega⟩
theorem GrowO.shape (h:GrowO e c O w B C v xs):∃ p cap,v=.slice p xs.length cap∧xs.length≤cap∧cap≤maxLen:=by
 obtain ⟨cells,fps,h1,h2,-⟩:=h
 rcases h1.2 with ⟨hv,hn⟩ | ⟨g,cap,cur,hv,hb,hg,hc,hm,hr⟩
 · exact ⟨none,0,by rw [hv,hn],by omega,Nat.zero_le _⟩
 · exact ⟨_,cap,hv,hc,hm⟩
theorem GrowO.push (hO:KeepsC O) {wb:World} {cells:List Value} {fps:List (List Nat)} {x:α} {cs:List Value} {f:List Nat} {v':Value} {D:Nat}
 (h1:w.ownsRow B e c v xs.length cells) (h2:fps.length=xs.length) (h3:fps.flatten.Nodup)
 (h4:∀ (i:Nat) x f,xs[i]?=some x→fps[i]?=some f→∃ cs:List Value,cs.length=c∧(∀ j,j<c→cells[i * c+j]?=cs[j]?)∧O w cs x f)
 (h5:∀ a ∈ fps.flatten,B≤a∧a<C∧v.ownBlock≠some a) (h6:∀ a,v.ownBlock=some a→B≤a∧a<C) (h7:B≤C)
 (hf:O w cs x f) (hfn:f.Nodup) (hfr:∀ a ∈ f,C≤a∧a<w.heap.size) (hcl:cs.length=c) (hwb:Bz w wb) (hC:C≤w.heap.size)
 (hown:w'.ownsRow B e c v' (xs.length+1) (cells ++ cs)) (hgr:wb.grownBy w' v.ownBlock) (hat:v'.ownBlock=v.ownBlock∨∀ a,v'.ownBlock=some a→wb.heap.size≤a) (hD:w'.heap.size=D) :
 GrowO e c O w' B D v' (xs ++ [x]):=by
 have s1:=hwb.size;have s2:=hgr.size;have blk:∀ a,a<w.heap.size→v.ownBlock≠some a→w'.heap[a]?=w.heap[a]?:=fun a ha hn=>(hgr.block a (by omega) (fun e=>hn e.symm)).trans (hwb.block a ha);have hxl:cells.length=xs.length * c:=h1.1
 have hfv:∀ a ∈ f,v.ownBlock≠some a:=fun a ha e=>by have:=h6 a e;have:=hfr a ha;omega
 have hlt:∀ a,v'.ownBlock=some a→B≤a∧a<w'.heap.size:=fun a ha=>by
  rcases hown.2 with ⟨hv,_⟩ | ⟨g,cap,cur,hv,hb,hg,_⟩
  · rw [hv] at ha;cases ha
  · rw [hv] at ha;simp [Value.ownBlock] at ha;subst ha;exact ⟨hb,(Array.getElem?_eq_some_iff.1 hg).1⟩
 have hne:∀ a,a<w.heap.size→v.ownBlock≠some a→v'.ownBlock≠some a:=fun a ha hn e=>by
  rcases hat with h | h
  · rw [h] at e;exact hn e
  · have:=h a e;omega
 refine ⟨cells ++ cs,fps ++ [f],by rw [List.length_append];exact hown,by rw [List.length_append,List.length_append,h2];rfl,?_,fun i y f' hi hf'=>?_,fun a ha=>?_,fun a ha=>by rw [← hD];exact hlt a ha,by omega,by omega⟩
 · rw [List.flatten_append,List.nodup_append]
   refine ⟨h3,by simpa using hfn,fun a ha b hb=>?_⟩;have:=(h5 a ha).2.1;have:=(hfr b (by simpa using hb)).1;omega
 · by_cases hik:i<xs.length
   · rw [List.getElem?_append_left hik] at hi
     rw [List.getElem?_append_left (by rw [h2];exact hik)] at hf';obtain ⟨cs',g1,g2,g3⟩:=h4 i y f' hi hf';have hil:i * c+c≤xs.length * c:=(by rw [← Nat.succ_mul];exact Nat.mul_le_mul_right c hik);refine ⟨cs',g1,fun j hj=>?_,hO _ _ _ _ _ g3 (fun a ha=>?_)⟩
     · rw [List.getElem?_append_left (by omega)];exact g2 j hj
     · have:=h5 a (List.mem_flatten.2 ⟨f',List.mem_of_getElem? hf',ha⟩)
       exact blk a (by omega) this.2.2
   · have hil:i<xs.length+1:=by
      have:=(List.getElem?_eq_some_iff.1 hi).1;rw [List.length_append] at this;simpa using this
     obtain rfl:i=xs.length:=(by omega);rw [List.getElem?_append_right (sqR _),Nat.sub_self] at hi;rw [List.getElem?_append_right (by rw [h2];exact Nat.le_refl _),h2,Nat.sub_self] at hf';simp at hi hf';subst hi;subst hf';refine ⟨cs,hcl,fun j hj=>?_,hO _ _ _ _ _ hf (fun a ha=>blk a (hfr a ha).2 (hfv a ha))⟩;rw [List.getElem?_append_right (by omega),hxl];congr 1;omega
 · rw [List.flatten_append,List.mem_append] at ha
   rcases ha with ha | ha
   · have:=h5 a ha
     exact ⟨this.1,by omega,hne a (by omega) this.2.2⟩
   · have ha':a ∈ f:=by simpa using ha
     have:=hfr a ha';exact ⟨by omega,by omega,hne a this.2 (hfv a ha')⟩
theorem GrowO.done (h:GrowO e c O w B C v xs):∃ fp,ORows w e c (O w) v xs fp∧fp.Nodup∧(∀ a ∈ fp,B≤a∧a<C)∧B≤C∧C≤w.heap.size:=by
 obtain ⟨cells,fps,h1,h2,h3,h4,h5,h6,h7,h8⟩:=h;by_cases hne:xs = []
 · subst hne
   refine ⟨[],.inl ⟨rfl,rfl,?_⟩,by simp,fun a ha=>by simp at ha,h7,h8⟩
   rcases h1.2 with ⟨hv,hn⟩ | ⟨g,cap,cur,hv,hb,hg,hc,hm,hr⟩
   · exact ⟨none,0,hv,Nat.zero_le _⟩
   · exact ⟨_,cap,hv,hm⟩
 · rcases h1.2 with ⟨hv,hn⟩ | ⟨g,cap,cur,hv,hb,hg,hr⟩
   · exact absurd (List.length_eq_zero_iff.1 hn) hne
   · have hgo:v.ownBlock=some g:=by rw [hv];rfl
     refine ⟨g :: fps.flatten,.inr ⟨hne,cells,g,cap,fps,⟨h1.1,.inr ⟨g,cap,cur,hv,Nat.zero_le _,hg,hr⟩⟩,hv,h2,rfl,h4⟩,?_,fun a ha=>?_,h7,h8⟩
     · rw [List.nodup_cons]
       exact ⟨fun hm=>(h5 g hm).2.2 hgo,h3⟩
     · rcases List.mem_cons.1 ha with rfl | ha
       · exact h6 _ hgo
       · exact ⟨(h5 a ha).1,(h5 a ha).2.1⟩
end
theorem wpList_push {α:Type} {O:World→List Value→α→List Nat→Prop} (hO:KeepsC O) {ops:Array Oper} {rest:List Oper} {o:Oper} {a:Act} {Q:Exit→Act→World→Prop} {w:World} (t e:TypeId) (size bytes:Nat) (z:Value) (hgd:o.guard=none) (s x:Operand)
 (ho:o.op=.call { callee:=.builtin .append,args:=#[s,x],argTypes:=#[t,t] }) (ht:Tryz.prog.underlying t=some (.slice e)) (hinfo:(Tryz.prog.info? e).map (fun i=>(i.zero,i.size,i.bytes))=some (some z,size,bytes))
 (hzs:z.cells.size=size) (hsz:0<size) (hby:bytes≤1000) (B C:Nat) (v:Value) (xs:List α) (hs:a.eval s=v) (cs:List Value) (hx:a.eval x=.slice (some ⟨w.heap.size,0,none⟩) 1 1) (y:α) (f:List Nat)
 (hG:GrowO e size O w B C v xs) (hf:O w cs y f) (hfn:f.Nodup) (hfr:∀ a ∈ f,C≤a∧a<w.heap.size) (hcl:cs.length=size) (h1:∀ u ∈ cs,u.oneCell'=true) (hl:xs.length≤100000000)
 (h:∀ v' w',GrowO e size O w' B w'.heap.size v' (xs ++ [y])→Below B (w.alloc (.cells cs.toArray e)) w'→wpList Tryz.prog ops Q rest (a.put o.dst v') w') :
 wpList Tryz.prog ops Q (o :: rest) a (w.alloc (.cells cs.toArray e)):=by
 cases hi:Tryz.prog.info? e with
 | none=>rw [hi] at hinfo;cases hinfo
 | some i =>
  rw [hi] at hinfo;simp only [Option.map_some,Option.some.injEq,Prod.mk.injEq] at hinfo;obtain ⟨hz,hsize,hbytes⟩:=hinfo;obtain ⟨cells,fps,g1,g2,g3,g4,g5,g6,g7,g8⟩:=hG;have hb:Bz w (w.alloc (.cells cs.toArray e)):=(sqN _ _);have hown:=ownsRow_blk (w':=w.alloc (.cells cs.toArray e)) g1 (fun a ha=>hb.block a (by have:=g6 a ha;omega))
  have hnews:∀ j u,cs[j]?=some u→(w.alloc (.cells cs.toArray e)).cell? ((⟨w.heap.size,0,none⟩:Addr).add j)=some u:=fun j u hj=>by
   have:=(Blk.new (w:=w) (cs:=cs.toArray) (t:=e)).cell j u (by simpa using hj);rw [← this];unfold Addr.add;by_cases h0:j=0
   · simp [h0]
   · simp [h0]
  have hb2:(xs.length+1) * bytes≤140737488355328:=Nat.le_trans (Nat.mul_le_mul (show xs.length+1≤100000001 by omega) hby) (by decide);refine wpList_append_own_at _ hgd s x t ho B e i z size bytes ht hi hz hsize hbytes hzs hsz v xs.length cells hs hown ⟨w.heap.size,0,none⟩ 1 1 cs hx (by omega) hnews h1 (by unfold maxLen;omega) hb2 (by simp;omega) ?_;intro v' w' hown' hgr _ hat;refine h v' w' (GrowO.push hO g1 g2 g3 g4 g5 g6 g7 hf hfn hfr hcl hb g8 hown' hgr ?_ rfl) ⟨hgr.os,hgr.tape,hgr.output,hgr.size,fun j hj=>hgr.block j (by simp;omega) (fun e=>by have:=(g6 j e.symm).1;omega)⟩
  rcases hat with h | h
  · exact .inl h
  · refine .inr (fun a ha=>?_)
    rw [h] at ha;exact Nat.le_of_eq (Option.some.inj ha)
theorem step_push {α:Type} {O:World→List Value→α→List Nat→Prop} (hO:KeepsC O) {ops:Array Oper} {o:Oper} {a:Act} {K:Act→World→Prop} {Q:Exit→Act→World→Prop} {E:Prop} {w:World} (t e:TypeId) (size bytes:Nat) (z:Value) (hgd:o.guard=none) (s x:Operand)
 (ho:o.op=.call { callee:=.builtin .append,args:=#[s,x],argTypes:=#[t,t] }) (ht:Tryz.prog.underlying t=some (.slice e)) (hinfo:(Tryz.prog.info? e).map (fun i=>(i.zero,i.size,i.bytes))=some (some z,size,bytes))
 (hzs:z.cells.size=size) (hsz:0<size) (hby:bytes≤1000) (B C:Nat) (v:Value) (xs:List α) (hs:a.eval s=v) (cs:List Value) (ab:Nat) (hx:a.eval x=.slice (some ⟨ab,0,none⟩) 1 1) (hab:ab=w.heap.size) (y:α) (f:List Nat)
 (hG:GrowO e size O w B C v xs) (hf:O w cs y f) (hfn:f.Nodup) (hfr:∀ a ∈ f,C≤a∧a<w.heap.size) (hcl:cs.length=size) (h1:∀ u ∈ cs,u.oneCell'=true) (hl:xs.length≤100000000)
 (h:∀ g cap w',GrowO e size O w' B w'.heap.size (.slice (some ⟨g,0,none⟩) (xs.length+1) cap) (xs ++ [y])→Below B (w.alloc (.cells cs.toArray e)) w'→K (a.put o.dst (.slice (some ⟨g,0,none⟩) (xs.length+1) cap)) w') :
 if Region.wanted o (yielded ops a.tmps)=true then Oper.wp Tryz.prog o a (w.alloc (.cells cs.toArray e)) K Q else E:=by
 subst hab
 cases hi:Tryz.prog.info? e with
 | none=>rw [hi] at hinfo;cases hinfo
 | some i =>
  rw [hi] at hinfo;simp only [Option.map_some,Option.some.injEq,Prod.mk.injEq] at hinfo;obtain ⟨hz,hsize,hbytes⟩:=hinfo;obtain ⟨cells,fps,g1,g2,g3,g4,g5,g6,g7,g8⟩:=hG;have hb:Bz w (w.alloc (.cells cs.toArray e)):=(sqN _ _);have hown:=ownsRow_blk (w':=w.alloc (.cells cs.toArray e)) g1 (fun a ha=>hb.block a (by have:=g6 a ha;omega))
  have hnews:∀ j u,cs[j]?=some u→(w.alloc (.cells cs.toArray e)).cell? ((⟨w.heap.size,0,none⟩:Addr).add j)=some u:=fun j u hj=>by
   have:=(Blk.new (w:=w) (cs:=cs.toArray) (t:=e)).cell j u (by simpa using hj);rw [← this];unfold Addr.add;by_cases h0:j=0
   · simp [h0]
   · simp [h0]
  have hb2:(xs.length+1) * bytes≤140737488355328:=Nat.le_trans (Nat.mul_le_mul (show xs.length+1≤100000001 by omega) hby) (by decide);refine step_append_lies _ hgd s x t ho B e i z size bytes ht hi hz hsize hbytes hzs hsz v xs.length cells hs hown ⟨w.heap.size,0,none⟩ 1 1 cs hx (by omega) hnews h1 (by omega) (by unfold maxLen;omega) hb2 (by simp;omega) (w.heap.size+1) (by simp) ?_;intro g cap w' hown' hgr hat hlt;refine h g cap w' (GrowO.push hO g1 g2 g3 g4 g5 g6 g7 hf hfn hfr hcl hb g8 hown' hgr ?_ rfl) ⟨hgr.os,hgr.tape,hgr.output,hgr.size,fun j hj=>hgr.block j (by simp;omega) (fun e=>by have:=(g6 j e.symm).1;omega)⟩
  rcases hat with h | h
  · exact .inl h.symm
  · refine .inr (fun a ha=>?_)
    have:g=a:=(by simpa [Value.ownBlock] using ha);rw [← this,h];simp
def wtCl (f:Ex→Nat) (c:Cl):Nat:=wtS f c.1+wtS f c.2
def wtEx:Nat→Ex→Nat
 | 0,_=>0
 | d+1,e=>e.text.size+e.mod.size+wtS (wtEx d) e.kids+wtS (wtCl (wtEx d)) e.clauses
def wtRf (r:Rf):Nat:=r.name.size
def wtFn (d:Nat) (f:Fn'):Nat:=f.name.size+wtS (wtCl (wtEx d)) f.clauses
def wtMd (d:Nat) (m:Md):Nat:=m.name.size+wtS wtRf m.exports+wtS (wtFn d) m.funs
def mapX (f:Ex→Ex):Nat→Ex→Ex
 | 0,x=>x
 | d+1,.mk k n t m ks cs=>f (.mk k n t m (ks.map (mapX f d)) (cs.map fun c=>(c.1.map (mapX f d),c.2.map (mapX f d))))
def mapC (f:Ex→Ex) (d:Nat) (c:Cl):Cl:=(c.1.map (mapX f d),c.2.map (mapX f d))
def mapF (f:Ex→Ex) (d:Nat) (x:Fn'):Fn':=⟨x.name,x.arity,x.clauses.map (mapC f d)⟩
def mapM (f:Ex→Ex) (d:Nat) (m:Md):Md:=⟨m.name,m.exports,m.funs.map (mapF f d)⟩
theorem mapX_id:∀ (d:Nat) (x:Ex),mapX id d x=x
 | 0,_=>rfl
 | d+1,.mk k n t m ks cs=>by
  have h1:∀ l:List Ex,l.map (mapX id d)=l:=fun l=>by
   rw [List.map_congr_left (g:=id) (fun y _=>mapX_id d y)];simp
  show id (Ex.mk k n t m (ks.map (mapX id d)) (cs.map fun c=>(c.1.map (mapX id d),c.2.map (mapX id d))))=_
  have h2:(fun c:Cl=>(c.1.map (mapX id d),c.2.map (mapX id d)))=id:=funext fun c=>by rw [h1,h1];rfl
  rw [h1,h2];simp
theorem mapC_id (d:Nat) (c:Cl):mapC id d c=c:=by
 have h1:∀ l:List Ex,l.map (mapX id d)=l:=fun l=>by
  rw [List.map_congr_left (g:=id) (fun y _=>mapX_id d y)];simp
 unfold mapC;rw [h1,h1]
theorem mapF_id (d:Nat) (x:Fn'):mapF id d x=x:=by
 have:x.clauses.map (mapC id d)=x.clauses:=(by rw [List.map_congr_left (g:=id) (fun y _=>mapC_id d y)];simp);unfold mapF;rw [this]
theorem mapM_id (d:Nat) (m:Md):mapM id d m=m:=by
 have:m.funs.map (mapF id d)=m.funs:=(by rw [List.map_congr_left (g:=id) (fun y _=>mapF_id d y)];simp);unfold mapM;rw [this]
theorem mapMs_id (d:Nat) (ms:List Md):ms.map (mapM id d)=ms:=by rw [List.map_congr_left (g:=id) (fun y _=>mapM_id d y)];simp
def fT (ft:Int→ByteArray→ByteArray→Nat→ByteArray) (x:Ex):Ex:=.mk x.kind x.n (ft x.kind x.text x.mod x.kids.length) x.mod x.kids x.clauses
def ftU (_:Int) (t _:ByteArray) (_:Nat):ByteArray:=t
theorem fT_U:fT ftU=id:=funext fun x=>by cases x;rfl
def ftV (sf st:ByteArray) (k:Int) (t _:ByteArray) (_:Nat):ByteArray:=if k=2∧(t.toList == sf.toList)=true then st else t
theorem ftV_ok {sf st:ByteArray} (h:okS st) {k:Int} {t m:ByteArray} {n:Nat} (ht:okS t):okS (ftV sf st k t m n):=by
 unfold ftV;split
 · exact h
 · exact ht
theorem rows_uniq {α:Type} {w:World} {S S':Nat→Prop} {c:Nat} {R R':List Value→α→Prop} {p:Option Addr} {n q q':Nat} {xs xs':List α}
 (hu:∀ cs x x',R cs x→R' cs x'→x=x') (h:Rows w S c R (.slice p n q) xs) (h':Rows w S' c R' (.slice p n q') xs'):xs=xs':=by
 obtain ⟨p1,c1,e1,-,-,h3⟩:=h;obtain ⟨p2,c2,e2,-,-,h3'⟩:=h';simp only [Value.slice.injEq] at e1 e2;obtain ⟨rfl,hn1,-⟩:=e1;obtain ⟨rfl,hn2,-⟩:=e2
 apply List.ext_getElem?
 intro i;by_cases hi:i<n
 · have k1:i<xs.length:=by omega
   have k2:i<xs'.length:=(by omega);obtain ⟨g,off,hp,-,-,hat⟩:=h3 (by intro e;rw [e] at k1;simp at k1);obtain ⟨g',off',hp',-,-,hat'⟩:=h3' (by intro e;rw [e] at k2;simp at k2);rw [hp] at hp';simp only [Option.some.injEq,Addr.mk.injEq,and_true] at hp';obtain ⟨rfl,rfl⟩:=hp';obtain ⟨cs,l1,a1,r1⟩:=hat i _ (List.getElem?_eq_getElem k1);obtain ⟨cs',l2,a2,r2⟩:=hat' i _ (List.getElem?_eq_getElem k2)
   have hcs:cs=cs':=by
    apply List.ext_getElem?
    intro j;by_cases hj:j<c
    · exact (a1 j hj).symm.trans (a2 j hj)
    · rw [List.getElem?_eq_none (by omega),List.getElem?_eq_none (by omega)]
   subst hcs;rw [List.getElem?_eq_getElem k1,List.getElem?_eq_getElem k2,hu cs _ _ r1 r2]
 · rw [List.getElem?_eq_none (by omega),List.getElem?_eq_none (by omega)]
theorem HCl.uniq {w:World} {S S':Nat→Prop} {R R':List Value→Ex→Prop} (hu:∀ cs x x',R cs x→R' cs x'→x=x') (cs:List Value) (c c':Cl) (h:HCl w S R cs c) (h':HCl w S' R' cs c'):c=c':=by
 obtain ⟨p,b,rfl,h1,h2⟩:=h;obtain ⟨p',b',e,h1',h2'⟩:=h';simp only [List.cons.injEq,and_true] at e;obtain ⟨rfl,rfl⟩:=e;obtain ⟨pa,ca,hp,-⟩:=id h1;obtain ⟨pb,cb,hb,-⟩:=id h2;rw [hp] at h1 h1';rw [hb] at h2 h2';exact Prod.ext (rows_uniq hu h1 h1') (rows_uniq hu h2 h2')
theorem HEx.uniq {w:World} {S S':Nat→Prop}:∀ {d d':Nat} (cs:List Value) (x x':Ex),HEx w S d cs x→HEx w S' d' cs x'→x=x'
 | 0,_,_,_,_,h,_=>h.elim
 | _+1,0,_,_,_,_,h=>h.elim
 | d+1,d'+1,cs,x,x',h,h'=>by
  obtain ⟨kv,cv,rfl,-,-,-,-,hk,hc⟩:=h;obtain ⟨kv',cv',e,-,-,-,-,hk',hc'⟩:=h';simp only [List.cons.injEq,Value.int.injEq,true_and,Value.string.injEq,and_true] at e;obtain ⟨e1,e2,e3,e4,rfl,rfl⟩:=e;obtain ⟨pa,ca,hp,-⟩:=id hk;obtain ⟨pb,cb,hb,-⟩:=id hc;rw [hp] at hk hk';rw [hb] at hc hc';rw [Ex.eq_iff];exact ⟨e1,e2,e3,e4,rows_uniq (fun cs x x' h h'=>HEx.uniq cs x x' h h') hk hk',rows_uniq (fun cs c c' h h'=>HCl.uniq (fun cs x x' h h'=>HEx.uniq cs x x' h h') cs c c' h h') hc hc'⟩
theorem size_mem {α:Type} [SizeOf α] {l:List α} {x:α} (h:x ∈ l):SizeOf.sizeOf x<SizeOf.sizeOf l:=List.sizeOf_lt_of_mem h
theorem size_memC {l:List Cl} {x:Cl} (h:x ∈ l):SizeOf.sizeOf x<SizeOf.sizeOf l:=List.sizeOf_lt_of_mem h
theorem size_pos (l:List Ex):1≤SizeOf.sizeOf l:=by cases l <;> simp <;> omega
theorem size_kids (x:Ex):SizeOf.sizeOf x.kids<SizeOf.sizeOf x:=by
 obtain ⟨k,n,t,m,ks,cs⟩:=x;simp only [Ex.kids,Ex.mk.sizeOf_spec];omega
theorem size_clauses (x:Ex):SizeOf.sizeOf x.clauses<SizeOf.sizeOf x:=by
 obtain ⟨k,n,t,m,ks,cs⟩:=x;simp only [Ex.clauses,Ex.mk.sizeOf_spec];omega
theorem size_pats (c:Cl):SizeOf.sizeOf c.1<SizeOf.sizeOf c∧SizeOf.sizeOf c.2<SizeOf.sizeOf c:=by
 obtain ⟨a,b⟩:=c;simp only [Prod.mk.sizeOf_spec];omega
structure OffB (b N:Nat) (w w':World):Prop where
 os:w'.os=w.os
 tape:w'.tape=w.tape
 output:w'.output=w.output
 size:w.heap.size≤w'.heap.size
 block:∀ k,k<N→k≠b→w'.heap[k]?=w.heap[k]?
theorem OffB.refl (b N:Nat) (w:World):OffB b N w w:=⟨rfl,rfl,rfl,Nat.le_refl _,fun _ _ _=>rfl⟩
theorem OffB.trans {b N:Nat} {u v w:World} (h:OffB b N u v) (k:OffB b N v w):OffB b N u w :=
 ⟨k.os.trans h.os,k.tape.trans h.tape,k.output.trans h.output,Nat.le_trans h.size k.size,fun i hi hb=>(k.block i hi hb).trans (h.block i hi hb)⟩
theorem OffB.mono {b N N':Nat} {u v:World} (h:OffB b N u v) (hN:N'≤N):OffB b N' u v:=⟨h.os,h.tape,h.output,h.size,fun k hk hb=>h.block k (Nat.lt_of_lt_of_le hk hN) hb⟩
theorem OffB.of_below {b N:Nat} {u v:World} (h:Below N u v):OffB b N u v:=⟨h.os,h.tape,h.output,h.size,fun k hk _=>h.block k hk⟩
theorem OffB.drew {b N:Nat} {u v:World} (h:OffB b N u v):OffB b N u v.drew:=⟨h.os,h.tape,h.output,h.size,h.block⟩
theorem OffB.setCell {b N:Nat} {u v:World} (h:OffB b N u v) {p:Addr} (hp:N≤p.block) (x:Value):OffB b N u (v.setCell p x) :=
 h.trans ⟨rfl,rfl,rfl,by simp [World.setCell],fun k hk _=>Below.heap_setCell _ _ _ _ (by omega)⟩
theorem OffB.same {b N:Nat} {u v:World} (h:OffB b N u v) {S:Nat→Prop} (hS:∀ g,S g→g<N∧g≠b):SameOn S u v:=⟨h.size,fun g hg _=>h.block g (hS g hg).1 (hS g hg).2⟩
theorem OffB.blk {b N g:Nat} {u v:World} {cs:Array Value} {t:TypeId} (h:OffB b N u v) (hb:Blk u g cs t) (hg:g<N) (hne:g≠b):Blk v g cs t:=(h.block g hg hne).trans hb
theorem OffB.below {b N:Nat} {u v:World} (h:OffB b N u v) {M:Nat} (hM:M≤N) (hb:M≤b):Below M u v:=⟨h.os,h.tape,h.output,h.size,fun k hk=>h.block k (by omega) (by omega)⟩
structure MadeB {α:Type} (b:Nat) (w wr:World) (G n:Nat) (e:TypeId) (c:Nat) (O:World→List Value→α→List Nat→Prop) (es:List α) (k:Nat) (xs:List Value) (fps:List (List Nat)):Prop where
 own:wr.ownsRow G e c (.slice (some ⟨G,0,none⟩) n n) n xs
 len:fps.length=k
 nd:fps.flatten.Nodup
 rng:∀ a ∈ fps.flatten,G<a∧a<wr.heap.size
 el:∀ (i:Nat) x f,es[i]?=some x→fps[i]?=some f→∃ cs:List Value,cs.length=c∧(∀ j,j<c→xs[i * c+j]?=cs[j]?)∧O wr cs x f
 off:OffB b G w wr
 sz:G+1≤wr.heap.size
 lt:b<G
variable {α:Type} {b:Nat} {w wr:World} {G n c k:Nat} {e:TypeId} {O:World→List Value→α→List Nat→Prop} {es:List α} {xs:List Value} {fps:List (List Nat)}
theorem MadeB.start {M:Array Value} (hM:M.size=n * c) (hn:n≤maxLen) (hb:b<w.heap.size):MadeB b w (w.alloc (.cells M e)) w.heap.size n e c O es 0 M.toList [] :=
 ⟨World.ownsRow_lit w M n (sqR _) hn hM,rfl,by simp,fun a ha=>by simp at ha,fun i x f _ hf=>by simp at hf,OffB.of_below ((sqN _ _)),by rw [alloc_hs];exact Nat.le_refl _,hb⟩
theorem MadeB.step (hO:∀ w w' cs x f,O w cs x f→KeepOn f w w'→O w' cs x f) (h:MadeB b w wr G n e c O es k xs fps) {w1 w2:World} {x:α} {cs xs':List Value} {f:List Nat} (hx:es[k]?=some x) (hb:OffB b wr.heap.size wr w1) (ho:O w1 cs x f)
 (hnd:f.Nodup) (hf:∀ a ∈ f,wr.heap.size≤a∧a<w1.heap.size) (hcl:cs.length=c) (hown:w2.ownsRow G e c (.slice (some ⟨G,0,none⟩) n n) n xs') (hgr:w1.grownBy w2 (some G))
 (hlow:∀ m,m<k * c→xs'[m]?=xs[m]?) (hself:∀ j,j<c→xs'[k * c+j]?=cs[j]?):MadeB b w w2 G n e c O es (k+1) xs' (fps ++ [f]):=by
 have h1:=h.sz;have h2:=hb.size;have h3:=hgr.size;have h4:=h.lt;refine ⟨hown,by rw [List.length_append,h.len];rfl,?_,?_,?_,?_,by omega,h4⟩
 · rw [List.flatten_append,List.nodup_append]
   refine ⟨h.nd,by simpa using hnd,fun a ha b hb'=>?_⟩;have:=(h.rng a ha).2;have:=(hf b (by simpa using hb')).1;omega
 · intro a ha
   rw [List.flatten_append,List.mem_append] at ha
   rcases ha with ha | ha
   · have:=h.rng a ha;omega
   · have:=hf a (by simpa using ha);omega
 · intro i y f' hy hf'
   by_cases hik:i<k
   · rw [List.getElem?_append_left (by rw [h.len];exact hik)] at hf'
     obtain ⟨cs',g1,g2,g3⟩:=h.el i y f' hy hf';refine ⟨cs',g1,fun j hj=>?_,hO _ _ _ _ _ g3 (fun a ha=>?_)⟩
     · rw [hlow]
       · exact g2 j hj
       · have:i * c+c≤k * c:=by rw [← Nat.succ_mul];exact Nat.mul_le_mul_right c hik
         omega
     · have hr:=h.rng a (List.mem_flatten.2 ⟨f',List.mem_of_getElem? hf',ha⟩)
       exact (hgr.block a (by omega) (by simp;omega)).trans (hb.block a hr.2 (by omega))
   · have hil:i<k+1:=by
      have:=(List.getElem?_eq_some_iff.1 hf').1;rw [List.length_append,h.len] at this;simpa using this
     obtain rfl:i=k:=(by omega);obtain rfl:x=y:=Option.some.inj (hx.symm.trans hy);rw [List.getElem?_append_right (by rw [h.len];exact Nat.le_refl _),h.len,Nat.sub_self] at hf';simp at hf';subst hf';exact ⟨cs,hcl,hself,hO _ _ _ _ _ ho (fun a ha=>by have:=hf a ha;exact hgr.block a (by omega) (by simp;omega))⟩
 · exact h.off.trans ((hb.mono (by omega)).trans ⟨hgr.os,hgr.tape,hgr.output,hgr.size,fun j hj _=>hgr.block j (by omega) (by simp;omega)⟩)
theorem MadeB.done (h:MadeB b w wr G n e c O es n xs fps) (hn:es.length=n) (hm:n≤maxLen):∃ fp,ORows wr e c (O wr) (.slice (some ⟨G,0,none⟩) n n) es fp∧fp.Nodup∧∀ a ∈ fp,G≤a∧a<wr.heap.size:=by
 by_cases hne:es = []
 · subst hne
   exact ⟨[],.inl ⟨rfl,rfl,_,_,by rw [← hn];rfl,hm⟩,by simp,fun a ha=>by simp at ha⟩
 · refine ⟨G :: fps.flatten,.inr ⟨hne,xs,G,n,fps,?_,by rw [hn],by rw [h.len,hn],rfl,h.el⟩,?_,?_⟩
   · rw [hn]
     obtain ⟨h1,h2⟩:=h.own;refine ⟨h1,h2.imp id ?_⟩;rintro ⟨g,cap,cur,a1,a2,a3⟩;exact ⟨g,cap,cur,a1,Nat.zero_le _,a3⟩
   · rw [List.nodup_cons]
     exact ⟨fun hm=>by have:=(h.rng G hm).1;omega,h.nd⟩
   · intro a ha
     have:=h.sz
     rcases List.mem_cons.1 ha with rfl | ha
     · omega
     · have:=h.rng a ha;omega
def keyV (a:Addr) (n:Nat):Value:=.agg #[.pointer (some a),.int .i64 n]
def PlainAt (w:World) (g:Nat):Prop:=∃ cs t,w.heap[g]?=some (.cells cs t (0,0))
def MapSt (w:World) (mb:Nat) (es:Array MapEntry):Prop:=∃ clock,w.heap[mb]?=some (.map es clock)
def KeyNot (w:World) (es:List MapEntry) (a:Addr) (n:Nat):Prop:=∀ e ∈ es,∃ a' n',e.key=keyV a' n'∧PlainAt w a'.block∧¬ (a'=a∧n'=n)
theorem extU:Tryz.prog.underlying 161=some (.struct (Tryz.prog.fieldsOf 161)):=by kernel_rfl
theorem extH:Tryz.prog.stoodInHeld 161=false:=by kernel_rfl
theorem expI:(Tryz.prog.info? 76).map (·.size)=some 6:=by kernel_rfl
theorem run_ptr {w:World} {a b:Addr} (ha:PlainAt w a.block) (hb:PlainAt w b.block) (d:Nat):(Op.equalIn (d+1) 159 (.pointer (some a)) (.pointer (some b))).run Tryz.prog w=.ok (decide (a=b)) w:=by
 obtain ⟨ca,ta,ha⟩:=ha;obtain ⟨cb,tb,hb⟩:=hb
 have hs:(Go.sizeOf 76).run Tryz.prog w=.ok 6 w:=by
  cases hi:Tryz.prog.info? 76 with
  | none=>have:=expI;rw [hi] at this;cases this
  | some i =>
   have:=expI;rw [hi] at this;simp at this;simp [Go.sizeOf,typeInfo,hi,this]
 by_cases h:a=b
 · subst h
   simp [Op.equalIn,run_underlying Tryz.underlying159,hs,run_sameAddr_same]
 · simp [Op.equalIn,run_underlying Tryz.underlying159,hs,run_sameAddr_other w h ha hb,h]
theorem extE {w:World} {a b:Addr} {n m:Nat} (ha:PlainAt w a.block) (hb:PlainAt w b.block):(Op.equal 161 (keyV a n) (keyV b m)).run Tryz.prog w=.ok (decide (a=b∧n=m)) w:=by
 unfold Op.equal Op.maxDepth keyV;rw [show (10000:Nat)=9999+1 from rfl,run_equalIn_struct w 9999 _ _ _ extU extH];have h1:(Op.equalIn 9999 159 (.pointer (some a)) (.pointer (some b))).run Tryz.prog w=.ok (decide (a=b)) w:=run_ptr ha hb 9998;by_cases e1:a=b
 · subst e1
   by_cases e2:n=m
   · simp [go_sem,Program.fieldsOf,Tryz.underlying161,Tryz.underlying3,Op.eqFields,h1,e2]
   · have e3:¬ (n:Int)=(m:Int):=by omega
     simp [go_sem,Program.fieldsOf,Tryz.underlying161,Tryz.underlying3,Op.eqFields,h1,e2,e3]
 · simp [go_sem,Program.fieldsOf,Tryz.underlying161,Tryz.underlying3,Op.eqFields,h1,e1]
theorem findAsking_none {w:World} {a:Addr} {n:Nat} (ha:PlainAt w a.block):∀ (es:List MapEntry) (i:Nat),KeyNot w es a n→(Instr.findAsking 161 (keyV a n) es i).run Tryz.prog w=.ok none w
 | [],i,_=>by simp [Instr.findAsking]
 | e :: es,i,h=>by
  obtain ⟨a',n',hk,hp,hne⟩:=h e (by simp);have hd:decide (a=a'∧n=n')=false:=decide_eq_false (fun h=>hne ⟨h.1.symm,h.2.symm⟩);have h1:=extE (n:=n) (m:=n') ha hp;rw [← hk,hd] at h1;have h2:=findAsking_none ha es (i+1) (fun e he=>h e (by simp [he]));simp [Instr.findAsking,h1,h2]
theorem findAsking_last {w:World} {a:Addr} {n:Nat} (ha:PlainAt w a.block) (x:MapEntry) (hx:x.key=keyV a n):∀ (es:List MapEntry) (i:Nat),KeyNot w es a n→(Instr.findAsking 161 (keyV a n) (es ++ [x]) i).run Tryz.prog w=.ok (some (i+es.length,x.val)) w
 | [],i,_=>by
  have h1:=extE (n:=n) (m:=n) ha ha;rw [← hx] at h1;simp [Instr.findAsking,hx] at h1 ⊢;simp [h1]
 | e :: es,i,h=>by
  obtain ⟨a',n',hk,hp,hne⟩:=h e (by simp);have hd:decide (a=a'∧n=n')=false:=decide_eq_false (fun h=>hne ⟨h.1.symm,h.2.symm⟩);have h1:=extE (n:=n) (m:=n') ha hp;rw [← hk,hd] at h1;have h2:=findAsking_last ha x hx es (i+1) (fun e he=>h e (by simp [he]));simp [Instr.findAsking,h1,h2];omega
theorem findNow_struct (fs:Array Field) (a:Addr) (n:Nat) (es:List MapEntry) (hk:∀ e ∈ es,∃ a' n',e.key=keyV a' n') (i:Nat) (hne:es≠[]):Instr.findNow (.struct fs) (keyV a n) es i=none:=by
 cases es with
 | nil=>exact absurd rfl hne
 | cons e es =>
  simp [Instr.findNow,Instr.sameNow]
theorem findKey_none {w:World} {a:Addr} {n:Nat} (ha:PlainAt w a.block) (es:List MapEntry) (h:KeyNot w es a n):(Instr.findKey 161 (keyV a n) es).run Tryz.prog w=.ok none w:=by
 by_cases he:es = []
 · subst he
   simp [Instr.findKey,run_underlying extU,Instr.findNow]
 · simp [Instr.findKey,run_underlying extU,findNow_struct _ a n es (fun e he=>by obtain ⟨a',n',hk,-⟩:=h e he;exact ⟨a',n',hk⟩) 0 he,findAsking_none ha es 0 h]
theorem findKey_last {w:World} {a:Addr} {n:Nat} (ha:PlainAt w a.block) (es:List MapEntry) (x:MapEntry) (hx:x.key=keyV a n) (h:KeyNot w es a n):(Instr.findKey 161 (keyV a n) (es ++ [x])).run Tryz.prog w=.ok (some (es.length,x.val)) w:=by
 have hf:=findNow_struct (Tryz.prog.fieldsOf 161) a n (es ++ [x]) (fun e he=>by
  rcases List.mem_append.1 he with he | he
  · obtain ⟨a',n',hk,-⟩:=h e he;exact ⟨a',n',hk⟩
  · simp at he;subst he;exact ⟨a,n,hx⟩) 0 (by simp)
 have h2:=findAsking_last ha x hx es 0 h;simp only [Nat.zero_add] at h2;simp [Instr.findKey,run_underlying extU,hf,h2]
theorem checkKey_ext (em:Bool) (a:Addr) (n:Nat) (w:World):(Instr.checkKey em 10000 161 (keyV a n)).run Tryz.prog w=.ok () w:=by kernel_rfl
theorem obj_map {w:World} {r:Nat} {es:Array MapEntry} {clock:Nat} (hb:w.heap[r]?=some (.map es clock)):(getObj r).run Tryz.prog w=.ok (.map es clock) w:=by simp [getObj,Sem.run,hb]
theorem set_map {w:World} {r:Nat} {es:Array MapEntry} {clock:Nat} (o:Obj) (hb:w.heap[r]?=some (.map es clock)):(setObj r o).run Tryz.prog w=.ok () { w with heap:=w.heap.setIfInBounds r o }:=by simp [setObj,Sem.run,hb]
theorem run_look {w:World} {mb:Nat} {es:Array MapEntry} {a:Addr} {n:Nat} (hm:MapSt w mb es) (ha:PlainAt w a.block) (h:KeyNot w es.toList a n) :
 (Instr.lookup 71 (.map (some mb)) (keyV a n) true).run Tryz.prog w=.ok (.tuple #[.slice none 0 0,.bool false]) w:=by
 obtain ⟨clock,hm⟩:=hm;simp [Instr.lookup,run_underlying Tryz.underlying71,obj_map hm,checkKey_ext,findKey_none ha _ h]
theorem run_put {w:World} {mb:Nat} {es:Array MapEntry} {clock:Nat} {a:Addr} {n:Nat} (v:Value) (hm:w.heap[mb]?=some (.map es clock)) (ha:PlainAt w a.block) (h:KeyNot w es.toList a n) :
 (Instr.mapUpdate 71 (.map (some mb)) (keyV a n) v).run Tryz.prog w=.ok () { w with heap:=w.heap.setIfInBounds mb (.map (es.push { key:=keyV a n,val:=v,born:=clock }) (clock+1)) }:=by
 simp [Instr.mapUpdate,run_underlying Tryz.underlying71,obj_map hm,checkKey_ext,findKey_none ha _ h,set_map _ hm]
theorem run_del {w:World} {mb:Nat} {es:Array MapEntry} {clock:Nat} {a:Addr} {n:Nat} (x:MapEntry) (hx:x.key=keyV a n) (hm:w.heap[mb]?=some (.map (es.push x) clock)) (ha:PlainAt w a.block) (h:KeyNot w es.toList a n) (ty:TypeId) :
 (Builtin.delete_ #[71,161] ty #[.map (some mb),keyV a n]).run Tryz.prog w=.ok (.tuple #[]) { w with heap:=w.heap.setIfInBounds mb (.map es clock) }:=by
 have hf:(Instr.findKey 161 (keyV a n) (es.push x).toList).run Tryz.prog w=.ok (some (es.size,x.val)) w:=by
  have:=findKey_last ha es.toList x hx h
  simpa using this
 have he:(es.push x).eraseIdxIfInBounds es.size=es:=by
  apply Array.toList_inj.1
  simp only [Array.eraseIdxIfInBounds,Array.size_push,Nat.lt_succ_self,dite_true,Array.toList_eraseIdx,Array.toList_push];rw [List.eraseIdx_append_of_length_le (by simp)];simp
 simp only [Builtin.delete_];simp [run_underlying Tryz.underlying71,obj_map hm,checkKey_ext];simp only [Array.toList_push] at hf;simp [hf,set_map _ hm,he]
section
variable {P:Program} {ops:Array Oper} {rest:List Oper} {o:Oper} {a:Act} {Q:Exit→Act→World→Prop}
theorem wpList_lookup_run (w:World) (hg:o.guard=none) (m x:Operand) (t:TypeId) (hop:o.op=Op.lookup t m x true) (mv key v:Value) (hm:a.eval m=mv) (hx:a.eval x=key)
 (hrun:(Instr.lookup t mv key true).run P w=.ok v w) (hK:wpList P ops Q rest (a.put o.dst v) w):wpList P ops Q (o :: rest) a w:=by
 refine wpList_plain hg fun K' hK'=>?_;unfold Oper.wp;simp [execOp,hop,hm,hx,hrun,Result.andThen];exact hK' _ _ hK
theorem wpList_mapUpdate_run (w w':World) (hg:o.guard=none) (m x v:Operand) (t:TypeId) (hop:o.op=Op.mapUpdate t m x v) (mv key val:Value) (hm:a.eval m=mv) (hx:a.eval x=key) (hv:a.eval v=val)
 (hrun:(Instr.mapUpdate t mv key val).run P w=.ok () w') (hK:wpList P ops Q rest (a.put o.dst undef) w'):wpList P ops Q (o :: rest) a w:=by
 refine wpList_plain hg fun K' hK'=>?_;unfold Oper.wp;simp [execOp,hop,hm,hx,hv,hrun,Result.andThen];exact hK' _ _ hK
theorem wpList_delete_run (w w':World) (hg:o.guard=none) (m x:Operand) (t k:TypeId) (hop:o.op=Op.call { callee:=Callee.builtin Builtin.delete,args:=#[m,x],argTypes:=#[t,k] }) (mv key:Value) (hm:a.eval m=mv) (hx:a.eval x=key)
 (hrun:(Builtin.delete_ #[t,k] o.type #[mv,key]).run P w=.ok (.tuple #[]) w') (hK:wpList P ops Q rest (a.put o.dst (.tuple #[])) w'):wpList P ops Q (o :: rest) a w:=by
 refine wpList_plain hg fun K' hK'=>?_;unfold Oper.wp;simp [execOp,hop,resolve,invoke,builtin,hm,hx,hrun,Result.andThen];exact hK' _ _ hK
end
theorem offB_put (w:World) (mb:Nat) (ob:Obj) (N:Nat):OffB mb N w { w with heap:=w.heap.setIfInBounds mb ob } :=
 ⟨rfl,rfl,rfl,by simp,fun k _ hk=>by simp [Ne.symm hk]⟩
theorem put_at {w:World} {mb:Nat} {o:Obj} (ob:Obj) (h:w.heap[mb]?=some o):({ w with heap:=w.heap.setIfInBounds mb ob }:World).heap[mb]?=some ob:=by
 have:=(Array.getElem?_eq_some_iff.1 h).1;simp [this]
theorem PlainAt.off {w w':World} {mb N g:Nat} (h:PlainAt w g) (ho:OffB mb N w w') (hN:g<N) (hne:g≠mb):PlainAt w' g:=by
 obtain ⟨cs,t,h⟩:=h;exact ⟨cs,t,(ho.block g hN hne).trans h⟩
def Plain (w:World) (N mb:Nat) (PL:Nat→Prop):Prop:=∀ g,PL g→g<N∧g≠mb∧PlainAt w g
theorem Plain.off {w w':World} {N N' mb:Nat} {PL:Nat→Prop} (h:Plain w N mb PL) (ho:OffB mb N' w w') (hN:N≤N'):Plain w' N mb PL :=
 fun g hg=>⟨(h g hg).1,(h g hg).2.1,(h g hg).2.2.off ho (Nat.lt_of_lt_of_le (h g hg).1 hN) (h g hg).2.1⟩
theorem Plain.same {w w':World} {N N' mb:Nat} {PL:Nat→Prop} (h:Plain w N mb PL) (ho:OffB mb N' w w') (hN:N≤N'):SameOn PL w w' :=
 ho.same (fun g hg=>⟨Nat.lt_of_lt_of_le (h g hg).1 hN,(h g hg).2.1⟩)
def KeysIn (w:World) (PL:Nat→Prop) (es:Array MapEntry) (z:Nat):Prop :=
 ∀ e ∈ es.toList,∃ (a:Addr) (n q d:Nat) (ys:List Ex),e.key=keyV a n∧ys≠[]∧Rows w PL 6 (HEx w PL d) (.slice (some a) n q) ys∧z<SizeOf.sizeOf ys
theorem KeysIn.mono {w w':World} {PL:Nat→Prop} {es:Array MapEntry} {z z':Nat} (h:KeysIn w PL es z) (hs:SameOn PL w w') (hz:z'≤z):KeysIn w' PL es z':=fun e he=>by
 obtain ⟨a,n,q,d,ys,h1,h2,h3,h4⟩:=h e he;exact ⟨a,n,q,d,ys,h1,h2,h3.mono hs (fun _ h=>h) (fun _ _ _ h=>h.mono hs (fun _ h=>h)),Nat.lt_of_le_of_lt hz h4⟩
theorem rows_first {α:Type} {w:World} {S:Nat→Prop} {c n q:Nat} {R:List Value→α→Prop} {a:Addr} {xs:List α} (h:Rows w S c R (.slice (some a) n q) xs) (hne:xs≠[]):S a.block:=by
 obtain ⟨p,cap,hv,-,-,hx⟩:=h;obtain ⟨g,off,hp,hS,-⟩:=hx hne;simp only [Value.slice.injEq] at hv;rw [hp] at hv;simp only [Option.some.injEq] at hv;rw [hv.1];exact hS
theorem KeysIn.not {w:World} {N mb:Nat} {PL:Nat→Prop} {es:Array MapEntry} {z:Nat} (h:KeysIn w PL es z) (hP:Plain w N mb PL) {a:Addr} {n q d:Nat} {xs:List Ex} (hr:Rows w PL 6 (HEx w PL d) (.slice (some a) n q) xs) (hz:SizeOf.sizeOf xs≤z):KeyNot w es.toList a n:=fun e he=>by
 obtain ⟨a',n',q',d',ys,h1,h2,h3,h4⟩:=h e he;refine ⟨a',n',h1,(hP _ (rows_first h3 h2)).2.2,?_⟩;rintro ⟨rfl,rfl⟩;have:xs=ys:=rows_uniq (fun cs x x' h h'=>HEx.uniq cs x x' h h') hr h3;subst this;omega
theorem KeysIn.push {w:World} {PL:Nat→Prop} {es:Array MapEntry} {z z':Nat} (h:KeysIn w PL es z) (hz:z'≤z) {a:Addr} {n q d:Nat} {xs:List Ex} (hne:xs≠[]) (hr:Rows w PL 6 (HEx w PL d) (.slice (some a) n q) xs) (hx:z'<SizeOf.sizeOf xs) (v:Value) (b:Nat):KeysIn w PL (es.push { key:=keyV a n,val:=v,born:=b }) z':=fun e he=>by
 simp only [Array.toList_push,List.mem_append,List.mem_singleton] at he
 rcases he with he | rfl
 · obtain ⟨a',n',q',d',ys,h1,h2,h3,h4⟩:=h e he
   exact ⟨a',n',q',d',ys,h1,h2,h3,by omega⟩
 · exact ⟨a,n,q,d,xs,rfl,hne,hr,hx⟩
theorem KeysIn.none (w:World) (PL:Nat→Prop) (z:Nat):KeysIn w PL #[] z:=fun e he=>by simp at he
def OCl (w:World) (O:List Value→Ex→List Nat→Prop) (cs:List Value) (c:Cl) (fp:List Nat):Prop :=
 ∃ pv bv f1 f2,cs = [pv,bv]∧fp=f1 ++ f2∧ORows w 76 6 O pv c.1 f1∧ORows w 76 6 O bv c.2 f2
def OEx (w:World):Nat→List Value→Ex→List Nat→Prop
 | 0,_,_,_=>False
 | d+1,cs,e,fp=>∃ kv cv f1 f2,cs = [.int .i64 e.kind,.int .i64 e.n,.string e.text,.string e.mod,kv,cv]∧fp=f1 ++ f2∧okI e.kind∧okI e.n∧okS e.text∧okS e.mod ∧
  ORows w 76 6 (OEx w d) kv e.kids f1∧ORows w 46 2 (OCl w (OEx w d)) cv e.clauses f2
abbrev OCls (w:World) (d:Nat):List Value→Cl→List Nat→Prop:=OCl w (OEx w d)
theorem OCl.keep' {w w':World} {O O':List Value→Ex→List Nat→Prop} {cs:List Value} {c:Cl} {fp:List Nat} (h:OCl w O cs c fp) (hk:KeepOn fp w w') (hO:∀ cs x f,(∀ a ∈ f,a ∈ fp)→O cs x f→O' cs x f):OCl w' O' cs c fp:=by
 obtain ⟨pv,bv,f1,f2,rfl,rfl,h1,h2⟩:=h;refine ⟨pv,bv,f1,f2,rfl,rfl,h1.keep (hk.sub (fun a ha=>by simp [ha])) (fun cs x f _ hs=>hO cs x f (fun a ha=>by simp [hs a ha])),h2.keep (hk.sub (fun a ha=>by simp [ha])) (fun cs x f _ hs=>hO cs x f (fun a ha=>by simp [hs a ha]))⟩
theorem OEx.keep {w w':World}:∀ {d:Nat} {cs:List Value} {e:Ex} {fp:List Nat},OEx w d cs e fp→KeepOn fp w w'→OEx w' d cs e fp
 | 0,_,_,_,h,_=>h.elim
 | d+1,cs,e,fp,h,hk=>by
  obtain ⟨kv,cv,f1,f2,rfl,rfl,h1,h2,h3,h4,hr,hc⟩:=h;refine ⟨kv,cv,f1,f2,rfl,rfl,h1,h2,h3,h4,hr.keep (hk.sub (fun a ha=>by simp [ha])) (fun cs x f _ hs h=>h.keep (hk.sub (fun a ha=>by simp [hs a ha]))),hc.keep (hk.sub (fun a ha=>by simp [ha])) (fun cs x f _ hs h=>?_)⟩;exact h.keep' (hk.sub (fun a ha=>by simp [hs a ha])) (fun cs x g hg h=>h.keep (hk.sub (fun a ha=>by simp [hs a (hg a ha)])))
theorem OCls.keep {w w':World} {d:Nat} {cs:List Value} {c:Cl} {fp:List Nat} (h:OCl w (OEx w d) cs c fp) (hk:KeepOn fp w w'):OCl w' (OEx w' d) cs c fp :=
 h.keep' hk (fun cs x g hg h=>h.keep (hk.sub hg))
theorem OCl.tree' {w:World} {S:Nat→Prop} {O:List Value→Ex→List Nat→Prop} {R:List Value→Ex→Prop} {cs:List Value} {c:Cl} {fp:List Nat} (h:OCl w O cs c fp) (hS:∀ a ∈ fp,S a) (hO:∀ cs x f,(∀ a ∈ f,a ∈ fp)→O cs x f→R cs x):HCl w S R cs c:=by
 obtain ⟨pv,bv,f1,f2,rfl,rfl,h1,h2⟩:=h;exact ⟨pv,bv,rfl,h1.rows (fun a ha=>hS a (by simp [ha])) (fun cs x f _ hs=>hO cs x f (fun a ha=>by simp [hs a ha])),h2.rows (fun a ha=>hS a (by simp [ha])) (fun cs x f _ hs=>hO cs x f (fun a ha=>by simp [hs a ha]))⟩
theorem OEx.tree {w:World} {S:Nat→Prop}:∀ {d:Nat} {cs:List Value} {e:Ex} {fp:List Nat},OEx w d cs e fp→(∀ a ∈ fp,S a)→HEx w S d cs e
 | 0,_,_,_,h,_=>h.elim
 | d+1,cs,e,fp,h,hS=>by
  obtain ⟨kv,cv,f1,f2,rfl,rfl,h1,h2,h3,h4,hr,hc⟩:=h;refine ⟨kv,cv,rfl,h1,h2,h3,h4,hr.rows (fun a ha=>hS a (by simp [ha])) (fun cs x f _ hs h=>h.tree (fun a ha=>hS a (by simp [hs a ha]))),hc.rows (fun a ha=>hS a (by simp [ha])) (fun cs x f _ hs h=>?_)⟩;exact h.tree' (fun a ha=>hS a (by simp [hs a ha])) (fun cs x g hg h=>h.tree (fun a ha=>hS a (by simp [hs a (hg a ha)])))
theorem OCls.tree {w:World} {S:Nat→Prop} {d:Nat} {cs:List Value} {c:Cl} {fp:List Nat} (h:OCl w (OEx w d) cs c fp) (hS:∀ a ∈ fp,S a):HCl w S (HEx w S d) cs c :=
 h.tree' hS (fun cs x g hg h=>h.tree (fun a ha=>hS a (hg a ha)))
theorem OCl.lt' {w:World} {O:List Value→Ex→List Nat→Prop} {cs:List Value} {c:Cl} {fp:List Nat} (h:OCl w O cs c fp) (hO:∀ cs x f,O cs x f→∀ a ∈ f,a<w.heap.size):∀ a ∈ fp,a<w.heap.size:=by
 obtain ⟨pv,bv,f1,f2,rfl,rfl,h1,h2⟩:=h;intro a ha
 rcases List.mem_append.1 ha with ha | ha
 · exact h1.lt hO a ha
 · exact h2.lt hO a ha
theorem OEx.lt {w:World}:∀ {d:Nat} {cs:List Value} {e:Ex} {fp:List Nat},OEx w d cs e fp→∀ a ∈ fp,a<w.heap.size
 | 0,_,_,_,h=>h.elim
 | d+1,cs,e,fp,h=>by
  obtain ⟨kv,cv,f1,f2,rfl,rfl,h1,h2,h3,h4,hr,hc⟩:=h;intro a ha
  rcases List.mem_append.1 ha with ha | ha
  · exact hr.lt (fun cs x f h=>h.lt) a ha
  · exact hc.lt (fun cs x f h=>h.lt' (fun cs x f h=>h.lt)) a ha
theorem OEx.shape {w:World} {d:Nat} {cs:List Value} {x:Ex} {fp:List Nat} (h:OEx w d cs x fp):∃ sk sn st se p1 n1 q1 p2 n2 q2,cs = [.int .i64 sk,.int .i64 sn,.string st,.string se,.slice p1 n1 q1,.slice p2 n2 q2]:=by
 cases d with
 | zero=>exact h.elim
 | succ d =>
  obtain ⟨kv,cv,f1,f2,rfl,rfl,_,_,_,_,hr,hc⟩:=h;obtain ⟨p1,c1,rfl,_⟩:=hr.shape;obtain ⟨p2,c2,rfl,_⟩:=hc.shape;exact ⟨_,_,_,_,_,_,_,_,_,_,rfl⟩
theorem OCl.shape {w:World} {O:List Value→Ex→List Nat→Prop} {cs:List Value} {x:Cl} {fp:List Nat} (h:OCl w O cs x fp):∃ p1 n1 q1 p2 n2 q2,cs = [.slice p1 n1 q1,.slice p2 n2 q2]:=by
 obtain ⟨pv,bv,f1,f2,rfl,rfl,h1,h2⟩:=h;obtain ⟨p1,c1,rfl,_⟩:=h1.shape;obtain ⟨p2,c2,rfl,_⟩:=h2.shape;exact ⟨_,_,_,_,_,_,rfl⟩
def ORf (_:World) (_:Nat) (cs:List Value) (r:Rf) (fp:List Nat):Prop:=HRf cs r∧fp = []
def OFn (w:World) (d:Nat) (cs:List Value) (f:Fn') (fp:List Nat):Prop :=
 ∃ cv,cs = [.string f.name,.int .i64 f.arity,cv]∧okS f.name∧okI f.arity∧ORows w 46 2 (OCl w (OEx w d)) cv f.clauses fp
def OMd (w:World) (d:Nat) (cs:List Value) (m:Md) (fp:List Nat):Prop :=
 ∃ ev fv f1 f2,cs = [.string m.name,ev,fv]∧fp=f1 ++ f2∧okS m.name∧ORows w 84 2 (ORf w d) ev m.exports f1∧ORows w 59 3 (OFn w d) fv m.funs f2
theorem ORf.lt {w:World} {d:Nat} {cs:List Value} {r:Rf} {fp:List Nat} (h:ORf w d cs r fp):∀ a ∈ fp,a<w.heap.size:=by rw [h.2];simp
theorem ORf.shape {w:World} {d:Nat} {cs:List Value} {x:Rf} {fp:List Nat} (h:ORf w d cs x fp):∃ st sk,cs = [.string st,.int .i64 sk]:=by
 obtain ⟨⟨rfl,_⟩,_⟩:=h;exact ⟨_,_,rfl⟩
theorem OFn.keep {w w':World} {d:Nat} {cs:List Value} {f:Fn'} {fp:List Nat} (h:OFn w d cs f fp) (hk:KeepOn fp w w'):OFn w' d cs f fp:=by
 obtain ⟨cv,rfl,h1,h2,h3⟩:=h;exact ⟨cv,rfl,h1,h2,h3.keep hk (fun cs x f _ hs h=>OCls.keep h (hk.sub hs))⟩
theorem OFn.tree {w:World} {S:Nat→Prop} {d:Nat} {cs:List Value} {f:Fn'} {fp:List Nat} (h:OFn w d cs f fp) (hS:∀ a ∈ fp,S a):HFn w S d cs f:=by
 obtain ⟨cv,rfl,h1,h2,h3⟩:=h;exact ⟨cv,rfl,h1,h2,h3.rows hS (fun cs x f _ hs h=>OCls.tree h (fun a ha=>hS a (hs a ha)))⟩
theorem OFn.lt {w:World} {d:Nat} {cs:List Value} {f:Fn'} {fp:List Nat} (h:OFn w d cs f fp):∀ a ∈ fp,a<w.heap.size:=by
 obtain ⟨cv,rfl,h1,h2,h3⟩:=h;exact h3.lt (fun cs x f h=>h.lt' (fun cs x f h=>h.lt))
theorem OFn.shape {w:World} {d:Nat} {cs:List Value} {x:Fn'} {fp:List Nat} (h:OFn w d cs x fp):∃ st sk p1 n1 q1,cs = [.string st,.int .i64 sk,.slice p1 n1 q1]:=by
 obtain ⟨cv,rfl,h1,h2,h3⟩:=h;obtain ⟨p1,c1,rfl,_⟩:=h3.shape;exact ⟨_,_,_,_,_,rfl⟩
theorem OMd.keep {w w':World} {d:Nat} {cs:List Value} {m:Md} {fp:List Nat} (h:OMd w d cs m fp) (hk:KeepOn fp w w'):OMd w' d cs m fp:=by
 obtain ⟨ev,fv,f1,f2,rfl,rfl,h1,h2,h3⟩:=h;exact ⟨ev,fv,f1,f2,rfl,rfl,h1,h2.keep (hk.sub (fun a ha=>by simp [ha])) (fun cs x f _ hs h=>h),h3.keep (hk.sub (fun a ha=>by simp [ha])) (fun cs x f _ hs h=>h.keep (hk.sub (fun a ha=>by simp [hs a ha])))⟩
theorem OMd.tree {w:World} {S:Nat→Prop} {d:Nat} {cs:List Value} {m:Md} {fp:List Nat} (h:OMd w d cs m fp) (hS:∀ a ∈ fp,S a):HMd w S d cs m:=by
 obtain ⟨ev,fv,f1,f2,rfl,rfl,h1,h2,h3⟩:=h;exact ⟨ev,fv,rfl,h1,h2.rows (fun a ha=>hS a (by simp [ha])) (fun cs x f _ hs h=>h.1),h3.rows (fun a ha=>hS a (by simp [ha])) (fun cs x f _ hs h=>h.tree (fun a ha=>hS a (by simp [hs a ha])))⟩
theorem OMd.lt {w:World} {d:Nat} {cs:List Value} {m:Md} {fp:List Nat} (h:OMd w d cs m fp):∀ a ∈ fp,a<w.heap.size:=by
 obtain ⟨ev,fv,f1,f2,rfl,rfl,h1,h2,h3⟩:=h;intro a ha
 rcases List.mem_append.1 ha with ha | ha
 · exact h2.lt (fun cs x f h=>h.lt) a ha
 · exact h3.lt (fun cs x f h=>h.lt) a ha
theorem OMd.shape {w:World} {d:Nat} {cs:List Value} {x:Md} {fp:List Nat} (h:OMd w d cs x fp):∃ st p1 n1 q1 p2 n2 q2,cs = [.string st,.slice p1 n1 q1,.slice p2 n2 q2]:=by
 obtain ⟨ev,fv,f1,f2,rfl,rfl,h1,h2,h3⟩:=h;obtain ⟨p1,c1,rfl,_⟩:=h2.shape;obtain ⟨p2,c2,rfl,_⟩:=h3.shape;exact ⟨_,_,_,_,_,_,_,rfl⟩
end Go.Proofs.YtdhlonogmnkemaaGreatDoor
namespace Go.Proofs.YtdhlonogmnkemaaGreatDoor
open Go.ChangeShapes Go.WideShapes Go.ChangeAt Go.RowKit Go.Proofs.Tryz
set_option linter.unusedVariables false
set_option maxRecDepth 100000
structure Ctx (Cap:World→Prop) (w:World) (N mb:Nat) (PL:Nat→Prop) (es:Array MapEntry) (z:Nat):Prop where
 pl:Plain w N mb PL
 mp:MapSt w mb es
 ks:KeysIn w PL es z
 lt:mb<N
 le:N≤w.heap.size
 cap:Cap w
def CapK (Cap:World→Prop) (N mb:Nat):Prop:=∀ w w',OffB mb N w w'→Cap w→Cap w'
def ResM (w:World) (mb:Nat) (es:Array MapEntry) (O:World→Value→List Nat→Prop) (e:Ending) (w':World):Prop :=
 ∃ u fp,e=.returned u∧O w' u fp∧fp.Nodup∧(∀ a ∈ fp,w.heap.size≤a∧a<w'.heap.size)∧OffB mb w.heap.size w w'∧MapSt w' mb es
theorem MapSt.keep {w w':World} {mb:Nat} {es:Array MapEntry} (h:MapSt w mb es) (he:w'.heap[mb]?=w.heap[mb]?):MapSt w' mb es:=by
 obtain ⟨c,h⟩:=h;exact ⟨c,he.trans h⟩
theorem Ctx.off {Cap:World→Prop} {w w':World} {N N' mb:Nat} {PL:Nat→Prop} {es:Array MapEntry} {z z':Nat} (h:Ctx Cap w N mb PL es z) (hC:CapK Cap N mb) (ho:OffB mb N' w w') (hN:N≤N') (hm:MapSt w' mb es) (hz:z'≤z):Ctx Cap w' N mb PL es z' :=
 ⟨h.pl.off ho hN,hm,h.ks.mono (h.pl.same ho hN) hz,h.lt,Nat.le_trans h.le ho.size,hC _ _ (ho.mono hN) h.cap⟩
theorem Ctx.next {Cap:World→Prop} {w w':World} {N mb:Nat} {PL:Nat→Prop} {es:Array MapEntry} {z z':Nat} (h:Ctx Cap w N mb PL es z) (hC:CapK Cap N mb) (hb:Bz w w') (hz:z'≤z):Ctx Cap w' N mb PL es z' :=
 h.off hC (OffB.of_below hb) h.le (h.mp.keep (hb.block mb (by have:=h.lt;have:=h.le;omega))) hz
theorem Ctx.same {Cap:World→Prop} {w w':World} {N N' mb:Nat} {PL:Nat→Prop} {es:Array MapEntry} {z:Nat} (h:Ctx Cap w N mb PL es z) (ho:OffB mb N' w w') (hN:N≤N'):SameOn PL w w':=h.pl.same ho hN
theorem Ctx.mlt {Cap:World→Prop} {w:World} {N mb:Nat} {PL:Nat→Prop} {es:Array MapEntry} {z:Nat} (h:Ctx Cap w N mb PL es z):mb<w.heap.size:=by
 have:=h.lt;have:=h.le;omega
theorem OffB.cellAt {b N:Nat} {u v:World} (h:OffB b N u v) {p:Addr} (hN:p.block<N) (hne:p.block≠b):v.cell? p=u.cell? p:=sqK (h.block p.block hN hne)
theorem ownsG_blk {w w':World} {B G n cap c:Nat} {e:TypeId} {xs:List Value} (h:w.ownsRow B e c (.slice (some ⟨G,0,none⟩) n cap) n xs) (hk:w'.heap[G]?=w.heap[G]?):w'.ownsRow B e c (.slice (some ⟨G,0,none⟩) n cap) n xs:=by
 refine ⟨h.1,?_⟩
 rcases h.2 with hn | ⟨g',cap',cur,hv',hb,hg,hr⟩
 · exact .inl hn
 · have:g'=G:=by simp at hv';exact hv'.1.symm
   subst this;exact .inr ⟨g',cap',cur,hv',hb,hk.trans hg,hr⟩
theorem MadeB.next {α:Type} {b:Nat} {w wr w1:World} {G n c k:Nat} {e:TypeId} {O:World→List Value→α→List Nat→Prop} {es:List α} {xs:List Value} {fps:List (List Nat)}
 (hO:∀ w w' cs x f,O w cs x f→KeepOn f w w'→O w' cs x f) (h:MadeB b w wr G n e c O es k xs fps) (ho:OffB b wr.heap.size wr w1):MadeB b w w1 G n e c O es k xs fps:=by
 have h1:=h.sz;have h2:=h.lt;have h3:=ho.size;refine ⟨ownsG_blk h.own (ho.block G (by omega) (by omega)),h.len,h.nd,fun a ha=>?_,fun i x f hx hf=>?_,h.off.trans (ho.mono (by omega)),by omega,h2⟩
 · have:=h.rng a ha;omega
 · obtain ⟨cs,g1,g2,g3⟩:=h.el i x f hx hf
   refine ⟨cs,g1,g2,hO _ _ _ _ _ g3 (fun a ha=>?_)⟩;have:=h.rng a (List.mem_flatten.2 ⟨f,List.mem_of_getElem? hf,ha⟩);exact ho.block a this.2 (by omega)
theorem blankExp_nil (w:World) (c:Nat):Calls prog 119 #[.slice none 0 c] w fun e w'=>e=.returned (.slice none 0 0)∧w'=w:=by
 have e0:Sem.run prog (binOp .eql 157 (.slice none 0 c) (.slice none 0 0)) w=.ok (.bool true) w:=(by kernel_rfl);go_enter func119,ntmps119;go_wp2;go_ret;exact ⟨rfl,rfl⟩
theorem blankExp_some (w:World) (a:Addr) (n c:Nat) (hn:n≤16777216):Calls prog 119 #[.slice (some a) n c] w fun e w'=>e=.returned (.slice (some ⟨w.heap.size,0,none⟩) n n)∧∃ M:Array Value,M.size=n * 6∧w'=w.alloc (.cells M 76):=by
 obtain ⟨M,hM,hmk⟩:=make_row (t:=157) (e:=76) (c:=6) underlying157 (by kernel_rfl) w n hn;have e0:Sem.run prog (binOp .eql 157 (.slice (some a) n c) (.slice none 0 0)) w=.ok (.bool false) w:=(by kernel_rfl);go_enter func119,ntmps119;go_wp2;go_ret;exact ⟨rfl,M,hM,rfl⟩
theorem blankClause_nil (w:World) (c:Nat):Calls prog 195 #[.slice none 0 c] w fun e w'=>e=.returned (.slice none 0 0)∧w'=w:=by
 have e0:Sem.run prog (binOp .eql 198 (.slice none 0 c) (.slice none 0 0)) w=.ok (.bool true) w:=(by kernel_rfl);go_enter func195,ntmps195;go_wp2;go_ret;exact ⟨rfl,rfl⟩
theorem blankClause_some (w:World) (a:Addr) (n c:Nat) (hn:n≤16777216):Calls prog 195 #[.slice (some a) n c] w fun e w'=>e=.returned (.slice (some ⟨w.heap.size,0,none⟩) n n)∧∃ M:Array Value,M.size=n * 2∧w'=w.alloc (.cells M 46):=by
 obtain ⟨M,hM,hmk⟩:=make_row (t:=198) (e:=46) (c:=2) underlying198 (by kernel_rfl) w n hn;have e0:Sem.run prog (binOp .eql 198 (.slice (some a) n c) (.slice none 0 0)) w=.ok (.bool false) w:=(by kernel_rfl);go_enter func195,ntmps195;go_wp2;go_ret;exact ⟨rfl,M,hM,rfl⟩
theorem blankFun_nil (w:World) (c:Nat):Calls prog 134 #[.slice none 0 c] w fun e w'=>e=.returned (.slice none 0 0)∧w'=w:=by
 have e0:Sem.run prog (binOp .eql 123 (.slice none 0 c) (.slice none 0 0)) w=.ok (.bool true) w:=(by kernel_rfl);go_enter func134,ntmps134;go_wp2;go_ret;exact ⟨rfl,rfl⟩
theorem blankFun_some (w:World) (a:Addr) (n c:Nat) (hn:n≤16777216):Calls prog 134 #[.slice (some a) n c] w fun e w'=>e=.returned (.slice (some ⟨w.heap.size,0,none⟩) n n)∧∃ M:Array Value,M.size=n * 3∧w'=w.alloc (.cells M 59):=by
 obtain ⟨M,hM,hmk⟩:=make_row (t:=123) (e:=59) (c:=3) underlying123 (by kernel_rfl) w n hn;have e0:Sem.run prog (binOp .eql 123 (.slice (some a) n c) (.slice none 0 0)) w=.ok (.bool false) w:=(by kernel_rfl);go_enter func134,ntmps134;go_wp2;go_ret;exact ⟨rfl,M,hM,rfl⟩
theorem blankRef_nil (w:World) (c:Nat):Calls prog 136 #[.slice none 0 c] w fun e w'=>e=.returned (.slice none 0 0)∧w'=w:=by
 have e0:Sem.run prog (binOp .eql 127 (.slice none 0 c) (.slice none 0 0)) w=.ok (.bool true) w:=(by kernel_rfl);go_enter func136,ntmps136;go_wp2;go_ret;exact ⟨rfl,rfl⟩
theorem blankRef_some (w:World) (a:Addr) (n c:Nat) (hn:n≤16777216):Calls prog 136 #[.slice (some a) n c] w fun e w'=>e=.returned (.slice (some ⟨w.heap.size,0,none⟩) n n)∧∃ M:Array Value,M.size=n * 2∧w'=w.alloc (.cells M 84):=by
 obtain ⟨M,hM,hmk⟩:=make_row (t:=127) (e:=84) (c:=2) underlying127 (by kernel_rfl) w n hn;have e0:Sem.run prog (binOp .eql 127 (.slice (some a) n c) (.slice none 0 0)) w=.ok (.bool false) w:=(by kernel_rfl);go_enter func136,ntmps136;go_wp2;go_ret;exact ⟨rfl,M,hM,rfl⟩
theorem blankModule_nil (w:World) (c:Nat):Calls prog 87 #[.slice none 0 c] w fun e w'=>e=.returned (.slice none 0 0)∧w'=w:=by
 have e0:Sem.run prog (binOp .eql 89 (.slice none 0 c) (.slice none 0 0)) w=.ok (.bool true) w:=(by kernel_rfl);go_enter func87,ntmps87;go_wp2;go_ret;exact ⟨rfl,rfl⟩
theorem blankModule_some (w:World) (a:Addr) (n c:Nat) (hn:n≤16777216):Calls prog 87 #[.slice (some a) n c] w fun e w'=>e=.returned (.slice (some ⟨w.heap.size,0,none⟩) n n)∧∃ M:Array Value,M.size=n * 3∧w'=w.alloc (.cells M 63):=by
 obtain ⟨M,hM,hmk⟩:=make_row (t:=89) (e:=63) (c:=3) underlying89 (by kernel_rfl) w n hn;have e0:Sem.run prog (binOp .eql 89 (.slice (some a) n c) (.slice none 0 0)) w=.ok (.bool false) w:=(by kernel_rfl);go_enter func87,ntmps87;go_wp2;go_ret;exact ⟨rfl,M,hM,rfl⟩
theorem fillClause_nil (w:World) (p p':Option Addr) (c c':Nat) (bf:Value):Calls prog 196 #[.slice p 0 c,.slice p' 0 c',bf] w fun e w'=>e=.returned (.tuple #[])∧w'=w:=by
 go_enter func196,ntmps196;go_wp2_with fail
 go_loopw [10] (fun iv wr=>iv=.int .i64 0∧Hid (wr=w)) (fun _ _=>0)
 case atStart=>exact ⟨rfl,rfl⟩
 case round =>
  obtain ⟨rfl,hw⟩:=hrel;go_wp2_with fail;go_end0;exact ⟨rfl,hw.out⟩
theorem fillFun_nil (w:World) (p p':Option Addr) (c c':Nat) (bf:Value):Calls prog 135 #[.slice p 0 c,.slice p' 0 c',bf] w fun e w'=>e=.returned (.tuple #[])∧w'=w:=by
 go_enter func135,ntmps135;go_wp2_with fail
 go_loopw [10] (fun iv wr=>iv=.int .i64 0∧Hid (wr=w)) (fun _ _=>0)
 case atStart=>exact ⟨rfl,rfl⟩
 case round =>
  obtain ⟨rfl,hw⟩:=hrel;go_wp2_with fail;go_end0;exact ⟨rfl,hw.out⟩
theorem fillRef_nil (w:World) (p p':Option Addr) (c c':Nat) (bf:Value):Calls prog 137 #[.slice p 0 c,.slice p' 0 c',bf] w fun e w'=>e=.returned (.tuple #[])∧w'=w:=by
 go_enter func137,ntmps137;go_wp2_with fail
 go_loopw [10] (fun iv wr=>iv=.int .i64 0∧Hid (wr=w)) (fun _ _=>0)
 case atStart=>exact ⟨rfl,rfl⟩
 case round =>
  obtain ⟨rfl,hw⟩:=hrel;go_wp2_with fail;go_end0;exact ⟨rfl,hw.out⟩
theorem fillModule_nil (w:World) (p p':Option Addr) (c c':Nat) (bf:Value):Calls prog 88 #[.slice p 0 c,.slice p' 0 c',bf] w fun e w'=>e=.returned (.tuple #[])∧w'=w:=by
 go_enter func88,ntmps88;go_wp2_with fail
 go_loopw [10] (fun iv wr=>iv=.int .i64 0∧Hid (wr=w)) (fun _ _=>0)
 case atStart=>exact ⟨rfl,rfl⟩
 case round =>
  obtain ⟨rfl,hw⟩:=hrel;go_wp2_with fail;go_end0;exact ⟨rfl,hw.out⟩
end Go.Proofs.YtdhlonogmnkemaaGreatDoor
namespace Go.Proofs.YtdhlonogmnkemaaGreatDoor
open Go.ChangeShapes Go.WideShapes Go.ChangeAt Go.RowKit
set_option linter.unusedVariables false
set_option maxRecDepth 100000
theorem HEx.shapeR {w:World} {S:Nat→Prop} {d:Nat} {cs:List Value} {x:Ex} (h:HEx w S d cs x):∃ sk sn st se p1 n1 q1 p2 n2 q2,cs = [.int .i64 sk,.int .i64 sn,.string st,.string se,.slice p1 n1 q1,.slice p2 n2 q2]:=by
 cases d with
 | zero=>exact h.elim
 | succ d =>
  obtain ⟨kv,cv,rfl,-,-,-,-,⟨p,c,rfl,-⟩,⟨p',c',rfl,-⟩⟩:=h;exact ⟨_,_,_,_,_,_,_,_,_,_,rfl⟩
theorem HCl.shapeR {w:World} {S:Nat→Prop} {R:List Value→Ex→Prop} {cs:List Value} {c:Cl} (h:HCl w S R cs c):∃ p1 n1 q1 p2 n2 q2,cs = [.slice p1 n1 q1,.slice p2 n2 q2]:=by
 obtain ⟨p,b,rfl,⟨p1,c1,rfl,-⟩,⟨p2,c2,rfl,-⟩⟩:=h;exact ⟨_,_,_,_,_,_,rfl⟩
theorem OCls.shape {w:World} {O:List Value→Ex→List Nat→Prop} {cs:List Value} {c:Cl} {fp:List Nat} (h:OCl w O cs c fp):∃ p1 n1 q1 p2 n2 q2,cs = [.slice p1 n1 q1,.slice p2 n2 q2]:=by
 obtain ⟨pv,bv,f1,f2,rfl,rfl,h1,h2⟩:=h;obtain ⟨p1,c1,rfl,-⟩:=h1.shape;obtain ⟨p2,c2,rfl,-⟩:=h2.shape;exact ⟨_,_,_,_,_,_,rfl⟩
theorem offB_of_off {mb G N:Nat} {w w':World} (h:Off [mb,G] w w') (hN:N≤G) (hw:N≤w.heap.size):OffB mb N w w' :=
 ⟨h.os,h.tape,h.output,h.size,fun k hk hb=>h.block k (by omega) (by simp;omega)⟩
theorem off_of_offB {mb G:Nat} {w w':World} (h:OffB mb w.heap.size w w'):Off [mb,G] w w' :=
 ⟨h.os,h.tape,h.output,h.size,fun k hk hf=>h.block k hk (by simp at hf;exact hf.1)⟩
theorem rows_nil_of_none {α:Type} {w:World} {S:Nat→Prop} {c n q:Nat} {R:List Value→α→Prop} {xs:List α} (h:Rows w S c R (.slice none n q) xs):xs = []:=by
 obtain ⟨p,cap,hv,-,-,hx⟩:=h
 apply Classical.byContradiction
 intro hne;obtain ⟨g,off,hp,-⟩:=hx hne;simp only [Value.slice.injEq] at hv;rw [hp] at hv
 cases hv.1
theorem orows_nil {α:Type} {w:World} {e:TypeId} {c:Nat} {R:List Value→α→List Nat→Prop} (p:Option Addr) (q:Nat) (hq:q≤maxLen):ORows w e c R (.slice p 0 q) ([]:List α) []:=.inl ⟨rfl,rfl,p,q,rfl,hq⟩
end Go.Proofs.YtdhlonogmnkemaaGreatDoor
namespace Go.Proofs.YtdhlonogmnkemaaGreatDoor
open Go.ChangeShapes Go.WideShapes Go.ChangeAt Go.RowKit Go.Proofs.Tryz
set_option linter.unusedVariables false
set_option maxRecDepth 100000
theorem HFn.shapeR {w:World} {S:Nat→Prop} {d:Nat} {cs:List Value} {x:Fn'} (h:HFn w S d cs x):∃ t k p1 n1 q1,cs = [.string t,.int .i64 k,.slice p1 n1 q1]:=by
 obtain ⟨cv,rfl,-,-,⟨p,c,rfl,-⟩⟩:=h;exact ⟨_,_,_,_,_,rfl⟩
theorem HMd.shapeR {w:World} {S:Nat→Prop} {d:Nat} {cs:List Value} {x:Md} (h:HMd w S d cs x):∃ t p1 n1 q1 p2 n2 q2,cs = [.string t,.slice p1 n1 q1,.slice p2 n2 q2]:=by
 obtain ⟨ev,fv,rfl,-,⟨p,c,rfl,-⟩,⟨p',c',rfl,-⟩⟩:=h;exact ⟨_,_,_,_,_,_,_,rfl⟩
theorem unchangedRef_any (w:World) (s:ByteArray) (n:Int):Calls prog 117 #[.agg #[.string s,.int .i64 n]] w fun e w'=>e=.returned (.agg #[.string s,.int .i64 n])∧Bz w w':=by
 have BL:Hid (∀ (cs cs':Array Value) (t t':TypeId),Bz w ((w.alloc (.cells cs t)).alloc (.cells cs' t'))):=fun cs cs' t t'=>((sqN _ _)).alloc (by simp) _
 have RB:Hid (∀ (cs:Array Value) (t:TypeId),Blk ((w.alloc (.cells cs t)).alloc (.cells #[.string s,.int .i64 n] 84)) (w.heap.size+1) #[.string s,.int .i64 n] 84):=fun cs t=>by
  have:=Blk.new (w:=w.alloc (.cells cs t)) (cs:=#[.string s,.int .i64 n]) (t:=84)
  rwa [alloc_hs] at this
 go_enter func117,ntmps117;go_wp2_with fail;have q0:=(RB.out #[.string s,.int .i64 n] 84).cell 0 _ rfl;have q1:=(RB.out #[.string s,.int .i64 n] 84).cell 1 _ rfl;exact bodyPost_ret (v:=.agg #[.string s,.int .i64 n]) (by simp [results,results117,go_sem,q0,q1]) rfl ⟨rfl,BL.out _ _ _ _⟩
theorem unchangedExp_any (w:World) (k n:Int) (t m:ByteArray) (p1 p2:Option Addr) (n1 q1 n2 q2:Nat):Calls prog 72 #[.agg #[.int .i64 k,.int .i64 n,.string t,.string m,.slice p1 n1 q1,.slice p2 n2 q2]] w fun e w'=>e=.returned (.agg #[.int .i64 k,.int .i64 n,.string t,.string m,.slice p1 n1 q1,.slice p2 n2 q2])∧Bz w w':=by
 have BL:Hid (∀ (cs cs':Array Value) (t t':TypeId),Bz w ((w.alloc (.cells cs t)).alloc (.cells cs' t'))):=fun cs cs' t t'=>((sqN _ _)).alloc (by simp) _
 have RB:Hid (∀ (cs:Array Value) (ty:TypeId),Blk ((w.alloc (.cells cs ty)).alloc (.cells #[.int .i64 k,.int .i64 n,.string t,.string m,.slice p1 n1 q1,.slice p2 n2 q2] 76)) (w.heap.size+1) #[.int .i64 k,.int .i64 n,.string t,.string m,.slice p1 n1 q1,.slice p2 n2 q2] 76):=fun cs ty=>by
  have:=Blk.new (w:=w.alloc (.cells cs ty)) (cs:=#[.int .i64 k,.int .i64 n,.string t,.string m,.slice p1 n1 q1,.slice p2 n2 q2]) (t:=76)
  rwa [alloc_hs] at this
 go_enter func72,ntmps72;go_wp2_with fail;have q:=RB.out #[.int .i64 k,.int .i64 n,.string t,.string m,.slice p1 n1 q1,.slice p2 n2 q2] 76;obtain ⟨q0,q1,q2,q3,q4,q5⟩:=sqB6 q;exact bodyPost_ret (v:=.agg #[.int .i64 k,.int .i64 n,.string t,.string m,.slice p1 n1 _,.slice p2 n2 _]) (by simp [results,results72,go_sem,q0,q1,q2,q3,q4,q5]) rfl ⟨rfl,BL.out _ _ _ _⟩
theorem fillRef_any (d:Nat) (w0 w:World) (G n:Nat) (S:Nat→Prop) (v:Value) (rs:List Rf) (M:List Value) (hM:Made w0 w G n 84 2 (fun w=>ORf w d) rs 0 M []) (hr:Rows w S 2 HRf v rs) (hS:∀ g,S g→g<G) (hn:rs.length=n) (hnb:n≤16777216) :
 Calls prog 137 #[.slice (some ⟨G,0,none⟩) n n,v,.func (.func 117) #[] #[]] w fun e w'=>e=.returned (.tuple #[])∧(∃ ys fps,Made w0 w' G n 84 2 (fun w=>ORf w d) rs n ys fps)∧Below G w w':=by
 obtain ⟨p,cap,rfl,hcl,hcm,hx⟩:=hr;rw [hn] at hcl ⊢;have HN:=hid hn;have HX:=hid hx;have HM0:=hid hM;have HS:=hid hS;clear hx hn hM hS;go_enter func137,ntmps137;go_wp2_with fail
 go_loopw [10] (fun iv wr=>∃ (k:Nat) (ys:List Value) (fps:List (List Nat)),k≤n∧iv=.int .i64 k∧Hid (Made w0 wr G n 84 2 (fun w=>ORf w d) rs k ys fps)∧Hid (Below G w wr)) (fun iv _=>n - (intOf iv).toNat)
 case atStart=>exact ⟨0,M,[],Nat.zero_le _,rfl,HM0.out,Below.refl _ _⟩
 case round =>
  obtain ⟨k,ys,fps,hk,rfl,HM,HB⟩:=hrel;by_cases hlt:k<n
  · obtain ⟨x,hxk⟩:=sqA (l:=rs) (k:=k) HN.out hlt
    obtain ⟨g,off,rfl,hg,hgl,hat⟩:=HX.out (sqE hxk);obtain ⟨cs,hcl6,hcs,rfl,h1,h2⟩:=hat k x hxk;have HXX:Hid (ORf wr d [.string x.name,.int .i64 x.arity] x []):=⟨⟨rfl,h1,h2⟩,rfl⟩;obtain ⟨a0,a1⟩:=sqC2 hcs (by omega);rw [← HB.out.cell (p:=⟨g,_,none⟩) (HS.out g hg)] at a0 a1;clear hcs hat;simp at a0 a1;have hki:(k:Int)<(n:Int):=(by omega);have hk0:=sqI k;obtain ⟨W5,hW5⟩:∃ W5,W5=wr.alloc (.cells #[.string x.name,.int .i64 x.arity] 84):=⟨_,rfl⟩;have K5:Hid (Bz wr W5):=(by show Below _ _ _;rw [hW5];exact (sqN _ _));have HW5:=hid hW5;clear hW5 hcl6 h1 h2;go_wp2_with fail;rw [← HW5.out];refine (unchangedRef_any W5 x.name x.arity).mono ?_;rintro e w1 ⟨rfl,hb1⟩;have K6:=hid (K5.out.trans (hb1.mono K5.out.size));have hGl:=HM.out.sz;have o1:w1.ownsRow G 84 2 (.slice (some ⟨G,0,none⟩) n n) n ys:=ownsG_blk HM.out.own (K6.out.block G (by omega));have HO1:=hid o1;have f0:=o1.frozenAt (k * 2);obtain ⟨y0,g0⟩:=own_someR o1 (k * 2) (by omega);have f1:=o1.frozenAt (k * 2+1);obtain ⟨y1,g1⟩:=own_someR o1 (k * 2+1) (by omega);clear o1 hb1 hGl a0 a1;go_wp2_with fail;have sd:=stored2 HO1.out (k * 2) (.string x.name) (.int .i64 x.arity);have hlen:ys.length=n * 2:=HO1.out.1;have HMN:=Made.step (O:=fun w=>ORf w d) (c:=2) (fun w w' cs x f h hk=>h) HM.out hxk K6.out (show ORf w1 d [.string x.name,.int .i64 x.arity] x [] from HXX.out) (by simp) (by simp) rfl sd.1 sd.2 (fun m hm=>set2_other hm) (fun j hj=>set2_self (by omega) j hj);exact ⟨⟨k+1,_,_,by omega,by go_num,HMN,HB.out.trans ((K6.out.mono (by have:=HM.out.sz;omega)).trans ⟨sd.2.os,sd.2.tape,sd.2.output,sd.2.size,fun j hj=>sd.2.block j (by have:=HM.out.sz;have:=K6.out.size;omega) (by simp;omega)⟩)⟩,by simp [intOf];omega⟩
  · obtain rfl:k=n:=by omega
    go_wp2_with fail;go_end0;exact ⟨rfl,⟨_,_,HM.out⟩,HB.out⟩
theorem eachRef_any (d:Nat) (w:World) (S:Nat→Prop) (v:Value) (rs:List Rf) (hr:Rows w S 2 HRf v rs) (hS:∀ g,S g→g<w.heap.size) (hw:rs.length≤16777216) :
 Calls prog 94 #[v,.func (.func 117) #[] #[]] w fun e w'=>∃ u fp,e=.returned u∧ORows w' 84 2 (ORf w' d) u rs fp∧fp.Nodup∧(∀ a ∈ fp,w.heap.size≤a∧a<w'.heap.size)∧Bz w w':=by
 have HR:=hid hr;have HS:=hid hS;obtain ⟨p,cap,rfl,hcl,hcm,hx⟩:=hr;clear hx hS
 cases p with
 | none =>
  obtain rfl:=rows_nil_of_none HR.out;go_enter func94,ntmps94;go_wp2_with fail;refine (blankRef_nil _ _).mono ?_;rintro e w2 ⟨rfl,rfl⟩;go_wp2_with fail;refine (fillRef_nil _ _ _ _ _ _).mono ?_;rintro e w3 ⟨rfl,rfl⟩;go_wp2_with fail;go_ret;exact ⟨_,[],rfl,orows_nil none 0 (Nat.zero_le _),by simp,by simp,Below.refl _ _⟩
 | some a =>
  generalize hn:rs.length=n at *;have HN:=hid hn;clear hn;go_enter func94,ntmps94;go_wp2_with fail;refine (blankRef_some _ a n cap hw).mono ?_;rintro e w2 ⟨rfl,M,hM,hw2⟩;have K2:Hid (Bz w w2):=(by show Below _ _ _;rw [hw2];exact (sqN _ _))
  have HM0:Hid (Made w w2 w.heap.size n 84 2 (fun w=>ORf w d) rs 0 M.toList []):=by
   show Made _ _ _ _ _ _ _ _ _ _ _;rw [hw2];exact Made.start hM (by unfold maxLen;omega)
  have R2:=hid (HR.out.mono ⟨K2.out.size,fun g hg hl=>K2.out.block g hl⟩ (fun _ h=>h) (fun _ _ _ h=>h));clear hw2 hM;go_wp2_with fail;refine (fillRef_any d w w2 w.heap.size n S _ rs M.toList HM0.out R2.out HS.out HN.out hw).mono ?_;rintro e w3 ⟨rfl,⟨ys,fps,hM3⟩,hb3⟩;obtain ⟨fp,r1,r2,r3⟩:=hM3.done HN.out (by unfold maxLen;omega);have R1:=hid r1;have RR:Hid (fp.Nodup∧∀ a ∈ fp,w.heap.size≤a∧a<w3.heap.size):=⟨r2,r3⟩;have O3:=hid hM3.below;clear hM3 hb3 r1 r2 r3;go_wp2_with fail;go_ret;exact ⟨_,fp,rfl,R1.out,RR.out.1,RR.out.2,O3.out⟩
end Go.Proofs.YtdhlonogmnkemaaGreatDoor
namespace Go.Proofs.YtdhlonogmnkemaaGreatDoor
open Go.ChangeShapes Go.WideShapes Go.ChangeAt Go.RowKit
set_option linter.unusedVariables false
set_option maxRecDepth 100000
def ResO (w:World) (O:World→Value→List Nat→Prop) (e:Ending) (w':World):Prop :=
 ∃ u fp,e=.returned u∧O w' u fp∧fp.Nodup∧(∀ a ∈ fp,w.heap.size≤a∧a<w'.heap.size)∧Bz w w'
theorem take_map_succ {α β:Type} (f:α→β) {xs:List α} {k:Nat} {x:α} (h:xs[k]?=some x):(xs.take (k+1)).map f=(xs.take k).map f ++ [f x]:=by
 rw [List.take_add_one,h];simp
theorem keepsX (d:Nat):KeepsC (fun w=>OEx w d):=fun w w' cs x fp h hk=>OEx.keep h hk
theorem keepsC (d:Nat):KeepsC (fun w=>OCl w (OEx w d)):=fun w w' cs x fp h hk=>OCls.keep h hk
theorem keepsF (d:Nat):KeepsC (fun w=>OFn w d):=fun w w' cs x fp h hk=>OFn.keep h hk
theorem keepsM (d:Nat):KeepsC (fun w=>OMd w d):=fun w w' cs x fp h hk=>OMd.keep h hk
theorem infoX:(Tryz.prog.info? 76).map (fun i=>(i.zero,i.size,i.bytes))=some (some (.agg #[.int .i64 0,.int .i64 0,.string ⟨#[]⟩,.string ⟨#[]⟩,.slice none 0 0,.slice none 0 0]),6,96):=by kernel_rfl
theorem infoC:(Tryz.prog.info? 46).map (fun i=>(i.zero,i.size,i.bytes))=some (some (.agg #[.slice none 0 0,.slice none 0 0]),2,48):=by kernel_rfl
theorem infoF:(Tryz.prog.info? 59).map (fun i=>(i.zero,i.size,i.bytes))=some (some (.agg #[.string ⟨#[]⟩,.int .i64 0,.slice none 0 0]),3,48):=by kernel_rfl
theorem infoM:(Tryz.prog.info? 63).map (fun i=>(i.zero,i.size,i.bytes))=some (some (.agg #[.string ⟨#[]⟩,.slice none 0 0,.slice none 0 0]),3,64):=by kernel_rfl
theorem oneX {sk sn:Int} {st se:ByteArray} {p1 p2:Option Addr} {n1 q1 n2 q2:Nat}:∀ u ∈ [Value.int .i64 sk,.int .i64 sn,.string st,.string se,.slice p1 n1 q1,.slice p2 n2 q2],u.oneCell'=true:=by simp [Value.oneCell']
theorem oneC {p1 p2:Option Addr} {n1 q1 n2 q2:Nat}:∀ u ∈ [Value.slice p1 n1 q1,.slice p2 n2 q2],u.oneCell'=true:=by simp [Value.oneCell']
theorem oneF {s:ByteArray} {k:Int} {p1:Option Addr} {n1 q1:Nat}:∀ u ∈ [Value.string s,.int .i64 k,.slice p1 n1 q1],u.oneCell'=true:=by simp [Value.oneCell']
theorem oneM {s:ByteArray} {p1 p2:Option Addr} {n1 q1 n2 q2:Nat}:∀ u ∈ [Value.string s,.slice p1 n1 q1,.slice p2 n2 q2],u.oneCell'=true:=by simp [Value.oneCell']
theorem growFresh {α:Type} {e:TypeId} {c:Nat} {O:World→List Value→α→List Nat→Prop} {w W1:World} (h:W1=w.alloc (.cells #[] e)):GrowO e c O W1 w.heap.size W1.heap.size (.slice (some ⟨w.heap.size,0,none⟩) 0 0) []:=by
 rw [h,alloc_hs];exact GrowO.fresh
theorem GrowO.drew {α:Type} {e:TypeId} {c:Nat} {O:World→List Value→α→List Nat→Prop} (hO:KeepsC O) {w:World} {B C:Nat} {v:Value} {xs:List α} (h:GrowO e c O w B C v xs):GrowO e c O w.drew B C v xs:=h.keep hO (sqR _) (fun _ _ _=>rfl)
theorem frozen_nx {w w':World} {a:Addr} {v:Value} (hb:Bz w w') (h:w.cell? a=some v) (hf:w.frozen? a=false):w'.frozen? a=false:=by
 have hl:a.block<w.heap.size:=by
  unfold World.cell? at h
  split at h
  · rename_i heq;exact (Array.getElem?_eq_some_iff.1 heq).1
  · cases h
 exact (World.frozen?_of_block (hb.block a.block hl)).trans hf
theorem below_undrew {N:Nat} {u v:World} (h:Below N u.drew v):Below N u v:=⟨h.os,h.tape,h.output,h.size,h.block⟩
theorem clause_made {w4 w5:World} {d N:Nat} {v4 v5:Value} {xa xb:List Ex} {fp fq:List Nat} (h4:ORows w4 76 6 (OEx w4 d) v4 xa fp) (n4:fp.Nodup∧∀ a ∈ fp,N≤a∧a<w4.heap.size) (h5:ORows w5 76 6 (OEx w5 d) v5 xb fq) (n5:fq.Nodup∧∀ a ∈ fq,w4.heap.size≤a∧a<w5.heap.size) (hb:Bz w4 w5) (hN:N≤w4.heap.size) :
 OCl w5 (OEx w5 d) [v4,v5] (xa,xb) (fp ++ fq)∧(fp ++ fq).Nodup∧∀ a ∈ fp ++ fq,N≤a∧a<w5.heap.size:=by
 have kk:KeepOn fp w4 w5:=fun a ha=>hb.block a (n4.2 a ha).2;refine ⟨⟨_,_,fp,fq,rfl,rfl,h4.keep kk (fun cs x f _ hs h=>h.keep (kk.sub hs)),h5⟩,?_,fun a ha=>?_⟩
 · rw [List.nodup_append]
   refine ⟨n4.1,n5.1,fun a ha b hb=>?_⟩;have h:=n4.2 a ha;have h':=n5.2 b hb;omega
 · have:=hb.size
   rcases List.mem_append.1 ha with ha | ha
   · have h:=n4.2 a ha;omega
   · have h:=n5.2 a ha;omega
theorem exp_made {w w4 w5 W6:World} {d N b:Nat} {ft:Int→ByteArray→ByteArray→Nat→ByteArray} {k0 n0:Int} {t0 m0:ByteArray} {v4 v5:Value} {n1:Nat} {ks:List Ex} {cls:List Cl} {fp fq:List Nat} (hok:okI k0∧okI n0∧okS t0∧okS m0) (hft:∀ k t m n,okS t→okS (ft k t m n)) (hN:N≤w4.heap.size) (hwN:w.heap.size≤N) (hB:Bz w w5) (hl:ks.length=n1)
 (h4:ORows w4 76 6 (OEx w4 d) v4 (ks.map (mapX (fT ft) d)) fp) (n4:fp.Nodup∧∀ a ∈ fp,N≤a∧a<w4.heap.size) (h5:ORows w5 46 2 (OCl w5 (OEx w5 d)) v5 (cls.map (mapC (fT ft) d)) fq) (n5:fq.Nodup∧∀ a ∈ fq,w4.heap.size≤a∧a<w5.heap.size) (hb:Bz w4 w5)
 (hbN:w.heap.size≤b∧b<N) (ho:∀ a,a≠b→W6.heap[a]?=w5.heap[a]?) (h0:Below 0 w5 W6) :
 ResO w (fun w' u fp=>∃ cs',u=.agg cs'.toArray∧OEx w' (d+1) cs' (mapX (fT ft) (d+1) (.mk k0 n0 t0 m0 ks cls)) fp) (.returned (.agg #[.int .i64 k0,.int .i64 n0,.string (ft k0 t0 m0 n1),.string m0,v4,v5])) W6:=by
 have s1:=hb.size;have s2:=h0.size
 have k4:KeepOn fp w4 W6:=fun a ha=>by
  have h:=n4.2 a ha;exact (ho a (by omega)).trans (hb.block a h.2)
 have k5:KeepOn fq w5 W6:=fun a ha=>by
  have h:=n5.2 a ha;exact ho a (by omega)
 have e:mapX (fT ft) (d+1) (.mk k0 n0 t0 m0 ks cls)=.mk k0 n0 (ft k0 t0 m0 n1) m0 (ks.map (mapX (fT ft) d)) (cls.map (mapC (fT ft) d)):=by
  show fT ft (.mk k0 n0 t0 m0 (ks.map (mapX (fT ft) d)) (cls.map fun c=>(c.1.map (mapX (fT ft) d),c.2.map (mapX (fT ft) d))))=_;unfold fT;simp only [Ex.kind,Ex.n,Ex.text,Ex.mod,Ex.kids,Ex.clauses,List.length_map,hl]
  rfl
 refine ⟨_,fp ++ fq,rfl,⟨[.int .i64 k0,.int .i64 n0,.string (ft k0 t0 m0 n1),.string m0,v4,v5],rfl,?_⟩,?_,fun a ha=>?_,⟨h0.os.trans hB.os,h0.tape.trans hB.tape,h0.output.trans hB.output,Nat.le_trans hB.size s2,fun a ha=>(ho a (by omega)).trans (hB.block a ha)⟩⟩
 · rw [e]
   exact ⟨_,_,fp,fq,rfl,rfl,hok.1,hok.2.1,hft _ _ _ _ hok.2.2.1,hok.2.2.2,h4.keep k4 (fun cs x f _ hs h=>h.keep (k4.sub hs)),h5.keep k5 (fun cs x f _ hs h=>OCls.keep h (k5.sub hs))⟩
 · rw [List.nodup_append]
   refine ⟨n4.1,n5.1,fun a ha b hb=>?_⟩;have h:=n4.2 a ha;have h':=n5.2 b hb;omega
 · rcases List.mem_append.1 ha with ha | ha
   · have h:=n4.2 a ha;omega
   · have h:=n5.2 a ha;omega
end Go.Proofs.YtdhlonogmnkemaaGreatDoor
namespace Go.Proofs.YtdhlonogmnkemaaGreatDoor
open Go.ChangeShapes Go.WideShapes Go.ChangeAt Go.RowKit Go.Proofs.Tryz
set_option linter.unusedVariables false
set_option maxRecDepth 100000
namespace CpU
def ExpS (d:Nat):Prop:=∀ (w:World) (cs:List Value) (x:Ex),HEx w All d cs x→wtEx d x≤16777216 →
 Calls prog 177 #[.agg cs.toArray] w (ResO w fun w' u fp=>∃ cs',u=.agg cs'.toArray∧OEx w' d cs' (mapX (fT ftU) d x) fp)
def ExpsS (d:Nat):Prop:=∀ (w:World) (v:Value) (xs:List Ex),Rows w All 6 (HEx w All d) v xs→wtS (wtEx d) xs≤16777216 →
 Calls prog 144 #[v] w (ResO w fun w' u fp=>ORows w' 76 6 (OEx w' d) u (xs.map (mapX (fT ftU) d)) fp)
theorem exps_of {d:Nat} (hE:ExpS d):ExpsS d:=by
 intro w v xs hr hw;obtain ⟨p,cap,rfl,hcl,hcm,hx⟩:=hr;have HWT:=hid hw;have hnb:xs.length≤16777216:=(by unfold wtS at hw;omega);generalize hn:xs.length=n at *;have HN:=hid hn;have HX:=hid hx;obtain ⟨W1,hW1⟩:∃ W1,W1=w.alloc (.cells #[] 76):=⟨_,rfl⟩;have HW1:=hid hW1;have G1:Hid (GrowO 76 6 (fun w=>OEx w d) W1 w.heap.size W1.heap.size (.slice (some ⟨w.heap.size,0,none⟩) 0 0) ((xs.take 0).map (mapX (fT ftU) d))):=growFresh hW1;have B1:Hid (Bz w W1):=(by show Below _ _ _;rw [hW1];exact (sqN _ _));clear hW1 hx hn hw;go_enter func144,ntmps144;go_wp2_with fail;rw [← HW1.out]
 go_loopw [3,4] (fun ov iv wr=>∃ (k:Nat),k≤n∧iv=.int .i64 k∧Hid (GrowO 76 6 (fun w=>OEx w d) wr w.heap.size wr.heap.size ov ((xs.take k).map (mapX (fT ftU) d)))∧Hid (Bz w wr)) (fun _ iv _=>n - (intOf iv).toNat)
 case atStart=>exact ⟨0,Nat.zero_le _,rfl,G1.out,B1.out⟩
 case round =>
  obtain ⟨k,hk,rfl,HG,HB⟩:=hrel;by_cases hlt:k<n
  · obtain ⟨x,hxk⟩:=sqA (l:=xs) (k:=k) HN.out hlt
    obtain ⟨g,off,rfl,-,hgl,hat⟩:=HX.out (sqE hxk);obtain ⟨cs,hc6,hcs,hex⟩:=hat k x hxk;have HXR:=hid (hex.mono (sqO HB.out) (fun _ h=>h));obtain ⟨tk,tn,tt,te,r1,m1,s1,r2,m2,s2,rfl⟩:=HEx.shapeR hex;obtain ⟨a0,a1,a2,a3,a4,a5⟩:=sqC6 hcs (by omega);rw [← HB.out.cell (p:=⟨g,_,none⟩) hgl] at a0 a1 a2 a3 a4 a5;clear hcs hat;simp at a0 a1 a2 a3 a4 a5;have hki:(k:Int)<(n:Int):=(by omega);have hk0:=sqI k
    have HWX:Hid (wtEx d x≤16777216):=by
     show _≤_;have h1:=HWT.out;have h2:=sum_take_succ (wtEx d) xs k x hxk;have h3:=sum_take_le (wtEx d) xs (k+1);unfold wtS at h1;omega
    have HMS:Hid ((xs.take (k+1)).map (mapX (fT ftU) d)=(xs.take k).map (mapX (fT ftU) d) ++ [mapX (fT ftU) d x]):=take_map_succ _ hxk;have hll:((xs.take k).map (mapX (fT ftU) d)).length≤100000000:=(by rw [List.length_map,List.length_take];omega);generalize (xs.take k).map (mapX (fT ftU) d)=acc at *;clear hex hc6;go_wp2_with fail;refine (hE wr _ x HXR.out HWX.out).mono ?_;rintro e w3 ⟨u,fp,rfl,⟨cs',rfl,hx3⟩,hnd,hrg,hb3⟩;obtain ⟨sk,sn,sx,se,p1,n1,q1,p2,n2,q2,hsh⟩:=hx3.shape;subst hsh;have G3:=hid (HG.out.next (keepsX d) hb3);have X3:Hid (OEx w3 d [.int .i64 sk,.int .i64 sn,.string sx,.string se,.slice p1 n1 q1,.slice p2 n2 q2] (mapX (fT ftU) d x) fp∧fp.Nodup∧∀ a ∈ fp,wr.heap.size≤a∧a<w3.heap.size):=⟨hx3,hnd,hrg⟩;have B3:=hid (HB.out.trans (hb3.mono HB.out.size));clear hx3 hnd hrg hb3 a0 a1 a2 a3 a4 a5;go_wp2_with (at_builtin;refine wpList_push (keepsX d) 44 76 6 96 _ rfl _ _ rfl underlying44 infoX rfl (by decide) (by decide) w.heap.size wr.heap.size u3 acc rfl [.int .i64 sk,.int .i64 sn,.string sx,.string se,.slice p1 n1 q1,.slice p2 n2 q2] rfl (mapX (fT ftU) d x) fp G3.out X3.out.1 X3.out.2.1 X3.out.2.2 rfl oneX hll ?_);intro v4 w4 hg4 hb4;have B4:Hid (Bz w w4):=(B3.out.alloc B3.out.size _).trans hb4;rw [← HMS.out] at hg4;have G4:=hid hg4;clear hg4 hb4;go_wp2_with fail;exact ⟨⟨k+1,by omega,by go_num,G4.out,B4.out⟩,by simp [intOf];omega⟩
  · obtain rfl:k=n:=by omega
    obtain ⟨fp,r1,r2,r3,r4,r5⟩:=HG.out.done;rw [sqT HN.out] at r1;obtain ⟨pu,cu,hu,-⟩:=HG.out.shape;subst hu;have FIN:Hid (ResO w (fun w' u fp=>ORows w' 76 6 (OEx w' d) u (xs.map (mapX (fT ftU) d)) fp) (.returned _) wr):=⟨_,fp,rfl,r1,r2,fun a ha=>r3 a ha,HB.out⟩;clear r1 r2 r3 r4 r5;go_wp2_with fail;go_ret;exact FIN.out
def ClsS (d:Nat):Prop:=∀ (w:World) (v:Value) (xs:List Cl),Rows w All 2 (HCl w All (HEx w All d)) v xs→wtS (wtCl (wtEx d)) xs≤16777216 →
 Calls prog 100 #[v] w (ResO w fun w' u fp=>ORows w' 46 2 (OCl w' (OEx w' d)) u (xs.map (mapC (fT ftU) d)) fp)
theorem clauses_of {d:Nat} (hE:ExpsS d):ClsS d:=by
 intro w v xs hr hw;obtain ⟨p,cap,rfl,hcl,hcm,hx⟩:=hr;have HWT:=hid hw;have hnb:xs.length≤16777216:=(by unfold wtS at hw;omega);generalize hn:xs.length=n at *;have HN:=hid hn;have HX:=hid hx;obtain ⟨W1,hW1⟩:∃ W1,W1=w.alloc (.cells #[] 46):=⟨_,rfl⟩;have HW1:=hid hW1;have G1:Hid (GrowO 46 2 (fun w=>OCl w (OEx w d)) W1 w.heap.size W1.heap.size (.slice (some ⟨w.heap.size,0,none⟩) 0 0) ((xs.take 0).map (mapC (fT ftU) d))):=growFresh hW1;have B1:Hid (Bz w W1):=(by show Below _ _ _;rw [hW1];exact (sqN _ _));clear hW1 hx hn hw;go_enter func100,ntmps100;go_wp2_with fail;rw [← HW1.out]
 go_loopw [3,4] (fun ov iv wr=>∃ (k:Nat),k≤n∧iv=.int .i64 k∧Hid (GrowO 46 2 (fun w=>OCl w (OEx w d)) wr w.heap.size wr.heap.size ov ((xs.take k).map (mapC (fT ftU) d)))∧Hid (Bz w wr)) (fun _ iv _=>n - (intOf iv).toNat)
 case atStart=>exact ⟨0,Nat.zero_le _,rfl,G1.out,B1.out⟩
 case round =>
  obtain ⟨k,hk,rfl,HG,HB⟩:=hrel;by_cases hlt:k<n
  · obtain ⟨x,hxk⟩:=sqA (l:=xs) (k:=k) HN.out hlt
    obtain ⟨g,off,rfl,-,hgl,hat⟩:=HX.out (sqE hxk);obtain ⟨cs,hc6,hcs,hex⟩:=hat k x hxk;obtain ⟨pv,bv,rfl,hp,hb⟩:=hex;have HP:=hid (hp.mono (sqO HB.out.drew) (fun _ h=>h) (fun _ _ _ h=>h.mono (sqO HB.out.drew) (fun _ h=>h)));have HBo:=hid hb;obtain ⟨a0,a1⟩:=sqC2 hcs (by omega);clear hcs hat;simp only [List.getElem?_cons_zero,List.getElem?_cons_succ,Nat.add_zero] at a0 a1;obtain ⟨r1,s1,rfl,-⟩:=hp;obtain ⟨r2,s2,rfl,-⟩:=hb;generalize x.1.length=m1 at *;generalize x.2.length=m2 at *;have CELLS:Hid (∀ w',Bz w w'→w'.cell? ⟨g,off+k * 2,none⟩=some (.slice r1 m1 s1)∧w'.cell? ⟨g,off+k * 2+1,none⟩=some (.slice r2 m2 s2)):=fun w' h=>⟨(h.cell (p:=⟨g,_,none⟩) hgl).trans a0,(h.cell (p:=⟨g,_,none⟩) hgl).trans a1⟩;have hki:(k:Int)<(n:Int):=(by omega);have hk0:=sqI k
    have hwx:wtCl (wtEx d) x≤16777216:=by
     have h1:=HWT.out;have h2:=sum_take_succ (wtCl (wtEx d)) xs k x hxk;have h3:=sum_take_le (wtCl (wtEx d)) xs (k+1);unfold wtS at h1;omega
    have hw':wtCl (wtEx d) x=wtS (wtEx d) x.1+wtS (wtEx d) x.2:=rfl;have HWX1:Hid (wtS (wtEx d) x.1≤16777216):=(by show _≤_;omega);have HWX2:Hid (wtS (wtEx d) x.2≤16777216):=(by show _≤_;omega);have HMS:Hid ((xs.take (k+1)).map (mapC (fT ftU) d)=(xs.take k).map (mapC (fT ftU) d) ++ [mapC (fT ftU) d x]):=take_map_succ _ hxk;have hll:((xs.take k).map (mapC (fT ftU) d)).length≤100000000:=(by rw [List.length_map,List.length_take];omega);generalize (xs.take k).map (mapC (fT ftU) d)=acc at *;clear hc6 hwx hw' a0 a1;obtain ⟨q0,q1⟩:=CELLS.out wr HB.out;go_wp2_with fail
    go_region_held3 (fun w'=>w'.cell? ⟨g,off+k * 2,none⟩=some (.slice r1 m1 s1)∧w'.cell? ⟨g,off+k * 2+1,none⟩=some (.slice r2 m2 s2))
     (first | with_reducible exact CELLS.out _ HB.out.drew | with_reducible exact CELLS.out _ B6.out | with_reducible exact CELLS.out _ (B5.out.alloc B5.out.size _) | with_reducible exact CELLS.out _ B5.out | with_reducible exact CELLS.out _ B4.out | go_keep)
     (first
      | (refine step_push (keepsC d) 57 46 2 48 _ (by rfl) _ _ (by rfl) underlying57 infoC rfl (by decide) (by decide) w.heap.size wr.heap.size u3 acc (by rfl) [.slice pu4 lu4 cu4,.slice pu5 lu5 cu5] _ (by rfl) (by rfl) (mapC (fT ftU) d x) (fp ++ fq) G5.out X5.out.1 X5.out.2.1 X5.out.2.2 rfl oneC hll ?_;intro g6 cap6 w6 hg6 hb6;have B6:Hid (Bz w w6):=(B5.out.alloc B5.out.size _).trans hb6;have G6:=hid hg6;clear hg6 hb6)
      | (have _:=B4;go_at_call 144;refine (hE w4 _ x.2 (HBo.out.mono (sqO B4.out) (fun _ h=>h) (fun _ _ _ h=>h.mono (sqO B4.out) (fun _ h=>h))) HWX2.out).mono ?_;rintro e w5 ⟨u5,fq,rfl,ho5,hnd5,hrg5,hb5⟩;obtain ⟨pu5,cu5,hu5,-⟩:=ho5.shape;generalize (x.2.map (mapX (fT ftU) d)).length=lu5 at hu5;subst hu5;have B5:=hid (B4.out.trans (hb5.mono B4.out.size));have G5:=hid (G4.out.next (keepsC d) hb5);have X5:=hid (clause_made O4.out ND4.out ho5 ⟨hnd5,hrg5⟩ hb5 N4.out);clear ho5 hnd5 hrg5 hb5)
      | (go_at_call 144;refine (hE _ _ x.1 HP.out HWX1.out).mono ?_;rintro e w4 ⟨u4,fp,rfl,ho4,hnd4,hrg4,hb4⟩;obtain ⟨pu4,cu4,hu4,-⟩:=ho4.shape;generalize (x.1.map (mapX (fT ftU) d)).length=lu4 at hu4;subst hu4;have N4:=hid hb4.size;have B4:=hid (HB.out.trans (below_undrew (hb4.mono HB.out.size)));have G4:Hid (GrowO 46 2 (fun w=>OCl w (OEx w d)) w4 w.heap.size wr.heap.size u3 acc):=(HG.out.drew (keepsC d)).next (keepsC d) hb4;have O4:=hid ho4;have ND4:Hid (fp.Nodup∧∀ a ∈ fp,wr.heap.size≤a∧a<w4.heap.size):=⟨hnd4,hrg4⟩;clear ho4 hnd4 hrg4 hb4))
    all_goals
     go_split_ands;have G6':=G6.out;rw [← HMS.out] at G6';have G7:=hid G6';clear G6' q0 q1;go_wp2_with fail;exact ⟨⟨k+1,by omega,by go_num,G7.out,B6.out⟩,by simp [intOf];omega⟩
  · obtain rfl:k=n:=by omega
    obtain ⟨fp,r1,r2,r3,r4,r5⟩:=HG.out.done;rw [sqT HN.out] at r1;obtain ⟨pu,cu,hu,-⟩:=HG.out.shape;subst hu;have FIN:Hid (ResO w (fun w' u fp=>ORows w' 46 2 (OCl w' (OEx w' d)) u (xs.map (mapC (fT ftU) d)) fp) (.returned _) wr):=⟨_,fp,rfl,r1,r2,fun a ha=>r3 a ha,HB.out⟩;clear r1 r2 r3 r4 r5;go_wp2_with fail;go_ret;exact FIN.out
theorem exp_of {d:Nat} (hE:ExpsS d) (hCl:ClsS d):ExpS (d+1):=by
 intro w cs x hr hw;obtain ⟨kv,cv,rfl,o1,o2,o3,o4,hk,hcl⟩:=hr;obtain ⟨k0,n0,t0,m0,ks,cls⟩:=x;simp only [Ex.kind,Ex.n,Ex.text,Ex.mod,Ex.kids,Ex.clauses] at *;have hw':wtEx (d+1) (.mk k0 n0 t0 m0 ks cls)=t0.size+m0.size+wtS (wtEx d) ks+wtS (wtCl (wtEx d)) cls:=rfl;have HOK:Hid (okI k0∧okI n0∧okS t0∧okS m0):=⟨o1,o2,o3,o4⟩;have HKS:=hid hk;have HCS:=hid hcl;have HW1:Hid (wtS (wtEx d) ks≤16777216):=(by show _≤_;omega);have HW2:Hid (wtS (wtCl (wtEx d)) cls≤16777216):=(by show _≤_;omega);obtain ⟨p1,c1,rfl,-⟩:=hk;obtain ⟨p2,c2,rfl,-⟩:=hcl;generalize hn1:ks.length=n1 at *;generalize hn2:cls.length=n2 at *;have HL1:=hid hn1;have HL2:=hid hn2;obtain ⟨W2,hW2⟩:∃ W2,W2=(w.alloc (.cells #[.int .i64 k0,.int .i64 n0,.string t0,.string m0,.slice p1 n1 c1,.slice p2 n2 c2] 76)).alloc (.cells #[.int .i64 0,.int .i64 0,.string ⟨#[]⟩,.string ⟨#[]⟩,.slice none 0 0,.slice none 0 0] 76):=⟨_,rfl⟩;have HW2':=hid hW2;have B2:Hid (Bz w W2):=(by show Below _ _ _;rw [hW2];exact ((sqN _ _)).alloc (by simp) _);have e2:Hid (Blk W2 w.heap.size #[.int .i64 k0,.int .i64 n0,.string t0,.string m0,.slice p1 n1 c1,.slice p2 n2 c2] 76):=(by show Blk _ _ _ _;rw [hW2];exact Blk.new.alloc)
 have r2:Hid (Blk W2 (w.heap.size+1) #[.int .i64 0,.int .i64 0,.string ⟨#[]⟩,.string ⟨#[]⟩,.slice none 0 0,.slice none 0 0] 76):=by
  have:=Blk.new (w:=w.alloc (.cells #[.int .i64 k0,.int .i64 n0,.string t0,.string m0,.slice p1 n1 c1,.slice p2 n2 c2] 76)) (cs:=#[.int .i64 0,.int .i64 0,.string ⟨#[]⟩,.string ⟨#[]⟩,.slice none 0 0,.slice none 0 0]) (t:=76);rw [alloc_hs] at this;show Blk _ _ _ _;rw [hW2];exact this
 have S2:Hid (W2.heap.size=w.heap.size+2):=(by show _=_;rw [hW2,alloc_hs,alloc_hs]);have P2:=hid (HKS.out.mono (sqO B2.out.drew) (fun _ h=>h) (fun _ _ _ h=>h.mono (sqO B2.out.drew) (fun _ h=>h)))
 have CELLS:Hid (∀ w',Below (w.heap.size+1) W2 w'→w'.cell? ⟨w.heap.size,0,none⟩=some (.int .i64 k0)∧w'.cell? ⟨w.heap.size,1,none⟩=some (.int .i64 n0)∧w'.cell? ⟨w.heap.size,2,none⟩=some (.string t0)∧w'.cell? ⟨w.heap.size,3,none⟩=some (.string m0)∧w'.cell? ⟨w.heap.size,4,none⟩=some (.slice p1 n1 c1)∧w'.cell? ⟨w.heap.size,5,none⟩=some (.slice p2 n2 c2)):=fun w' h=>by
  have e:=e2.out.below h (by omega);exact ⟨e.cell 0 _ rfl,e.cell 1 _ rfl,e.cell 2 _ rfl,e.cell 3 _ rfl,e.cell 4 _ rfl,e.cell 5 _ rfl⟩
 have CELLS6:Hid (∀ w0,Below (w.heap.size+1) W2 w0→∀ a b c e f g,((((((w0.setCell ⟨w.heap.size+1,0,none⟩ a).setCell ⟨w.heap.size+1,1,none⟩ b).setCell ⟨w.heap.size+1,2,none⟩ c).setCell ⟨w.heap.size+1,3,none⟩ e).setCell ⟨w.heap.size+1,4,none⟩ f).setCell ⟨w.heap.size+1,5,none⟩ g).cell? ⟨w.heap.size,0,none⟩=some (.int .i64 k0)∧((((((w0.setCell ⟨w.heap.size+1,0,none⟩ a).setCell ⟨w.heap.size+1,1,none⟩ b).setCell ⟨w.heap.size+1,2,none⟩ c).setCell ⟨w.heap.size+1,3,none⟩ e).setCell ⟨w.heap.size+1,4,none⟩ f).setCell ⟨w.heap.size+1,5,none⟩ g).cell? ⟨w.heap.size,1,none⟩=some (.int .i64 n0)∧((((((w0.setCell ⟨w.heap.size+1,0,none⟩ a).setCell ⟨w.heap.size+1,1,none⟩ b).setCell ⟨w.heap.size+1,2,none⟩ c).setCell ⟨w.heap.size+1,3,none⟩ e).setCell ⟨w.heap.size+1,4,none⟩ f).setCell ⟨w.heap.size+1,5,none⟩ g).cell? ⟨w.heap.size,2,none⟩=some (.string t0)∧((((((w0.setCell ⟨w.heap.size+1,0,none⟩ a).setCell ⟨w.heap.size+1,1,none⟩ b).setCell ⟨w.heap.size+1,2,none⟩ c).setCell ⟨w.heap.size+1,3,none⟩ e).setCell ⟨w.heap.size+1,4,none⟩ f).setCell ⟨w.heap.size+1,5,none⟩ g).cell? ⟨w.heap.size,3,none⟩=some (.string m0)∧((((((w0.setCell ⟨w.heap.size+1,0,none⟩ a).setCell ⟨w.heap.size+1,1,none⟩ b).setCell ⟨w.heap.size+1,2,none⟩ c).setCell ⟨w.heap.size+1,3,none⟩ e).setCell ⟨w.heap.size+1,4,none⟩ f).setCell ⟨w.heap.size+1,5,none⟩ g).cell? ⟨w.heap.size,4,none⟩=some (.slice p1 n1 c1)∧((((((w0.setCell ⟨w.heap.size+1,0,none⟩ a).setCell ⟨w.heap.size+1,1,none⟩ b).setCell ⟨w.heap.size+1,2,none⟩ c).setCell ⟨w.heap.size+1,3,none⟩ e).setCell ⟨w.heap.size+1,4,none⟩ f).setCell ⟨w.heap.size+1,5,none⟩ g).cell? ⟨w.heap.size,5,none⟩=some (.slice p2 n2 c2)):=fun w0 h a b c e f g=>CELLS.out _ ((((((h.setCell (p:=⟨w.heap.size+1,0,none⟩) (sqR _) _).setCell (p:=⟨w.heap.size+1,1,none⟩) (sqR _) _).setCell (p:=⟨w.heap.size+1,2,none⟩) (sqR _) _).setCell (p:=⟨w.heap.size+1,3,none⟩) (sqR _) _).setCell (p:=⟨w.heap.size+1,4,none⟩) (sqR _) _).setCell (p:=⟨w.heap.size+1,5,none⟩) (sqR _) _);obtain ⟨q0,q1,q2,q3,q4,q5⟩:=CELLS.out W2 (Below.refl _ _);have x0:=r2.out.cell 0 _ rfl;have f0:=r2.out.frozen 0;have x1:=r2.out.cell 1 _ rfl;have f1:=r2.out.frozen 1;have x2:=r2.out.cell 2 _ rfl;have f2:=r2.out.frozen 2;have x3:=r2.out.cell 3 _ rfl;have f3:=r2.out.frozen 3;have x4:=r2.out.cell 4 _ rfl;have f4:=r2.out.frozen 4;have x5:=r2.out.cell 5 _ rfl;have f5:=r2.out.frozen 5;clear hW2 hw hw' hn1 hn2 o1 o2 o3 o4;go_enter func177,ntmps177;go_wp2_with fail;rw [← HW2'.out]
 go_region_held3 (fun w'=>w'.cell? ⟨w.heap.size,0,none⟩=some (.int .i64 k0)∧w'.cell? ⟨w.heap.size,1,none⟩=some (.int .i64 n0)∧w'.cell? ⟨w.heap.size,2,none⟩=some (.string t0)∧w'.cell? ⟨w.heap.size,3,none⟩=some (.string m0)∧w'.cell? ⟨w.heap.size,4,none⟩=some (.slice p1 n1 c1)∧w'.cell? ⟨w.heap.size,5,none⟩=some (.slice p2 n2 c2))
  (first | with_reducible exact CELLS6.out _ K5.out _ _ _ _ _ _ | with_reducible exact CELLS.out _ (Below.refl _ _).drew | with_reducible exact CELLS.out _ K5.out | with_reducible exact CELLS.out _ K4.out | go_keep)
  (first
   | (have _:=K4;go_at_call 100;refine (hCl _ _ cls R4.out HW2.out).mono ?_;rintro e w5 ⟨u5,fq,rfl,ho5,hnd5,hrg5,hb5⟩;obtain ⟨pu5,cu5,hu5,-⟩:=ho5.shape;rw [List.length_map,HL2.out] at hu5;subst hu5;have HO5:=hid ho5;have ND5:Hid (fq.Nodup∧∀ a ∈ fq,w4.heap.size≤a∧a<w5.heap.size):=⟨hnd5,hrg5⟩;have L5:=hid hb5;have K5:=hid (K4.out.trans (hb5.mono (by have h1:=K4.out.size;have h2:=S2.out;omega)));have rr:=(r2.out.next M4.out).next hb5;have HRR:=hid rr;have y0:=rr.cell 0 _ rfl;have g0:=rr.frozen 0;have y1:=rr.cell 1 _ rfl;have g1:=rr.frozen 1;have y2:=rr.cell 2 _ rfl;have g2:=rr.frozen 2;have y3:=rr.cell 3 _ rfl;have g3:=rr.frozen 3;have y4:=rr.cell 4 _ rfl;have g4:=rr.frozen 4;have y5:=rr.cell 5 _ rfl;have g5:=rr.frozen 5;clear ho5 hnd5 hrg5 hb5 rr x0 x1 x2 x3 x4 x5 f0 f1 f2 f3 f4 f5 q0 q1 q2 q3 q4 q5)
   | (go_at_call 144;refine (hE _ _ ks P2.out HW1.out).mono ?_;rintro e w4 ⟨u4,fp,rfl,ho4,hnd4,hrg4,hb4⟩;obtain ⟨pu4,cu4,hu4,-⟩:=ho4.shape;rw [List.length_map,HL1.out] at hu4;subst hu4;have HO4:=hid ho4;have ND4:Hid (fp.Nodup∧∀ a ∈ fp,W2.heap.size≤a∧a<w4.heap.size):=⟨hnd4,hrg4⟩;have M4:Hid (Bz W2 w4):=below_undrew hb4;have K4:Hid (Below (w.heap.size+1) W2 w4):=M4.out.mono (by have h2:=S2.out;omega);have R4:Hid (Rows w4 All 2 (HCl w4 All (HEx w4 All d)) (.slice p2 n2 c2) cls):=(by have hbb:Bz w w4:=B2.out.trans (M4.out.mono B2.out.size);exact HCS.out.mono (sqO hbb) (fun _ h=>h) (fun _ _ _ h=>h.mono (sqO hbb) (fun _ h=>h) (fun _ _ h=>h.mono (sqO hbb) (fun _ h=>h))));clear ho4 hnd4 hrg4 hb4))
 all_goals
  go_split_ands;go_wp2_with fail;obtain ⟨W6,hW6⟩:∃ W6,W6=(((((w5.setCell ⟨w.heap.size+1,0,none⟩ (.int .i64 k0)).setCell ⟨w.heap.size+1,1,none⟩ (.int .i64 n0)).setCell ⟨w.heap.size+1,2,none⟩ (.string t0)).setCell ⟨w.heap.size+1,3,none⟩ (.string m0)).setCell ⟨w.heap.size+1,4,none⟩ (.slice pu4 n1 cu4)).setCell ⟨w.heap.size+1,5,none⟩ (.slice pu5 n2 cu5):=⟨_,rfl⟩;have bz:Blk W6 (w.heap.size+1) #[.int .i64 k0,.int .i64 n0,.string t0,.string m0,.slice pu4 n1 cu4,.slice pu5 n2 cu5] 76:=(by rw [hW6];exact (((((HRR.out.same rfl).same rfl).same rfl).same rfl).same rfl).same rfl);obtain ⟨j0,j1,j2,j3,j4,j5⟩:=sqB6 bz;have fin:ResO w (fun w' u fp=>∃ cs',u=.agg cs'.toArray∧OEx w' (d+1) cs' (mapX (fT ftU) (d+1) (.mk k0 n0 t0 m0 ks cls)) fp) (.returned (.agg #[.int .i64 k0,.int .i64 n0,.string t0,.string m0,.slice pu4 n1 cu4,.slice pu5 n2 cu5])) W6:=exp_made (N:=W2.heap.size) (b:=w.heap.size+1) HOK.out (fun k t m n h=>h) (by have:=S2.out;have:=M4.out.size;omega) (by have:=B2.out.size;omega) (B2.out.trans ((M4.out.mono B2.out.size).trans (L5.out.mono (by have:=B2.out.size;have:=M4.out.size;omega)))) HL1.out HO4.out ND4.out HO5.out ND5.out L5.out (by have:=S2.out;omega) (fun a ha=>by rw [hW6,Below.heap_setCell _ _ _ _ ha,Below.heap_setCell _ _ _ _ ha,Below.heap_setCell _ _ _ _ ha,Below.heap_setCell _ _ _ _ ha,Below.heap_setCell _ _ _ _ ha,Below.heap_setCell _ _ _ _ ha]) (by rw [hW6];exact ((((((Below.refl 0 w5).setCell (Nat.zero_le _) _).setCell (Nat.zero_le _) _).setCell (Nat.zero_le _) _).setCell (Nat.zero_le _) _).setCell (Nat.zero_le _) _).setCell (Nat.zero_le _) _);rw [hW6] at fin j0 j1 j2 j3 j4 j5;exact bodyPost_ret (v:=.agg #[.int .i64 k0,.int .i64 n0,.string t0,.string m0,.slice pu4 n1 cu4,.slice pu5 n2 cu5]) (by simp [results,results177,go_sem,j0,j1,j2,j3,j4,j5]) rfl fin
theorem all:∀ d,ExpS d
 | 0=>fun w cs x h _=>h.elim
 | d+1=>exp_of (exps_of (all d)) (clauses_of (exps_of (all d)))
theorem exps (d:Nat):ExpsS d:=exps_of (all d)
theorem clauses (d:Nat):ClsS d:=clauses_of (exps d)
end CpU
end Go.Proofs.YtdhlonogmnkemaaGreatDoor
namespace Go.Proofs.YtdhlonogmnkemaaGreatDoor
open Go.ChangeShapes Go.WideShapes Go.ChangeAt Go.RowKit
set_option linter.unusedVariables false
set_option maxRecDepth 100000
def CellsR {α:Type} (c:Nat) (R:List Value→α→Prop) (cells:List Value) (l:List α):Prop :=
 cells.length=l.length * c∧∀ i y,l[i]?=some y→∃ cs,cs.length=c∧(∀ j,j<c→cells[i * c+j]?=cs[j]?)∧R cs y
section
variable {α:Type} {c:Nat} {R R':List Value→α→Prop} {cells more:List Value} {l m:List α}
theorem CellsR.nil:CellsR c R [] ([]:List α):=⟨by simp,fun i y h=>by simp at h⟩
theorem CellsR.append (h:CellsR c R cells l) (k:CellsR c R more m):CellsR c R (cells ++ more) (l ++ m):=by
 refine ⟨by rw [List.length_append,List.length_append,h.1,k.1,Nat.add_mul],fun i y hi=>?_⟩;by_cases hl:i<l.length
 · rw [List.getElem?_append_left hl] at hi
   obtain ⟨cs,h1,h2,h3⟩:=h.2 i y hi;refine ⟨cs,h1,fun j hj=>?_,h3⟩;rw [List.getElem?_append_left,h2 j hj];rw [h.1];have:(i+1) * c≤l.length * c:=Nat.mul_le_mul_right _ hl;rw [Nat.add_mul] at this;omega
 · rw [List.getElem?_append_right (by omega)] at hi
   obtain ⟨cs,h1,h2,h3⟩:=k.2 _ y hi;refine ⟨cs,h1,fun j hj=>?_,h3⟩
   have e:i * c+j - cells.length=(i - l.length) * c+j:=by
    rw [h.1,Nat.sub_mul];have:l.length * c≤i * c:=Nat.mul_le_mul_right _ (by omega);omega
   rw [List.getElem?_append_right (by rw [h.1];have:l.length * c≤i * c:=Nat.mul_le_mul_right _ (by omega);omega),e];exact h2 j hj
theorem CellsR.mono (h:CellsR c R cells l) (hR:∀ cs y,y ∈ l→R cs y→R' cs y):CellsR c R' cells l :=
 ⟨h.1,fun i y hi=>by obtain ⟨cs,h1,h2,h3⟩:=h.2 i y hi;exact ⟨cs,h1,h2,hR cs y (List.mem_of_getElem? hi) h3⟩⟩
theorem CellsR.one {cs:List Value} {y:α} (hc:cs.length=c) (h:R cs y):CellsR c R cs [y] :=
 ⟨by simp [hc],fun i z hi=>by
  cases i with
  | zero=>simp at hi;subst hi;exact ⟨cs,hc,fun j _=>by simp,h⟩
  | succ i=>simp at hi⟩
theorem CellsR.oneCell (hc:0<c) (h:CellsR c R cells l) (hR:∀ cs y,R cs y→∀ u ∈ cs,u.oneCell'=true):∀ u ∈ cells,u.oneCell'=true:=by
 intro u hu;obtain ⟨j,hj⟩:=List.mem_iff_getElem?.1 hu;have hlt:=(List.getElem?_eq_some_iff.1 hj).1;rw [h.1] at hlt;have hd:j / c<l.length:=Nat.div_lt_of_lt_mul (by rw [Nat.mul_comm];exact hlt);obtain ⟨cs,h1,h2,h3⟩:=h.2 (j / c) (l[j / c]) (List.getElem?_eq_getElem hd);have h4:=h2 (j % c) (Nat.mod_lt _ hc);rw [show j / c * c+j % c=j by rw [Nat.mul_comm];exact Nat.div_add_mod j c,hj] at h4;exact hR cs _ h3 u (List.mem_of_getElem? h4.symm)
theorem rowsCellsR (hc:0<c) {w:World} {S:Nat→Prop} {ad:Addr} {n cap:Nat} (h:Rows w S c R (.slice (some ad) n cap) l):n=l.length∧∃ cells,CellsR c R cells l∧∀ j u,cells[j]?=some u→w.cell? (ad.add j)=some u:=by
 obtain ⟨p,cap',hv,h1,h2,hx⟩:=h;simp only [Value.slice.injEq] at hv;obtain ⟨rfl,rfl,rfl⟩:=hv;refine ⟨rfl,?_⟩
 cases l with
 | nil=>exact ⟨[],CellsR.nil,fun j u h=>by simp at h⟩
 | cons y0 l =>
  obtain ⟨g,off,hp,-,-,hat⟩:=hx (by simp);obtain rfl:=Option.some.inj hp
  have hadd:∀ j,(⟨g,off,none⟩:Addr).add j=⟨g,off+j,none⟩:=fun j=>by by_cases h:j=0 <;> simp [Addr.add,h]
  have key:∀ j,j<(y0 :: l).length * c→∃ u,w.cell? ⟨g,off+j,none⟩=some u:=fun j hj=>by
   have hd:j / c<(y0 :: l).length:=Nat.div_lt_of_lt_mul (by rw [Nat.mul_comm];exact hj);obtain ⟨cs,k1,k2,k3⟩:=hat (j / c) _ (List.getElem?_eq_getElem hd);have h4:=k2 (j % c) (Nat.mod_lt _ hc);rw [show off+j / c * c+j % c=off+j by rw [Nat.add_assoc,Nat.mul_comm,Nat.div_add_mod]] at h4;exact ⟨cs[j % c]'(by rw [k1];exact Nat.mod_lt _ hc),h4.trans (List.getElem?_eq_getElem _)⟩
  refine ⟨(List.range ((y0 :: l).length * c)).map fun j=>(w.cell? ⟨g,off+j,none⟩).getD undef,⟨by simp,fun i y hi=>?_⟩,fun j u hj=>?_⟩
  · obtain ⟨cs,k1,k2,k3⟩:=hat i y hi
    refine ⟨cs,k1,fun j hj=>?_,k3⟩;have hil:=(List.getElem?_eq_some_iff.1 hi).1
    have hlt:i * c+j<(y0 :: l).length * c:=by
     have:(i+1) * c≤(y0 :: l).length * c:=Nat.mul_le_mul_right _ hil;rw [Nat.add_mul] at this;omega
    rw [List.getElem?_map,List.getElem?_range hlt];obtain ⟨u,hu⟩:=key _ hlt;have h5:=k2 j hj;rw [Nat.add_assoc,hu] at h5;simp only [Option.map_some,hu,Option.getD_some];exact h5
  · have hlt:j<(y0 :: l).length * c:=by simpa using (List.getElem?_eq_some_iff.1 hj).1
    rw [List.getElem?_map,List.getElem?_range hlt] at hj;obtain ⟨v,hv⟩:=key j hlt;simp only [Option.map_some,hv,Option.getD_some,Option.some.injEq] at hj;rw [hadd,hv,hj]
theorem CellsR.rows {w:World} {B:Nat} {e:TypeId} {v:Value} {n:Nat} (h:w.ownsRow B e c v n cells) (k:CellsR c R cells l) (hn:n=l.length):Rows w All c R v l:=by
 subst hn;have hl:=k.1
 rcases h.2 with ⟨rfl,hz⟩ | ⟨g,cap,cur,rfl,hB,hg,h1,h2,h3,h4⟩
 · obtain rfl:=List.length_eq_zero_iff.1 hz
   exact Rows.nil (Nat.zero_le _)
 · refine ⟨_,cap,rfl,h1,h2,fun hne=>⟨g,0,rfl,trivial,(Array.getElem?_eq_some_iff.1 hg).1,fun i x hi=>?_⟩⟩
   obtain ⟨cs,k1,k2,k3⟩:=k.2 i x hi;refine ⟨cs,k1,fun j hj=>?_,k3⟩;have hil:=(List.getElem?_eq_some_iff.1 hi).1
   have hlt:i * c+j<l.length * c:=by
    have:(i+1) * c≤l.length * c:=Nat.mul_le_mul_right _ hil;rw [Nat.add_mul] at this;omega
   rw [← k2 j hj,Nat.zero_add];exact h.cellAt _ hlt
end
section
variable {P:Program} {w:World}
theorem run_append_nil (base:Nat) (t ty e:TypeId) (i:TypeInfo) (size:Nat) (ht:P.underlying t=some (.slice e)) (hi:P.info? e=some i)
 (v:Value) (n:Nat) (xs:List Value) (c:Nat) (hown:w.ownsRow base e size v n xs) :
 (Builtin.append_ #[t,t] ty #[v,.slice none 0 c]).run P w=.ok v w:=by
 rcases hown.2 with ⟨rfl,rfl⟩ | ⟨g,cap,cur,rfl,_,_,hnc,_⟩
 · simp [Builtin.append_,run_underlying ht,sizeOf,typeInfo,hi,Builtin.lenOf,Builtin.firstCells]
 · simp [Builtin.append_,run_underlying ht,sizeOf,typeInfo,hi,Builtin.lenOf,Builtin.firstCells,hnc,storeCells]
theorem wpList_append_nil {ops:Array Oper} {rest:List Oper} {o:Oper} {a:Act} {Q:Exit→Act→World→Prop} (hgd:o.guard=none) (s x:Operand) (t:TypeId)
 (ho:o.op=.call { callee:=.builtin .append,args:=#[s,x],argTypes:=#[t,t] })
 (base:Nat) (e:TypeId) (i:TypeInfo) (size:Nat) (ht:P.underlying t=some (.slice e)) (hi:P.info? e=some i)
 (v:Value) (n:Nat) (xs:List Value) (c:Nat) (hs:a.eval s=v) (hown:w.ownsRow base e size v n xs) (hx:a.eval x=.slice none 0 c)
 (h:wpList P ops Q rest (a.put o.dst v) w):wpList P ops Q (o :: rest) a w:=by
 refine wpList_plain hgd fun K hK=>?_;have hrun:=run_append_nil (P:=P) (w:=w) base t o.type e i size ht hi v n xs c hown;unfold Oper.wp;simp [execOp,ho,resolve,invoke,builtin,hs,hx,hrun,Result.andThen];exact hK _ _ h
theorem wpList_append_rows {α:Type} {R:List Value→α→Prop} {S:Nat→Prop} {ops:Array Oper} {rest:List Oper} {o:Oper} {a:Act} {Q:Exit→Act→World→Prop} (hgd:o.guard=none) (s x:Operand) (t:TypeId)
 (ho:o.op=.call { callee:=.builtin .append,args:=#[s,x],argTypes:=#[t,t] })
 (base:Nat) (e:TypeId) (i:TypeInfo) (z:Value) (size bytes:Nat) (ht:P.underlying t=some (.slice e)) (hi:P.info? e=some i) (hz:i.zero=some z)
 (hsize:i.size=size) (hby:i.bytes=bytes) (hzs:z.cells.size=size) (hsz:0<size)
 (v:Value) (n:Nat) (xs:List Value) (hs:a.eval s=v) (hown:w.ownsRow base e size v n xs)
 (u:Value) (m:List α) (hx:a.eval x=u) (hr:Rows w S size R u m) (hone:∀ cs y,R cs y→∀ q ∈ cs,q.oneCell'=true)
 (h63:n+m.length≤maxLen) (hbytes:(n+m.length) * bytes≤140737488355328) (hbase:base≤w.heap.size)
 (h:∀ v' w' news,CellsR size R news m→w'.ownsRow base e size v' (n+m.length) (xs ++ news)→w.grownBy w' v.ownBlock→wpList P ops Q rest (a.put o.dst v') w'):wpList P ops Q (o :: rest) a w:=by
 obtain ⟨p,cap,hv,h1,h2,hat⟩:=id hr
 cases p with
 | none =>
  have hm:m = []:=Classical.byContradiction fun hne=>by
   obtain ⟨g,off,hp,_⟩:=hat hne
   cases hp
  subst hm;simp only [List.length_nil] at *;refine wpList_append_nil hgd s x t ho base e i size ht hi v n xs cap hs hown (hx.trans hv) ?_;exact h v w [] CellsR.nil (by simpa using hown) ⟨rfl,rfl,rfl,Nat.le_refl _,fun _ _ _=>rfl⟩
 | some ad =>
  rw [hv] at hr;obtain ⟨-,news,hc,hnews⟩:=rowsCellsR hsz hr;refine wpList_append_own _ hgd s x t ho base e i z size bytes ht hi hz hsize hby hzs hsz v n xs hs hown ad m.length cap news (hx.trans hv) hc.1 hnews (hc.oneCell hsz hone) h63 hbytes hbase ?_;intro v' w' k1 k2 _;exact h v' w' news hc k1 k2
theorem step_append_rows {α:Type} {R:List Value→α→Prop} {S:Nat→Prop} {ops:Array Oper} {o:Oper} {a:Act} {K:Act→World→Prop} {Q:Exit→Act→World→Prop} {E:Prop} (hgd:o.guard=none) (s x:Operand) (t:TypeId)
 (ho:o.op=.call { callee:=.builtin .append,args:=#[s,x],argTypes:=#[t,t] })
 (base:Nat) (e:TypeId) (i:TypeInfo) (z:Value) (size bytes:Nat) (ht:P.underlying t=some (.slice e)) (hi:P.info? e=some i) (hz:i.zero=some z)
 (hsize:i.size=size) (hby:i.bytes=bytes) (hzs:z.cells.size=size) (hsz:0<size)
 (v:Value) (n:Nat) (xs:List Value) (hs:a.eval s=v) (hown:w.ownsRow base e size v n xs)
 (u:Value) (m:List α) (hx:a.eval x=u) (hr:Rows w S size R u m) (hone:∀ cs y,R cs y→∀ q ∈ cs,q.oneCell'=true)
 (h63:n+m.length≤maxLen) (hbytes:(n+m.length) * bytes≤140737488355328) (hbase:base≤w.heap.size)
 (h:∀ v' w' news,CellsR size R news m→w'.ownsRow base e size v' (n+m.length) (xs ++ news)→w.grownBy w' v.ownBlock→K (a.put o.dst v') w') :
 if Region.wanted o (yielded ops a.tmps)=true then Oper.wp P o a w K Q else E:=by
 have hw:Region.wanted o (yielded ops a.tmps)=true:=(by simp [Region.wanted,hgd]);rw [if_pos hw];obtain ⟨p,cap,hv,h1,h2,hat⟩:=id hr
 cases p with
 | none =>
  have hm:m = []:=Classical.byContradiction fun hne=>by
   obtain ⟨g,off,hp,_⟩:=hat hne
   cases hp
  subst hm;simp only [List.length_nil] at *;have hrun:=run_append_nil (P:=P) (w:=w) base t o.type e i size ht hi v n xs cap hown;unfold Oper.wp;simp [execOp,ho,resolve,invoke,builtin,hs,hx.trans hv,hrun,Result.andThen];exact h v w [] CellsR.nil (by simpa using hown) ⟨rfl,rfl,rfl,Nat.le_refl _,fun _ _ _=>rfl⟩
 | some ad =>
  rw [hv] at hr;obtain ⟨-,news,hc,hnews⟩:=rowsCellsR hsz hr;refine wp_append_own w s x t ho base e i z size bytes ht hi hz hsize hby hzs hsz v n xs hs hown ad m.length cap news (hx.trans hv) hc.1 hnews (hc.oneCell hsz hone) h63 hbytes hbase ?_;intro v' w' k1 k2 _;exact h v' w' news hc k1 k2
end
theorem cellsR_str {news:List Value} {l:List ByteArray} (h:CellsR 1 HStr news l):news=strs l:=by
 refine List.ext_getElem? fun i=>?_;by_cases hi:i<l.length
 · obtain ⟨cs,h1,h2,rfl,-⟩:=h.2 i (l[i]) (List.getElem?_eq_getElem hi)
   have h4:=h2 0 (by omega);rw [show i * 1+0=i by omega] at h4;rw [h4];simp [strs,hi]
 · rw [List.getElem?_eq_none (by rw [h.1];omega),List.getElem?_eq_none (by rw [strs_length];omega)]
theorem str_oneCell (cs:List Value) (s:ByteArray) (h:HStr cs s):∀ u ∈ cs,u.oneCell'=true:=by
 obtain ⟨rfl,-⟩:=h;intro u hu;simp at hu;subst hu;rfl
theorem owns_own_lt {w:World} {B:Nat} {e:TypeId} {c n b:Nat} {v:Value} {cells:List Value} (h:w.ownsRow B e c v n cells) (hb:v.ownBlock=some b):B≤b∧b<w.heap.size:=by
 rcases h.2 with hn | ⟨g',cap',cur,hv',hB,hg,hr⟩
 · rw [hn.1] at hb;cases hb
 · rw [hv'] at hb
   simp [Value.ownBlock] at hb;subst hb;exact ⟨hB,(Array.getElem?_eq_some_iff.1 hg).1⟩
variable {α:Type} {wr w1 wb w2:World} {B c k:Nat} {e:TypeId} {R:World→(Nat→Prop)→List Value→α→Prop} {es:List α} {u:Value} {xs:List Value}
theorem owns_below {w w':World} {B:Nat} {e:TypeId} {c n:Nat} {v:Value} {cells:List Value} (h:w.ownsRow B e c v n cells) (hg:w.grownBy w' v.ownBlock) (hB:B≤w.heap.size):Below B w w' :=
 ⟨hg.os,hg.tape,hg.output,hg.size,fun j hj=>hg.block j (by omega) (fun e=>by
  have:=(owns_own_lt h e.symm).1
  omega)⟩
theorem owns_next {w w':World} {B:Nat} {e:TypeId} {c n:Nat} {v:Value} {cells:List Value} (h:w.ownsRow B e c v n cells) (hb:Bz w w'):w'.ownsRow B e c v n cells:=by
 refine ⟨h.1,?_⟩
 rcases h.2 with hn | ⟨g,cap,cur,hv,hB,hg,hr⟩
 · exact .inl hn
 · exact .inr ⟨g,cap,cur,hv,hB,(hb.block g (Array.getElem?_eq_some_iff.1 hg).1).trans hg,hr⟩
theorem owns_fresh {w:World} {e:TypeId} {c:Nat}:(w.alloc (.cells #[] e)).ownsRow w.heap.size e c (.slice (some ⟨w.heap.size,0,none⟩) 0 0) 0 []:=by
 refine ⟨by simp,.inr ⟨w.heap.size,0,#[],rfl,Nat.le_refl _,?_,Nat.le_refl _,Nat.zero_le _,by simp,by simp⟩⟩;exact Blk.new (w:=w) (cs:=#[]) (t:=e)
theorem owns_apart {w w':World} {B B':Nat} {e e':TypeId} {c c' n n':Nat} {v v':Value} {xs xs':List Value} (h:w.ownsRow B e c v n xs) (k:w.ownsRow B' e' c' v' n' xs') (hne:e≠e') (hg:w.grownBy w' v.ownBlock):w'.ownsRow B' e' c' v' n' xs':=by
 refine ⟨k.1,?_⟩
 rcases k.2 with hn | ⟨g,cap,cur,hv,hB,hh,hr⟩
 · exact .inl hn
 · refine .inr ⟨g,cap,cur,hv,hB,(hg.block g (Array.getElem?_eq_some_iff.1 hh).1 (fun e1=>?_)).trans hh,hr⟩
   rcases h.2 with ⟨rfl,_⟩ | ⟨g2,cap2,cur2,rfl,_,hh2,_⟩
   · simp [Value.ownBlock] at e1
   · simp [Value.ownBlock] at e1
     subst e1;rw [hh] at hh2;simp at hh2;exact hne hh2.2.symm
theorem owns_base {w:World} {B:Nat} {e:TypeId} {c n:Nat} {v:Value} {xs:List Value} (h:w.ownsRow B e c v n xs):w.ownsRow 0 e c v n xs:=by
 refine ⟨h.1,?_⟩
 rcases h.2 with hn | ⟨g,cap,cur,hv,hB,hr⟩
 · exact .inl hn
 · exact .inr ⟨g,cap,cur,hv,Nat.zero_le _,hr⟩
theorem owns_slice {w:World} {B:Nat} {e:TypeId} {c n:Nat} {v:Value} {xs:List Value} (h:w.ownsRow B e c v n xs):∃ p q,v=.slice p n q∧n≤maxLen:=by
 rcases h.2 with ⟨rfl,rfl⟩ | ⟨g,cap,cur,rfl,hB,hh,h1,h2,_⟩
 · exact ⟨_,_,rfl,Nat.zero_le _⟩
 · exact ⟨_,_,rfl,Nat.le_trans h1 h2⟩
theorem owns_some {w:World} {B:Nat} {e:TypeId} {c n q:Nat} {p:Option Addr} {xs:List Value} (h:w.ownsRow B e c (.slice p n q) n xs) (hn:0<n):∃ g,p=some ⟨g,0,none⟩:=by
 rcases h.2 with ⟨hv,rfl⟩ | ⟨g,cap,cur,hv,_⟩
 · omega
 · simp at hv
   exact ⟨g,hv.1⟩
def ApartE (e:TypeId) (w w':World):Prop:=∀ (b:Nat) (cs:Array Value) (t:TypeId) (fr:Nat × Nat),w.heap[b]?=some (Obj.cells cs t fr)→t≠e→w'.heap[b]?=w.heap[b]?
theorem ApartE.blk {e t:TypeId} {w w':World} (h:ApartE e w w') {b:Nat} {cs:Array Value} (hb:Blk w b cs t) (ht:t≠e):Blk w' b cs t:=(h b cs t _ hb ht).trans hb
theorem ApartE.owns {e t:TypeId} {w w':World} (h:ApartE e w w') {B c n:Nat} {v:Value} {xs:List Value} (k:w.ownsRow B t c v n xs) (ht:t≠e):w'.ownsRow B t c v n xs:=by
 refine ⟨k.1,?_⟩
 rcases k.2 with hn | ⟨g,cap,cur,hv,hB,hh,hr⟩
 · exact .inl hn
 · exact .inr ⟨g,cap,cur,hv,hB,(h g _ _ _ hh ht).trans hh,hr⟩
theorem ApartE.of_below {e:TypeId} {w w':World} (h:Bz w w'):ApartE e w w':=fun b _ _ _ hb _=>h.block b (Array.getElem?_eq_some_iff.1 hb).1
theorem ApartE.trans {e:TypeId} {a b c:World} (h:ApartE e a b) (k:ApartE e b c):ApartE e a c:=fun g cs t fr hg ht=>by
 have h1:=h g cs t fr hg ht;exact (k g cs t fr (h1.trans hg) ht).trans h1
theorem ApartE.of_grown {e:TypeId} {w w':World} {B c n:Nat} {v:Value} {xs:List Value} (h:w.ownsRow B e c v n xs) (hg:w.grownBy w' v.ownBlock):ApartE e w w':=fun b cs t fr hb ht =>
 hg.block b (Array.getElem?_eq_some_iff.1 hb).1 (fun e1=>by
  rcases h.2 with ⟨rfl,_⟩ | ⟨g2,cap2,cur2,rfl,_,hh2,_⟩
  · simp [Value.ownBlock] at e1
  · simp [Value.ownBlock] at e1
    subst e1;rw [hb] at hh2;simp at hh2
    exact ht hh2.2.1)
def OwnG {α:Type} (e:TypeId) (c:Nat) (R:List Value→α→Prop) (w:World) (B:Nat) (v:Value) (l:List α):Prop:=(∃ cells,w.ownsRow B e c v l.length cells∧CellsR c R cells l)∧B≤w.heap.size
section
variable {α:Type} {e:TypeId} {c:Nat} {R:List Value→α→Prop} {w w':World} {B B':Nat} {v:Value} {l:List α}
theorem OwnG.next (h:OwnG e c R w B v l) (hb:Bz w w'):OwnG e c R w' B v l:=by
 obtain ⟨⟨cells,h1,h2⟩,h3⟩:=h;exact ⟨⟨cells,owns_next h1 hb,h2⟩,Nat.le_trans h3 hb.size⟩
theorem OwnG.base (h:OwnG e c R w B v l) (hB:B'≤B):OwnG e c R w B' v l:=by
 obtain ⟨⟨cells,h1,h2⟩,h3⟩:=h;refine ⟨⟨cells,⟨h1.1,?_⟩,h2⟩,Nat.le_trans hB h3⟩
 rcases h1.2 with hn | ⟨g,cap,cur,hv,hB1,hr⟩
 · exact .inl hn
 · exact .inr ⟨g,cap,cur,hv,Nat.le_trans hB hB1,hr⟩
theorem OwnG.fresh:OwnG e c R (w.alloc (.cells #[] e)) w.heap.size (.slice (some ⟨w.heap.size,0,none⟩) 0 0) [] :=
 ⟨⟨[],owns_fresh,CellsR.nil⟩,by rw [alloc_hs];omega⟩
theorem OwnG.rows (h:OwnG e c R w B v l):Rows w All c R v l:=by
 obtain ⟨⟨cells,h1,h2⟩,h3⟩:=h;exact CellsR.rows h1 h2 rfl
theorem OwnG.slice (h:OwnG e c R w B v l):∃ p q,v=.slice p l.length q∧l.length≤maxLen:=by
 obtain ⟨⟨cells,h1,h2⟩,h3⟩:=h;exact owns_slice h1
theorem wpList_append_one {P:Program} {w0:World} {ops:Array Oper} {rest:List Oper} {o:Oper} {a:Act} {Q:Exit→Act→World→Prop} (hgd:o.guard=none) (s x:Operand) (t:TypeId)
 (ho:o.op=.call { callee:=.builtin .append,args:=#[s,x],argTypes:=#[t,t] })
 (z:Value) (bytes:Nat) (ht:P.underlying t=some (.slice e)) (hi:(P.info? e).map (fun i=>(i.zero,i.size,i.bytes))=some (some z,c,bytes)) (hzs:z.cells.size=c) (hsz:0<c)
 (h:OwnG e c R w0 B v l) (cs:Array Value) (q:α) (hq:R cs.toList q) (hc:cs.size=c) (h1:∀ u ∈ cs.toList,u.oneCell'=true) (hs:a.eval s=v) (hx:a.eval x=.slice (some ⟨w0.heap.size,0,none⟩) 1 1)
 (hl:l.length+1≤16777216) (hb:bytes≤1000)
 (k:∀ v' w',OwnG e c R w' B v' (l ++ [q])→Below B w0 w'→ApartE e w0 w'→wpList P ops Q rest (a.put o.dst v') w'):wpList P ops Q (o :: rest) a (w0.alloc (.cells cs e)):=by
 obtain ⟨i,hi',hz0,hz1,hz2⟩:=info_parts hi;obtain ⟨⟨cells,g1,g2⟩,g3⟩:=h;have hal:Bz w0 (w0.alloc (.cells cs e)):=(sqN _ _);have own:=owns_next g1 hal
 refine wpList_append_own _ hgd s x t ho B e i z c bytes ht hi' hz0 hz1 hz2 hzs hsz v l.length cells hs own ⟨w0.heap.size,0,none⟩ 1 1 cs.toList hx (by simp [hc]) (World.news_of_block (cs:=cs) (t:=e) (fr:=(0,0)) (heap_alloc_new w0 _)) h1 (by unfold maxLen;omega) (by
  have:(l.length+1) * bytes≤16777216 * 1000:=Nat.mul_le_mul hl hb
  omega) (by rw [alloc_hs];omega) ?_
 intro v' w' k1 k2 _;refine k v' w' ⟨⟨_,by simpa using k1,g2.append (CellsR.one (by simpa using hc) hq)⟩,Nat.le_trans (by rw [alloc_hs];omega) k2.size⟩ ?_ ((ApartE.of_below hal).trans (ApartE.of_grown own k2));exact (hal.mono g3).trans (owns_below own k2 (by rw [alloc_hs];omega))
theorem wpList_append_own_rows {P:Program} {S:Nat→Prop} {ops:Array Oper} {rest:List Oper} {o:Oper} {a:Act} {Q:Exit→Act→World→Prop} (hgd:o.guard=none) (s x:Operand) (t:TypeId)
 (ho:o.op=.call { callee:=.builtin .append,args:=#[s,x],argTypes:=#[t,t] })
 (z:Value) (bytes:Nat) (ht:P.underlying t=some (.slice e)) (hi:(P.info? e).map (fun i=>(i.zero,i.size,i.bytes))=some (some z,c,bytes)) (hzs:z.cells.size=c) (hsz:0<c)
 (h:OwnG e c R w B v l) (hs:a.eval s=v) (u:Value) (m:List α) (hx:a.eval x=u) (hr:Rows w S c R u m) (hone:∀ cs y,R cs y→∀ q ∈ cs,q.oneCell'=true)
 (hl:l.length+m.length≤16777216) (hb:bytes≤1000)
 (k:∀ v' w',OwnG e c R w' B v' (l ++ m)→Below B w w'→ApartE e w w'→wpList P ops Q rest (a.put o.dst v') w'):wpList P ops Q (o :: rest) a w:=by
 obtain ⟨i,hi',hz0,hz1,hz2⟩:=info_parts hi;obtain ⟨⟨cells,g1,g2⟩,g3⟩:=h
 refine wpList_append_rows hgd s x t ho B e i z c bytes ht hi' hz0 hz1 hz2 hzs hsz v l.length cells hs g1 u m hx hr hone (by unfold maxLen;omega) (by
  have:(l.length+m.length) * bytes≤16777216 * 1000:=Nat.mul_le_mul hl hb
  omega) g3 ?_
 intro v' w' news hc k1 k2;exact k v' w' ⟨⟨_,by simpa using k1,g2.append hc⟩,Nat.le_trans g3 k2.size⟩ (owns_below g1 k2 g3) (ApartE.of_grown g1 k2)
theorem wpList_append_lies {P:Program} {w0:World} {ops:Array Oper} {rest:List Oper} {o:Oper} {a:Act} {Q:Exit→Act→World→Prop} (hgd:o.guard=none) (s x:Operand) (t:TypeId)
 (ho:o.op=.call { callee:=.builtin .append,args:=#[s,x],argTypes:=#[t,t] })
 (z:Value) (bytes:Nat) (ht:P.underlying t=some (.slice e)) (hi:(P.info? e).map (fun i=>(i.zero,i.size,i.bytes))=some (some z,c,bytes)) (hzs:z.cells.size=c) (hsz:0<c)
 (h:OwnG e c R w0 B v l) (cs:Array Value) (q:α) (hq:R cs.toList q) (hc:cs.size=c) (h1:∀ u ∈ cs.toList,u.oneCell'=true) (hs:a.eval s=v) (hx:a.eval x=.slice (some ⟨w0.heap.size,0,none⟩) 1 1)
 (hl:l.length+1≤16777216) (hb:bytes≤1000)
 (k:∀ g cap w',OwnG e c R w' B (.slice (some ⟨g,0,none⟩) (l.length+1) cap) (l ++ [q])→Below B w0 w'→ApartE e w0 w'→(v.ownBlock=some g∨w0.heap.size≤g)→(∀ j,j<w0.heap.size→some j≠v.ownBlock→w'.heap[j]?=w0.heap[j]?)→wpList P ops Q rest (a.put o.dst (.slice (some ⟨g,0,none⟩) (l.length+1) cap)) w'):wpList P ops Q (o :: rest) a (w0.alloc (.cells cs e)):=by
 obtain ⟨i,hi',hz0,hz1,hz2⟩:=info_parts hi;obtain ⟨⟨cells,g1,g2⟩,g3⟩:=h;have hal:Bz w0 (w0.alloc (.cells cs e)):=(sqN _ _);have own:=owns_next g1 hal
 refine wpList_plain hgd fun _ hK=>wp_append_lies _ s x t ho B e i z c bytes ht hi' hz0 hz1 hz2 hzs hsz v l.length cells hs own ⟨w0.heap.size,0,none⟩ 1 1 cs.toList hx (by simp [hc]) (World.news_of_block (cs:=cs) (t:=e) (fr:=(0,0)) (heap_alloc_new w0 _)) h1 (by omega) (by unfold maxLen;omega) (by
  have:(l.length+1) * bytes≤16777216 * 1000:=Nat.mul_le_mul hl hb
  omega) (by rw [alloc_hs];omega) (w0.heap.size+1) (by rw [alloc_hs]) ?_
 intro g cap w' k1 k2 k3 k4;refine hK _ _ (k g cap w' ⟨⟨_,by simpa using k1,g2.append (CellsR.one (by simpa using hc) hq)⟩,Nat.le_trans (by rw [alloc_hs];omega) k2.size⟩ ?_ ((ApartE.of_below hal).trans (ApartE.of_grown own k2)) (k3.imp id (fun e=>by omega)) (fun j hj hn=>?_))
 · exact (hal.mono g3).trans (owns_below own k2 (by rw [alloc_hs];omega))
 · exact (k2.block j (by rw [alloc_hs];omega) hn).trans (hal.block j hj)
theorem OwnG.setCell {b j:Nat} {cs:Array Value} {t:TypeId} {x:Value} (h:OwnG e c R w B v l) (hb:Blk w b cs t) (ht:t≠e):OwnG e c R (w.setCell ⟨b,j,none⟩ x) B v l:=by
 obtain ⟨⟨cells,g1,g2⟩,g3⟩:=h;refine ⟨⟨cells,⟨g1.1,?_⟩,g2⟩,by rw [setCell_hs];exact g3⟩
 rcases g1.2 with hn | ⟨g,cap,cur,hv,hB,hh,hr⟩
 · exact .inl hn
 · refine .inr ⟨g,cap,cur,hv,hB,(Below.heap_setCell _ _ _ _ (fun e1=>?_)).trans hh,hr⟩
   have e2:g=b:=e1;subst e2;rw [show w.heap[g]?=_ from hb] at hh;simp at hh;exact ht hh.2
theorem step_append_blk {P:Program} {ops:Array Oper} {o:Oper} {a:Act} {K:Act→World→Prop} {Q:Exit→Act→World→Prop} {E:Prop} (hgd:o.guard=none) (s x:Operand) (t:TypeId)
 (ho:o.op=.call { callee:=.builtin .append,args:=#[s,x],argTypes:=#[t,t] })
 (z:Value) (bytes:Nat) (ht:P.underlying t=some (.slice e)) (hi:(P.info? e).map (fun i=>(i.zero,i.size,i.bytes))=some (some z,c,bytes)) (hzs:z.cells.size=c) (hsz:0<c)
 (h:OwnG e c R w B v l) (g:Nat) (cs:Array Value) (hg:w.heap[g]?=some (Obj.cells cs e (0,0))) (q:α) (hq:R cs.toList q) (hc:cs.size=c) (h1:∀ u ∈ cs.toList,u.oneCell'=true) (hs:a.eval s=v) (hx:a.eval x=.slice (some ⟨g,0,none⟩) 1 1)
 (hl:l.length+1≤16777216) (hb:bytes≤1000)
 (k:∀ v' w',OwnG e c R w' B v' (l ++ [q])→Below B w w'→ApartE e w w'→K (a.put o.dst v') w') :
 if Region.wanted o (yielded ops a.tmps)=true then Oper.wp P o a w K Q else E:=by
 have hw:Region.wanted o (yielded ops a.tmps)=true:=(by simp [Region.wanted,hgd]);rw [if_pos hw];obtain ⟨i,hi',hz0,hz1,hz2⟩:=info_parts hi;obtain ⟨⟨cells,g1,g2⟩,g3⟩:=h
 refine wp_append_own w s x t ho B e i z c bytes ht hi' hz0 hz1 hz2 hzs hsz v l.length cells hs g1 ⟨g,0,none⟩ 1 1 cs.toList hx (by simp [hc]) (World.news_of_block (cs:=cs) (t:=e) (fr:=(0,0)) hg) h1 (by unfold maxLen;omega) (by
  have:(l.length+1) * bytes≤16777216 * 1000:=Nat.mul_le_mul hl hb
  omega) g3 ?_
 intro v' w' k1 k2 _;exact k v' w' ⟨⟨_,by simpa using k1,g2.append (CellsR.one (by simpa using hc) hq)⟩,Nat.le_trans g3 k2.size⟩ (owns_below g1 k2 g3) (ApartE.of_grown g1 k2)
end
def refs (l:List Rf):List Value:=l.flatMap fun r=>[.string r.name,.int .i64 r.arity]
theorem refs_append (a b:List Rf):refs (a ++ b)=refs a ++ refs b:=by simp [refs]
theorem refs_at:∀ (l:List Rf) (i:Nat) (r:Rf),l[i]?=some r→∀ j,j<2→(refs l)[i * 2+j]? = [Value.string r.name,.int .i64 r.arity][j]?
 | [],i,r,h,_,_=>by simp at h
 | x :: xs,0,r,h,j,hj=>by
  simp at h;subst h;have e:refs (x :: xs) = [.string x.name,.int .i64 x.arity] ++ refs xs:=rfl;rw [e,Nat.zero_mul,Nat.zero_add,List.getElem?_append_left (by simpa using hj)]
 | x :: xs,i+1,r,h,j,hj=>by
  have e:refs (x :: xs) = [.string x.name,.int .i64 x.arity] ++ refs xs:=rfl;simp at h;rw [e,List.getElem?_append_right (by simp;omega),← refs_at xs i r h j hj]
  congr 1
  simp;omega
theorem refs_oneCell (l:List Rf):∀ u ∈ refs l,u.oneCell'=true:=by
 intro u hu;simp only [refs,List.mem_flatMap] at hu;obtain ⟨b,_,hu⟩:=hu;simp at hu
 rcases hu with rfl | rfl <;> rfl
theorem info_ref:(Tryz.prog.info? 84).map (fun i=>(i.zero,i.size,i.bytes))=some (some (.agg #[.string ⟨#[]⟩,.int .i64 0]),2,24):=by kernel_rfl
def OwnR (w:World) (B:Nat) (v:Value) (l:List Rf):Prop:=w.ownsRow B 84 2 v l.length (refs l)∧B≤w.heap.size
theorem OwnR.next {w w':World} {B:Nat} {v:Value} {l:List Rf} (h:OwnR w B v l) (hb:Bz w w'):OwnR w' B v l:=by
 refine ⟨⟨h.1.1,?_⟩,Nat.le_trans h.2 hb.size⟩
 rcases h.1.2 with hn | ⟨g,cap,cur,hv,hB,hg,hr⟩
 · exact .inl hn
 · exact .inr ⟨g,cap,cur,hv,hB,(hb.block g (Array.getElem?_eq_some_iff.1 hg).1).trans hg,hr⟩
theorem OwnR.off {w:World} {B:Nat} {v:Value} {l:List Rf} (h:OwnR w B v l) {b:Nat} (hb:v.ownBlock=some b):B≤b∧b<w.heap.size:=by
 rcases h.1.2 with hn | ⟨g',cap',cur,hv',hB,hg,hr⟩
 · rw [hn.1] at hb;cases hb
 · rw [hv'] at hb
   simp [Value.ownBlock] at hb;subst hb;exact ⟨hB,(Array.getElem?_eq_some_iff.1 hg).1⟩
theorem OwnR.below {w w':World} {B:Nat} {v:Value} {l:List Rf} (h:OwnR w B v l) (hg:w.grownBy w' v.ownBlock):Below B w w' :=
 ⟨hg.os,hg.tape,hg.output,hg.size,fun j hj=>hg.block j (by have:=h.2;omega) (fun e=>by have:=(h.off e.symm).1;omega)⟩
theorem OwnR.of {w':World} {B n:Nat} {v:Value} {l m:List Rf} {xs:List Value} (h:w'.ownsRow B 84 2 v n xs) (hn:n=(l ++ m).length) (hx:xs=refs l ++ refs m) (hB:B≤w'.heap.size):OwnR w' B v (l ++ m):=by
 subst hn;subst hx;rw [← refs_append] at h;exact ⟨h,hB⟩
theorem OwnR.base {w:World} {B B':Nat} {v:Value} {l:List Rf} (h:OwnR w B v l) (hB:B'≤B):OwnR w B' v l:=by
 refine ⟨⟨h.1.1,?_⟩,Nat.le_trans hB h.2⟩
 rcases h.1.2 with hn | ⟨g,cap,cur,hv,hb,hr⟩
 · exact .inl hn
 · exact .inr ⟨g,cap,cur,hv,Nat.le_trans hB hb,hr⟩
theorem OwnR.fresh {w:World}:OwnR (w.alloc (.cells #[] 84)) w.heap.size (.slice (some ⟨w.heap.size,0,none⟩) 0 0) []:=by
 refine ⟨⟨by simp [refs],.inr ⟨w.heap.size,0,#[],rfl,Nat.le_refl _,?_,Nat.le_refl _,Nat.zero_le _,rfl,rfl⟩⟩,by simp⟩;exact Blk.new (w:=w) (cs:=#[]) (t:=84)
theorem one_ref {w:World} {s:ByteArray} {n:Int}:∀ j u,(refs [⟨s,n⟩])[j]?=some u→(w.alloc (.cells #[.string s,.int .i64 n] 84)).cell? ((⟨w.heap.size,0,none⟩:Addr).add j)=some u:=by
 intro j u h;have hb:=Blk.new (w:=w) (cs:=#[.string s,.int .i64 n]) (t:=84);have e:refs [⟨s,n⟩] = [.string s,.int .i64 n]:=rfl;rw [e] at h
 match j,h with
 | 0,h=>simp at h;subst h;exact hb.cell 0 _ rfl
 | 1,h=>simp at h;subst h;exact hb.cell 1 _ rfl
 | j+2,h=>simp at h
def OwnT {α:Type} (O:World→Value→α→List Nat→Prop) (w:World) (B C:Nat) (v:Value) (x:α):Prop :=
 ∃ fp,O w v x fp∧fp.Nodup∧(∀ a ∈ fp,B≤a∧a<C)∧B≤C∧C≤w.heap.size
def ORs (w:World) (v:Value) (l:List Rf) (fp:List Nat):Prop:=ORows w 84 2 (ORf w 0) v l fp
theorem ORs.rows {w:World} {B C:Nat} {v:Value} {l:List Rf} (h:OwnT ORs w B C v l):Rows w All 2 HRf v l:=by
 obtain ⟨fp,h1,-⟩:=h;exact ORows.rows h1 (fun _ _=>trivial) (fun cs x f _ hs h=>h.1)
theorem OwnR.tree {w:World} {B:Nat} {v:Value} {l:List Rf} (h:OwnR w B v l) (hl:∀ r ∈ l,okS r.name∧okI r.arity):OwnT ORs w B w.heap.size v l:=by
 obtain ⟨h,hB⟩:=h
 rcases h.2 with ⟨rfl,hn⟩ | ⟨g,cap,cur,rfl,hb,hg,h1,h2,h3,h4⟩
 · obtain rfl:=List.length_eq_zero_iff.1 hn
   exact ⟨[],.inl ⟨rfl,rfl,_,_,rfl,Nat.zero_le _⟩,by simp,fun a ha=>by simp at ha,hB,Nat.le_refl _⟩
 · by_cases hne:l = []
   · subst hne
     exact ⟨[],.inl ⟨rfl,rfl,_,_,rfl,h2⟩,by simp,fun a ha=>by simp at ha,hB,Nat.le_refl _⟩
   · have hgl:g<w.heap.size:=(Array.getElem?_eq_some_iff.1 hg).1
     refine ⟨[g],.inr ⟨hne,refs l,g,cap,l.map (fun _=>[]),⟨h.1,.inr ⟨g,cap,cur,rfl,Nat.zero_le _,hg,h1,h2,h3,h4⟩⟩,rfl,by simp,?_,fun i x f hi hf=>?_⟩,by simp,fun a ha=>?_,hB,Nat.le_refl _⟩
     · have:(l.map fun _=>([]:List Nat)).flatten = []:=by
        rw [List.flatten_eq_nil_iff];intro x hx;simp at hx;exact hx.2
       rw [this]
     · rw [List.getElem?_map,hi] at hf
       simp at hf;subst hf;exact ⟨_,rfl,fun j hj=>refs_at l i x hi j hj,⟨rfl,hl x (List.mem_of_getElem? hi)⟩,rfl⟩
     · simp at ha;subst ha;exact ⟨hb,hgl⟩
end Go.Proofs.YtdhlonogmnkemaaGreatDoor
namespace Go.Proofs.YtdhlonogmnkemaaGreatDoor
open Go.ChangeShapes Go.WideShapes Go.ChangeAt Go.RowKit Go.Proofs.Tryz
set_option linter.unusedVariables false
set_option maxRecDepth 100000
theorem refs_own {w:World} {B:Nat} {v:Value} {n d:Nat} {cells:List Value} {l:List Rf} (h:w.ownsRow B 84 2 v n cells) (hc:CellsR 2 HRf cells l) (hn:n=l.length) :
 ∃ fe,ORows w 84 2 (ORf w d) v l fe∧fe.Nodup∧∀ a ∈ fe,B≤a∧a<w.heap.size∧∃ cur,w.heap[a]?=some (.cells cur 84 (0,0)):=by
 subst hn;by_cases hne:l = []
 · subst hne
   refine ⟨[],.inl ⟨rfl,rfl,?_⟩,by simp,fun a ha=>by simp at ha⟩
   rcases h.2 with ⟨hv,hn⟩ | ⟨g,cap,cur,hv,hb,hg,hc',hm,hr⟩
   · exact ⟨none,0,hv,Nat.zero_le _⟩
   · exact ⟨_,cap,hv,hm⟩
 · rcases h.2 with ⟨hv,hn⟩ | ⟨g,cap,cur,hv,hb,hg,hr⟩
   · exact absurd (List.length_eq_zero_iff.1 hn) hne
   · refine ⟨[g],.inr ⟨hne,cells,g,cap,l.map (fun _=>[]),⟨h.1,.inr ⟨g,cap,cur,hv,Nat.zero_le _,hg,hr⟩⟩,hv,by simp,?_,fun i x f hi hf=>?_⟩,by simp,fun a ha=>?_⟩
     · have:(l.map (fun _=>([]:List Nat))).flatten = []:=by
        rw [List.flatten_eq_nil_iff];intro x hx;simp at hx;exact hx.2
       rw [this]
     · rw [List.getElem?_map,hi] at hf
       simp at hf;subst hf;obtain ⟨cs,h1,h2,h3⟩:=hc.2 i x hi;exact ⟨cs,h1,h2,h3,rfl⟩
     · simp at ha;subst ha
       exact ⟨hb,(Array.getElem?_eq_some_iff.1 hg).1,cur,hg⟩
theorem owns_lower {w:World} {B B':Nat} {e:TypeId} {c n:Nat} {v:Value} {xs:List Value} (h:w.ownsRow B e c v n xs) (hB:B'≤B):w.ownsRow B' e c v n xs:=by
 refine ⟨h.1,?_⟩
 rcases h.2 with hn | ⟨g,cap,cur,hv,hb,hr⟩
 · exact .inl hn
 · exact .inr ⟨g,cap,cur,hv,Nat.le_trans hB hb,hr⟩
theorem rf_one (cs:List Value) (y:Rf) (h:HRf cs y):∀ q ∈ cs,q.oneCell'=true:=by
 obtain ⟨rfl,-⟩:=h;simp [Value.oneCell']
theorem refs_rows {w w':World} {v:Value} {l:List Rf} (h:Rows w All 2 HRf v l) (hb:Bz w w'):Rows w' All 2 HRf v l:=h.mono (sqO hb) (fun _ h=>h) (fun _ _ _ h=>h)
structure MidM (w V:World) (d:Nat) (E R:Array Value) (es:List Rf) (fe:List Nat) (ob:Nat) (ev:Value):Prop where
 bel:Bz w V
 box:Blk V w.heap.size E 63
 res:Blk V (w.heap.size+1) #[.string ⟨#[]⟩,.slice none 0 0,.slice none 0 0] 63
 out:Blk V ob R 63
 exps:ORows V 84 2 (ORf V d) ev es fe
 nd:fe.Nodup
 rg:∀ a ∈ fe,w.heap.size+2≤a∧a<V.heap.size∧a≠ob
 obl:w.heap.size+2≤ob
theorem MidM.turn {w V V':World} {d:Nat} {E R R':Array Value} {es:List Rf} {fe:List Nat} {ob:Nat} {ev:Value} (h:MidM w V d E R es fe ob ev) (ho:Off [ob] V V') (hR:Blk V' ob R' 63):MidM w V' d E R' es fe ob ev:=by
 have hb:=h.box.lt;have hr:=h.res.lt;have hl:=h.obl;have kk:KeepOn fe V V':=fun a ha=>ho.block a (h.rg a ha).2.1 (by simp [(h.rg a ha).2.2])
 exact ⟨⟨ho.os.trans h.bel.os,ho.tape.trans h.bel.tape,ho.output.trans h.bel.output,Nat.le_trans h.bel.size ho.size,fun a ha=>(ho.block a (Nat.lt_of_lt_of_le ha h.bel.size) (by simp;omega)).trans (h.bel.block a ha)⟩,
  (ho.block _ hb (by simp;omega)).trans h.box,(ho.block _ hr (by simp;omega)).trans h.res,hR,h.exps.keep kk (fun cs x f _ hs h=>h),h.nd,fun a ha=>⟨(h.rg a ha).1,Nat.lt_of_lt_of_le (h.rg a ha).2.1 ho.size,(h.rg a ha).2.2⟩,hl⟩
theorem off_set3 {V:World} {ob j:Nat} (v:Value):Off [ob] V (V.setCell ⟨ob,j,none⟩ v) :=
 ⟨by simp [World.setCell],by simp [World.setCell],by simp [World.setCell],by simp [World.setCell],fun a _ hn=>Below.heap_setCell _ _ _ _ (by simpa using hn)⟩
theorem offB_set3 {V u:World} {ob j N:Nat} (h:OffB ob N V u) (v:Value):OffB ob N V (u.setCell ⟨ob,j,none⟩ v) :=
 ⟨(by simp [World.setCell]:(u.setCell ⟨ob,j,none⟩ v).os=u.os).trans h.os,(by simp [World.setCell]:(u.setCell ⟨ob,j,none⟩ v).tape=u.tape).trans h.tape,(by simp [World.setCell]:(u.setCell ⟨ob,j,none⟩ v).output=u.output).trans h.output,Nat.le_trans h.size (by simp [World.setCell]),fun a h1 h2=>(Below.heap_setCell _ _ _ _ h2).trans (h.block a h1 h2)⟩
namespace CpU
def ModS (d:Nat):Prop:=∀ (w:World) (cs:List Value) (x:Md),HMd w All d cs x→wtMd d x≤16777216 →
 Calls prog 54 #[.agg cs.toArray] w (ResO w fun w' u fp=>∃ cs',u=.agg cs'.toArray∧OMd w' d cs' (mapM (fT ftU) d x) fp)
def ModsS (d:Nat):Prop:=∀ (w:World) (v:Value) (xs:List Md),Rows w All 3 (HMd w All d) v xs→wtS (wtMd d) xs≤16777216 →
 Calls prog 17 #[v] w (ResO w fun w' u fp=>ORows w' 63 3 (OMd w' d) u (xs.map (mapM (fT ftU) d)) fp)
theorem mod_any (d:Nat):ModS d:=by
 intro w cs x hr hw;obtain ⟨ev,fv,rfl,o1,he,hf⟩:=hr;obtain ⟨nm,es,fs⟩:=x;simp only at *;have hw':wtMd d ⟨nm,es,fs⟩=nm.size+wtS wtRf es+wtS (wtFn d) fs:=rfl;have HOK:=hid o1;have HE:=hid he;have HF:=hid hf;have HW1:Hid (wtS wtRf es≤16777216):=(by show _≤_;omega);have HW2:Hid (wtS (wtFn d) fs≤16777216):=(by show _≤_;omega);have hCl:=clauses d;obtain ⟨pe,ce,rfl,-⟩:=he;obtain ⟨pf,cf,rfl,-⟩:=hf;generalize hn1:es.length=ne at *;generalize hn2:fs.length=nf at *;have HL1:=hid hn1;have HL2:=hid hn2;have hne:ne≤16777216:=(by have h:=HW1.out;unfold wtS at h;omega);have hnf:nf≤16777216:=(by have h:=HW2.out;unfold wtS at h;omega);obtain ⟨i0,hi,hz0,hz1,hz2⟩:=info_parts info_ref;have HI:Hid (prog.info? 84=some i0∧i0.zero=some (.agg #[.string ⟨#[]⟩,.int .i64 0])∧i0.size=2∧i0.bytes=24):=⟨hi,hz0,hz1,hz2⟩;obtain ⟨W2,hW2⟩:∃ W2,W2=(w.alloc (.cells #[.string nm,.slice pe ne ce,.slice pf nf cf] 63)).alloc (.cells #[.string ⟨#[]⟩,.slice none 0 0,.slice none 0 0] 63):=⟨_,rfl⟩;have HW2':=hid hW2;have B2:Hid (Bz w W2):=(by show Below _ _ _;rw [hW2];exact ((sqN _ _)).alloc (by simp) _);have e2:Hid (Blk W2 w.heap.size #[.string nm,.slice pe ne ce,.slice pf nf cf] 63):=(by show Blk _ _ _ _;rw [hW2];exact Blk.new.alloc)
 have r2:Hid (Blk W2 (w.heap.size+1) #[.string ⟨#[]⟩,.slice none 0 0,.slice none 0 0] 63):=by
  have:=Blk.new (w:=w.alloc (.cells #[.string nm,.slice pe ne ce,.slice pf nf cf] 63)) (cs:=#[.string ⟨#[]⟩,.slice none 0 0,.slice none 0 0]) (t:=63);rw [alloc_hs] at this;show Blk _ _ _ _;rw [hW2];exact this
 have S2:Hid (W2.heap.size=w.heap.size+2):=by show _=_;rw [hW2,alloc_hs,alloc_hs]
 have CELLS:Hid (∀ w',Below (w.heap.size+1) W2 w'→w'.cell? ⟨w.heap.size,0,none⟩=some (.string nm)∧w'.cell? ⟨w.heap.size,1,none⟩=some (.slice pe ne ce)):=fun w' h=>by
  have e:=e2.out.below h (by omega);exact ⟨e.cell 0 _ rfl,e.cell 1 _ rfl⟩
 obtain ⟨q0,q1⟩:=CELLS.out W2 (Below.refl _ _);have hs2:w.heap.size+1≤W2.heap.size:=(by rw [S2.out];omega);have C2:Hid (∀ w',Bz W2 w'→w'.cell? ⟨w.heap.size,0,none⟩=some (.string nm)∧w'.cell? ⟨w.heap.size,1,none⟩=some (.slice pe ne ce)):=fun w' h=>CELLS.out w' (h.mono hs2);have CA:Hid (∀ w',Bz W2 w'→∀ o,(w'.alloc o).cell? ⟨w.heap.size,0,none⟩=some (.string nm)∧(w'.alloc o).cell? ⟨w.heap.size,1,none⟩=some (.slice pe ne ce)):=fun w' h o=>C2.out _ (h.alloc h.size _);have CS1:Hid (∀ w',Bz W2 w'→∀ a b c,(((w'.setCell ⟨W2.heap.size+1,0,none⟩ a).setCell ⟨W2.heap.size+1,1,none⟩ b).setCell ⟨W2.heap.size+1,2,none⟩ c).cell? ⟨w.heap.size,0,none⟩=some (.string nm)∧(((w'.setCell ⟨W2.heap.size+1,0,none⟩ a).setCell ⟨W2.heap.size+1,1,none⟩ b).setCell ⟨W2.heap.size+1,2,none⟩ c).cell? ⟨w.heap.size,1,none⟩=some (.slice pe ne ce)):=fun w' h a b c=>C2.out _ (((h.setCell (p:=⟨W2.heap.size+1,0,none⟩) (Nat.le_succ _) _).setCell (p:=⟨W2.heap.size+1,1,none⟩) (Nat.le_succ _) _).setCell (p:=⟨W2.heap.size+1,2,none⟩) (Nat.le_succ _) _);have CS2:Hid (∀ w',Bz W2 w'→∀ a b c,(((w'.setCell ⟨W2.heap.size,0,none⟩ a).setCell ⟨W2.heap.size,1,none⟩ b).setCell ⟨W2.heap.size,2,none⟩ c).cell? ⟨w.heap.size,0,none⟩=some (.string nm)∧(((w'.setCell ⟨W2.heap.size,0,none⟩ a).setCell ⟨W2.heap.size,1,none⟩ b).setCell ⟨W2.heap.size,2,none⟩ c).cell? ⟨w.heap.size,1,none⟩=some (.slice pe ne ce)):=fun w' h a b c=>C2.out _ (((h.setCell (p:=⟨W2.heap.size,0,none⟩) (sqR _) _).setCell (p:=⟨W2.heap.size,1,none⟩) (sqR _) _).setCell (p:=⟨W2.heap.size,2,none⟩) (sqR _) _);obtain ⟨Z1,hZ1⟩:∃ Z1,Z1=(W2.alloc (.cells #[.string ⟨#[]⟩,.slice none 0 0,.slice none 0 0] 63)).drew:=⟨_,rfl⟩;have HZ1:=hid hZ1;have KZ1:Hid (Bz W2 Z1):=(by show Below _ _ _;rw [hZ1];exact ((sqN _ _)).drew)
 -- the three worlds in which the exports are appended
 obtain ⟨X1,hX1⟩:∃ X1,X1=(W2.alloc (.cells #[] 84)).drew:=⟨_,rfl⟩;obtain ⟨X2,hX2⟩:∃ X2,X2=((W2.alloc (.cells #[] 84)).alloc (.cells #[.string ⟨#[]⟩,.slice none 0 0,.slice none 0 0] 63)).drew:=⟨_,rfl⟩;obtain ⟨Y1,hY1⟩:∃ Y1,Y1=((W2.alloc (.cells #[.string ⟨#[]⟩,.slice none 0 0,.slice none 0 0] 63)).alloc (.cells #[] 84)).drew:=⟨_,rfl⟩;have HX1:=hid hX1;have HX2:=hid hX2;have HY1:=hid hY1;have KX1:Hid (Bz W2 X1):=(by show Below _ _ _;rw [hX1];exact ((sqN _ _)).drew);have KX2:Hid (Bz W2 X2):=(by show Below _ _ _;rw [hX2];exact (((sqN _ _)).alloc (by simp) _).drew);have KY1:Hid (Bz W2 Y1):=(by show Below _ _ _;rw [hY1];exact (((sqN _ _)).alloc (by simp) _).drew);have OX1:Hid (X1.ownsRow W2.heap.size 84 2 (.slice (some ⟨W2.heap.size,0,none⟩) 0 0) 0 []):=(by show World.ownsRow _ _ _ _ _ _ _;rw [hX1];exact owns_fresh (w:=W2));have OX2:Hid (X2.ownsRow W2.heap.size 84 2 (.slice (some ⟨W2.heap.size,0,none⟩) 0 0) 0 []):=(by show World.ownsRow _ _ _ _ _ _ _;rw [hX2];exact owns_next (owns_fresh (w:=W2)) ((sqN _ _)).drew)
 have OY1:Hid (Y1.ownsRow W2.heap.size 84 2 (.slice (some ⟨W2.heap.size+1,0,none⟩) 0 0) 0 []):=by
  have:=owns_fresh (w:=W2.alloc (.cells #[.string ⟨#[]⟩,.slice none 0 0,.slice none 0 0] 63)) (e:=84) (c:=2);rw [alloc_hs] at this;show World.ownsRow _ _ _ _ _ _ _;rw [hY1];exact owns_lower this (Nat.le_succ _)
 have BX2:Hid (Blk X2 (W2.heap.size+1) #[.string ⟨#[]⟩,.slice none 0 0,.slice none 0 0] 63):=by
  have:=Blk.new (w:=W2.alloc (.cells #[] 84)) (cs:=#[.string ⟨#[]⟩,.slice none 0 0,.slice none 0 0]) (t:=63);rw [alloc_hs] at this;show Blk _ _ _ _;rw [hX2];exact this
 have BY1:Hid (Blk Y1 W2.heap.size #[.string ⟨#[]⟩,.slice none 0 0,.slice none 0 0] 63):=(by show Blk _ _ _ _;rw [hY1];exact (Blk.new (w:=W2)).alloc);have SX1:Hid (X1.heap.size=W2.heap.size+1):=(by show _=_;rw [hX1];show (W2.alloc _).heap.size=_;rw [alloc_hs]);have SX2:Hid (X2.heap.size=W2.heap.size+2):=(by show _=_;rw [hX2];show ((W2.alloc _).alloc _).heap.size=_;rw [alloc_hs,alloc_hs]);have SY1:Hid (Y1.heap.size=W2.heap.size+2):=(by show _=_;rw [hY1];show ((W2.alloc _).alloc _).heap.size=_;rw [alloc_hs,alloc_hs]);clear hs2 hW2 hX1 hX2 hY1 hZ1 hw hw' hn1 hn2 o1 hi hz0 hz1 hz2;go_enter func54,ntmps54;go_wp2_with fail;rw [← HW2'.out]
 go_region_held3 (fun w'=>w'.cell? ⟨w.heap.size,0,none⟩=some (.string nm)∧w'.cell? ⟨w.heap.size,1,none⟩=some (.slice pe ne ce))
  (first
   | with_reducible exact CS1.out _ K6.out _ _ _
   | with_reducible exact CS2.out _ K6.out _ _ _
   | with_reducible exact CA.out _ K6.out _
   | with_reducible exact C2.out _ K6.out
   | (rw [← HX2.out];exact C2.out _ KX2.out)
   | (rw [← HY1.out];exact C2.out _ KY1.out)
   | (rw [← HX1.out];exact C2.out _ KX1.out)
   | (rw [← HZ1.out];exact C2.out _ KZ1.out)
   | with_reducible exact CELLS.out _ (Below.refl _ _).drew)
  (first
   | (rw [← HX2.out];refine step_append_rows (R:=HRf) (S:=All) (by rfl) _ _ _ (by rfl) W2.heap.size 84 i0 _ 2 24 underlying60 HI.out.1 HI.out.2.1 HI.out.2.2.1 HI.out.2.2.2 rfl (by decide) (.slice (some ⟨W2.heap.size,0,none⟩) 0 0) 0 [] (by rfl) OX2.out (.slice pe ne ce) es (by rfl) (refs_rows HE.out (B2.out.trans (KX2.out.mono B2.out.size))) rf_one (by have:=HL1.out;unfold maxLen;omega) (by have:=HL1.out;omega) (by have:=SX2.out;omega) ?_;intro v6 w6 news hc6 ho6 hg6;obtain ⟨p6,c6,hv6,-⟩:=owns_slice ho6;rw [Nat.zero_add] at hv6 ho6;rw [HL1.out] at hv6 ho6;subst hv6;have K6:=hid (KX2.out.trans (owns_below OX2.out hg6 (by have:=SX2.out;omega)));have RE6:Hid (w6.ownsRow W2.heap.size 84 2 (.slice p6 ne c6) ne ([] ++ news)∧CellsR 2 HRf news es):=⟨ho6,hc6⟩;have HBX:Hid (Blk w6 (W2.heap.size+1) #[.string ⟨#[]⟩,.slice none 0 0,.slice none 0 0] 63):=(hg6.block _ BX2.out.lt (by simp [Value.ownBlock])).trans BX2.out;obtain ⟨y0,y1,y2⟩:=sqB3 HBX.out;obtain ⟨z0,z1,z2⟩:=sqF3 HBX.out;clear hc6 ho6 hg6)
   | (rw [← HY1.out];refine step_append_rows (R:=HRf) (S:=All) (by rfl) _ _ _ (by rfl) W2.heap.size 84 i0 _ 2 24 underlying60 HI.out.1 HI.out.2.1 HI.out.2.2.1 HI.out.2.2.2 rfl (by decide) (.slice (some ⟨W2.heap.size+1,0,none⟩) 0 0) 0 [] (by rfl) OY1.out (.slice pe ne ce) es (by rfl) (refs_rows HE.out (B2.out.trans (KY1.out.mono B2.out.size))) rf_one (by have:=HL1.out;unfold maxLen;omega) (by have:=HL1.out;omega) (by have:=SY1.out;omega) ?_;intro v6 w6 news hc6 ho6 hg6;obtain ⟨p6,c6,hv6,-⟩:=owns_slice ho6;rw [Nat.zero_add] at hv6 ho6;rw [HL1.out] at hv6 ho6;subst hv6;have K6:=hid (KY1.out.trans (owns_below OY1.out hg6 (by have:=SY1.out;omega)));have RE6:Hid (w6.ownsRow W2.heap.size 84 2 (.slice p6 ne c6) ne ([] ++ news)∧CellsR 2 HRf news es):=⟨ho6,hc6⟩;have HBY:Hid (Blk w6 W2.heap.size #[.string ⟨#[]⟩,.slice none 0 0,.slice none 0 0] 63):=(hg6.block _ BY1.out.lt (by simp [Value.ownBlock])).trans BY1.out;obtain ⟨y0,y1,y2⟩:=sqB3 HBY.out;obtain ⟨z0,z1,z2⟩:=sqF3 HBY.out;clear hc6 ho6 hg6)
   | (rw [← HX1.out];refine step_append_rows (R:=HRf) (S:=All) (by rfl) _ _ _ (by rfl) W2.heap.size 84 i0 _ 2 24 underlying60 HI.out.1 HI.out.2.1 HI.out.2.2.1 HI.out.2.2.2 rfl (by decide) (.slice (some ⟨W2.heap.size,0,none⟩) 0 0) 0 [] (by rfl) OX1.out (.slice pe ne ce) es (by rfl) (refs_rows HE.out (B2.out.trans (KX1.out.mono B2.out.size))) rf_one (by have:=HL1.out;unfold maxLen;omega) (by have:=HL1.out;omega) (by have:=SX1.out;omega) ?_;intro v6 w6 news hc6 ho6 hg6;obtain ⟨p6,c6,hv6,-⟩:=owns_slice ho6;rw [Nat.zero_add] at hv6 ho6;rw [HL1.out] at hv6 ho6;subst hv6;have K6:=hid (KX1.out.trans (owns_below OX1.out hg6 (by have:=SX1.out;omega)));have RE6:Hid (w6.ownsRow W2.heap.size 84 2 (.slice p6 ne c6) ne ([] ++ news)∧CellsR 2 HRf news es):=⟨ho6,hc6⟩;clear hc6 ho6 hg6))
 all_goals
  go_split_ands;clear q0 q1
  first
  | (have HM5:Hid (∃ fe,MidM w (((w6.setCell ⟨W2.heap.size+1,0,none⟩ (.string nm)).setCell ⟨W2.heap.size+1,1,none⟩ (.slice p6 ne c6)).setCell ⟨W2.heap.size+1,2,none⟩ (.slice none 0 0)) d #[.string nm,.slice pe ne ce,.slice pf nf cf] #[.string nm,.slice p6 ne c6,.slice none 0 0] es fe (W2.heap.size+1) (.slice p6 ne c6)):=by
      obtain ⟨fe,f1,f2,f3⟩:=refs_own (d:=d) RE6.out.1 (by simpa using RE6.out.2) HL1.out.symm;have s2:=S2.out
      have mm:MidM w w6 d #[.string nm,.slice pe ne ce,.slice pf nf cf] #[.string ⟨#[]⟩,.slice none 0 0,.slice none 0 0] es fe (W2.heap.size+1) (.slice p6 ne c6):=⟨B2.out.trans (K6.out.mono B2.out.size),e2.out.next K6.out,r2.out.next K6.out,HBX.out,f1,f2,fun a ha=>by
       obtain ⟨g1,g2,cur,g3⟩:=f3 a ha;refine ⟨by omega,g2,fun e=>?_⟩;have h:=HBX.out;unfold Blk at h;rw [← e,g3] at h
       simp at h,by omega⟩
      exact ⟨fe,mm.turn (((off_set3 _).trans (off_set3 _)).trans (off_set3 _)) (((HBX.out.same rfl).same rfl).same rfl)⟩
     clear y0 y1 y2 z0 z1 z2 HBX;revert HM5;generalize (((w6.setCell ⟨W2.heap.size+1,0,none⟩ (.string nm)).setCell ⟨W2.heap.size+1,1,none⟩ (.slice p6 ne c6)).setCell ⟨W2.heap.size+1,2,none⟩ (.slice none 0 0))=W5;generalize W2.heap.size+1=ob
     intro HM5)
  | (have HM5:Hid (∃ fe,MidM w (((w6.setCell ⟨W2.heap.size,0,none⟩ (.string nm)).setCell ⟨W2.heap.size,1,none⟩ (.slice p6 ne c6)).setCell ⟨W2.heap.size,2,none⟩ (.slice none 0 0)) d #[.string nm,.slice pe ne ce,.slice pf nf cf] #[.string nm,.slice p6 ne c6,.slice none 0 0] es fe (W2.heap.size) (.slice p6 ne c6)):=by
      obtain ⟨fe,f1,f2,f3⟩:=refs_own (d:=d) RE6.out.1 (by simpa using RE6.out.2) HL1.out.symm;have s2:=S2.out
      have mm:MidM w w6 d #[.string nm,.slice pe ne ce,.slice pf nf cf] #[.string ⟨#[]⟩,.slice none 0 0,.slice none 0 0] es fe (W2.heap.size) (.slice p6 ne c6):=⟨B2.out.trans (K6.out.mono B2.out.size),e2.out.next K6.out,r2.out.next K6.out,HBY.out,f1,f2,fun a ha=>by
       obtain ⟨g1,g2,cur,g3⟩:=f3 a ha;refine ⟨by omega,g2,fun e=>?_⟩;have h:=HBY.out;unfold Blk at h;rw [← e,g3] at h
       simp at h,by omega⟩
      exact ⟨fe,mm.turn (((off_set3 _).trans (off_set3 _)).trans (off_set3 _)) (((HBY.out.same rfl).same rfl).same rfl)⟩
     clear y0 y1 y2 z0 z1 z2 HBY;revert HM5;generalize (((w6.setCell ⟨W2.heap.size,0,none⟩ (.string nm)).setCell ⟨W2.heap.size,1,none⟩ (.slice p6 ne c6)).setCell ⟨W2.heap.size,2,none⟩ (.slice none 0 0))=W5;generalize W2.heap.size=ob
     intro HM5)
  | (have HM5:Hid (∃ fe,MidM w (w6.alloc (.cells #[.string nm,.slice p6 ne c6,.slice none 0 0] 63)) d #[.string nm,.slice pe ne ce,.slice pf nf cf] #[.string nm,.slice p6 ne c6,.slice none 0 0] es fe w6.heap.size (.slice p6 ne c6)):=by
      obtain ⟨fe,f1,f2,f3⟩:=refs_own (d:=d) RE6.out.1 (by simpa using RE6.out.2) HL1.out.symm;have al:Bz w6 (w6.alloc (.cells #[.string nm,.slice p6 ne c6,.slice none 0 0] 63)):=(sqN _ _);have s4:=K6.out.size;have s2:=S2.out;exact ⟨fe,(B2.out.trans (K6.out.mono B2.out.size)).trans (al.mono (by omega)),(e2.out.next K6.out).next al,(r2.out.next K6.out).next al,Blk.new,f1.keep (fun a ha=>al.block a (f3 a ha).2.1) (fun cs x f _ hs h=>h),f2,fun a ha=>by have:=f3 a ha;rw [alloc_hs];omega,by omega⟩
     revert HM5;generalize w6.alloc (.cells #[.string nm,.slice p6 ne c6,.slice none 0 0] 63)=W5;generalize w6.heap.size=ob
     intro HM5)
  clear RE6 K6 C2 CA CS1 CS2 HZ1 KZ1 HX1 HX2 HY1 KX1 KX2 KY1 OX1 OX2 OY1 BX2 BY1 SX1 SX2 SY1 CELLS;obtain ⟨fe,hm5⟩:=HM5.out;have HMX:=hid hm5;have hobl:ob<W5.heap.size:=hm5.out.lt;clear HM5 hm5;go_wp2_with fail
  go_loopw [4] (fun iv wr=>∃ (i:Nat) (cv:Value),i≤nf∧iv=.int .i64 i∧Hid (OffB ob W5.heap.size W5 wr)∧Hid (Blk wr ob #[.string nm,.slice p6 ne c6,cv] 63)∧Hid (GrowO 59 3 (fun w=>OFn w d) wr W5.heap.size wr.heap.size cv ((fs.take i).map (mapF (fT ftU) d)))) (fun iv _=>nf - (intOf iv).toNat)
  case atStart=>exact ⟨0,.slice none 0 0,Nat.zero_le _,rfl,OffB.refl _ _ _,HMX.out.out,GrowO.nil (sqR _)⟩
  case round =>
   obtain ⟨i,cv,hi,rfl,HO,HR,HG⟩:=hrel;have bx:=HO.out.blk HMX.out.box HMX.out.box.lt (by have:=HMX.out.obl;omega);have m2:=bx.cell 2 _ rfl;have hi0:=sqI i;have HBW:=hid (HMX.out.bel.trans (HO.out.below HMX.out.bel.size (by have:=HMX.out.obl;omega)));by_cases hlt2:i<nf
   · obtain ⟨x,hck⟩:∃ x,fs[i]?=some x:=⟨fs[i]'(by rw [HL2.out];exact hlt2),List.getElem?_eq_getElem _⟩
     obtain ⟨pz,cz,hz,-,-,hzx⟩:=HF.out;obtain ⟨g,off,hpz,-,hgl,hat⟩:=hzx (sqE hck);simp only [Value.slice.injEq] at hz;obtain ⟨rfl,-,rfl⟩:=hz;subst hpz;obtain ⟨cs,hc2,hcs,hfn⟩:=hat i x hck;obtain ⟨cv2,rfl,ok1,ok2,hcl⟩:=hfn;have HFK:Hid (okS x.name∧okI x.arity):=⟨ok1,ok2⟩;obtain ⟨a0,a1,a2⟩:=sqC3 hcs (by omega);have HCLW:Hid (∀ w',Bz w w'→Rows w' All 2 (HCl w' All (HEx w' All d)) cv2 x.clauses):=fun w' hb=>hcl.mono (sqO hb) (fun _ h=>h) (fun _ _ _ h=>h.mono (sqO hb) (fun _ h=>h) (fun _ _ h=>h.mono (sqO hb) (fun _ h=>h)));obtain ⟨r1,s1,rfl,-⟩:=hcl;generalize x.clauses.length=m1 at *;clear hcs hat hzx;rw [← HBW.out.cell (p:=⟨g,_,none⟩) hgl] at a0 a1 a2;simp only [List.getElem?_cons_zero,List.getElem?_cons_succ,Nat.add_zero] at a0 a1 a2;have hli:(i:Int)<(nf:Int):=(by omega)
     have HWX:Hid (wtS (wtCl (wtEx d)) x.clauses≤16777216):=by
      show _≤_;have h1:=HW2.out;have h2:=sum_take_succ (wtFn d) fs i x hck;have h3:=sum_take_le (wtFn d) fs (i+1);have h4:wtFn d x=x.name.size+wtS (wtCl (wtEx d)) x.clauses:=rfl;unfold wtS at h1;unfold wtS at h4;unfold wtS;omega
     have HMS:Hid ((fs.take (i+1)).map (mapF (fT ftU) d)=(fs.take i).map (mapF (fT ftU) d) ++ [mapF (fT ftU) d x]):=take_map_succ _ hck;have hll:((fs.take i).map (mapF (fT ftU) d)).length≤100000000:=(by rw [List.length_map,List.length_take];omega);generalize (fs.take i).map (mapF (fT ftU) d)=acc at *;have hgw:g<wr.heap.size:=Nat.lt_of_lt_of_le hgl HBW.out.size;have how:ob<wr.heap.size:=HR.out.lt;obtain ⟨WA,hWA⟩:∃ WA,WA=wr.alloc (.cells #[.string x.name,.int .i64 x.arity,.slice r1 m1 s1] 59):=⟨_,rfl⟩;have HWA:=hid hWA;have KA:Hid (Bz wr WA):=(by show Below _ _ _;rw [hWA];exact (sqN _ _));have SA:Hid (WA.heap.size=wr.heap.size+1):=(by show _=_;rw [hWA,alloc_hs]);have fA:Hid (Blk WA wr.heap.size #[.string x.name,.int .i64 x.arity,.slice r1 m1 s1] 59):=(by show Blk _ _ _ _;rw [hWA];exact Blk.new);have BA:=hid (HBW.out.trans (KA.out.mono HBW.out.size));clear hWA hc2 bx ok1 ok2;go_wp2_with fail;rw [← HWA.out];refine (hCl WA _ x.clauses (HCLW.out WA BA.out) HWX.out).mono ?_;rintro e w3 ⟨u3,fq,rfl,ho3,hnd,hrg,hb3⟩;obtain ⟨p3,c3,hu3,-⟩:=ho3.shape;generalize (x.clauses.map (mapC (fT ftU) d)).length=n3 at hu3;subst hu3;have K3:=hid hb3;have HO3:Hid (ORows w3 46 2 (OCl w3 (OEx w3 d)) (.slice p3 n3 c3) (x.clauses.map (mapC (fT ftU) d)) fq∧fq.Nodup∧∀ a ∈ fq,WA.heap.size≤a∧a<w3.heap.size):=⟨ho3,hnd,hrg⟩;have f3:=hid (fA.out.next hb3);have u0:=f3.out.cell 2 _ rfl;have u1:=f3.out.frozen 2;have hlf:=f3.out.lt;obtain ⟨W4,hW4⟩:∃ W4,W4=w3.setCell ⟨wr.heap.size,2,none⟩ (.slice p3 n3 c3):=⟨_,rfl⟩;have HW4:=hid hW4
     have q4:Hid (∀ a,a≠wr.heap.size→W4.heap[a]?=w3.heap[a]?):=fun a ha=>by rw [hW4];exact Below.heap_setCell _ _ _ _ ha
     have S4:Hid (W4.heap.size=w3.heap.size):=(by show _=_;rw [hW4];simp [World.setCell]);have f4:Hid (Blk W4 wr.heap.size #[.string x.name,.int .i64 x.arity,.slice p3 n3 c3] 59):=(by show Blk _ _ _ _;rw [hW4];exact f3.out.same rfl);have B4:Hid (Bz wr W4):=(by show Below _ _ _;rw [hW4];exact (KA.out.trans (hb3.mono KA.out.size)).setCell (p:=⟨wr.heap.size,2,none⟩) (sqR _) _);have o4:=hid (HR.out.next B4.out);have G4:=hid (HG.out.next (keepsF d) B4.out)
     have X4:Hid (OFn W4 d [.string x.name,.int .i64 x.arity,.slice p3 n3 c3] (mapF (fT ftU) d x) fq∧fq.Nodup∧∀ a ∈ fq,wr.heap.size≤a∧a<W4.heap.size):=by
      have s1:=SA.out;have kk:KeepOn fq w3 W4:=fun a ha=>q4.out a (by have:=(hrg a ha).1;omega);exact ⟨⟨_,rfl,HFK.out.1,HFK.out.2,ho3.keep kk (fun cs x f _ hs h=>OCls.keep h (kk.sub hs))⟩,hnd,fun a ha=>by have:=hrg a ha;have:=S4.out;omega⟩
     obtain ⟨v0,v1,v2⟩:=sqB3 f4.out;have t2:=o4.out.cell 2 _ rfl;clear ho3 hnd hrg hb3 hW4 a0 a1 a2 m2;go_wp2_with (first | (rw [← HW4.out]) | (at_builtin;refine wpList_push (keepsF d) 61 59 3 48 _ rfl _ _ rfl underlying61 infoF rfl (by decide) (by decide) W5.heap.size wr.heap.size cv acc rfl [.string x.name,.int .i64 x.arity,.slice p3 n3 c3] rfl (mapF (fT ftU) d x) fq G4.out X4.out.1 X4.out.2.1 X4.out.2.2 rfl oneF hll ?_));intro v5 w5 hg5 hb5;obtain ⟨p5,c5,hv5,-⟩:=hg5.shape;rw [List.length_append] at hv5;simp only [List.length_singleton] at hv5;subst hv5;have al:Bz W4 (W4.alloc (.cells #[.string x.name,.int .i64 x.arity,.slice p3 n3 c3] 59)):=(sqN _ _);have R5:Hid (Blk w5 ob #[.string nm,.slice p6 ne c6,cv] 63):=(hb5.block ob hobl).trans (o4.out.next al);have k2:=R5.out.cell 2 _ rfl;have k3:=R5.out.frozen 2;obtain ⟨W7,hW7⟩:∃ W7,W7=w5.setCell ⟨ob,2,none⟩ (.slice p5 (acc.length+1) c5):=⟨_,rfl⟩;have HW7:=hid hW7;have s7:W7.heap.size=w5.heap.size:=(by rw [hW7];simp [World.setCell]);have O5:OffB ob W5.heap.size W5 w5:=HO.out.trans ((OffB.of_below (B4.out.mono HO.out.size)).trans ((OffB.of_below (al.mono (by have:=B4.out.size;have:=HO.out.size;omega))).trans (OffB.of_below hb5)));have O7:Hid (OffB ob W5.heap.size W5 W7):=(by show OffB _ _ _ _;rw [hW7];exact offB_set3 O5 _);have R7:Hid (Blk W7 ob #[.string nm,.slice p6 ne c6,.slice p5 (acc.length+1) c5] 63):=(by show Blk _ _ _ _;rw [hW7];exact R5.out.same rfl)
     have G7:Hid (GrowO 59 3 (fun w=>OFn w d) W7 W5.heap.size W7.heap.size (.slice p5 (acc.length+1) c5) ((fs.take (i+1)).map (mapF (fT ftU) d))):=by
      show GrowO _ _ _ _ _ _ _ _;rw [HMS.out,s7];rw [hW7];exact hg5.off (keepsF d) (off_set3 _) hobl
     clear hg5 hb5 al O5 s7 hW7 v0 v1 v2 t2 u0 u1;go_wp2_with (rw [← HW7.out]);exact ⟨⟨i+1,_,by omega,by go_num,O7.out,R7.out,G7.out⟩,by simp [intOf];omega⟩
   · obtain rfl:i=nf:=by omega
     obtain ⟨ff,r1,r2',r3,-,-⟩:=HG.out.done;rw [sqT HL2.out] at r1;have hsh:=HG.out.shape;rw [List.length_map,List.length_take,HL2.out,Nat.min_self] at hsh;obtain ⟨pc,cc,hcv,-⟩:=hsh;subst hcv;have rs:=hid (HO.out.blk HMX.out.res HMX.out.res.lt (by have:=HMX.out.obl;omega));obtain ⟨oo0,oo1,oo2⟩:=sqB3 HR.out;obtain ⟨xx0,xx1,xx2⟩:=sqB3 rs.out;obtain ⟨gg0,gg1,gg2⟩:=sqF3 rs.out;have HQ:Hid (ORows wr 59 3 (OFn wr d) (.slice pc i cc) (fs.map (mapF (fT ftU) d)) ff∧ff.Nodup∧∀ a ∈ ff,W5.heap.size≤a∧a<wr.heap.size):=⟨r1,r2',r3⟩;clear r1 r2' r3 bx;go_wp2_with fail;obtain ⟨W8,hW8⟩:∃ W8,W8=((wr.setCell ⟨w.heap.size+1,0,none⟩ (.string nm)).setCell ⟨w.heap.size+1,1,none⟩ (.slice p6 ne c6)).setCell ⟨w.heap.size+1,2,none⟩ (.slice pc i cc):=⟨_,rfl⟩;have bz:Blk W8 (w.heap.size+1) #[.string nm,.slice p6 ne c6,.slice pc i cc] 63:=(by rw [hW8];exact ((rs.out.same rfl).same rfl).same rfl);obtain ⟨j0,j1,j2⟩:=sqB3 bz
     have ho:∀ a,a≠w.heap.size+1→W8.heap[a]?=wr.heap[a]?:=fun a ha=>by rw [hW8,Below.heap_setCell _ _ _ _ ha,Below.heap_setCell _ _ _ _ ha,Below.heap_setCell _ _ _ _ ha]
     have s8:W8.heap.size=wr.heap.size:=(by rw [hW8];simp [World.setCell]);have B8:Bz w W8:=(by rw [hW8];exact ((HBW.out.setCell (p:=⟨w.heap.size+1,0,none⟩) (Nat.le_succ _) _).setCell (p:=⟨w.heap.size+1,1,none⟩) (Nat.le_succ _) _).setCell (p:=⟨w.heap.size+1,2,none⟩) (Nat.le_succ _) _);have hol:=HMX.out.obl;have kf:KeepOn ff wr W8:=fun a ha=>ho a (by have:=(HQ.out.2.2 a ha).1;omega);have ke:KeepOn fe W5 W8:=fun a ha=>(ho a (by have:=(HMX.out.rg a ha).1;omega)).trans (HO.out.block a (HMX.out.rg a ha).2.1 (HMX.out.rg a ha).2.2);have s9:=HO.out.size
     have fin:ResO w (fun w' u fp=>∃ cs',u=.agg cs'.toArray∧OMd w' d cs' (mapM (fT ftU) d ⟨nm,es,fs⟩) fp) (.returned (.agg #[.string nm,.slice p6 ne c6,.slice pc i cc])) W8:=by
      refine ⟨_,fe ++ ff,rfl,⟨[.string nm,.slice p6 ne c6,.slice pc i cc],rfl,_,_,fe,ff,rfl,rfl,HOK.out,HMX.out.exps.keep ke (fun cs x f _ hs h=>h),HQ.out.1.keep kf (fun cs x f _ hs h=>h.keep (kf.sub hs))⟩,?_,fun a ha=>?_,B8⟩
      · rw [List.nodup_append]
        refine ⟨HMX.out.nd,HQ.out.2.1,fun a ha b hb=>?_⟩;have h:=(HMX.out.rg a ha).2.1;have h':=(HQ.out.2.2 b hb).1;omega
      · rcases List.mem_append.1 ha with ha | ha
        · have h:=HMX.out.rg a ha;omega
        · have h:=HQ.out.2.2 a ha;omega
     rw [hW8] at fin j0 j1 j2;exact bodyPost_ret (v:=.agg #[.string nm,.slice p6 ne c6,.slice pc i cc]) (by simp [results,results54,go_sem,j0,j1,j2]) rfl fin
theorem mods_of {d:Nat} (hE:ModS d):ModsS d:=by
 intro w v xs hr hw;obtain ⟨p,cap,rfl,hcl,hcm,hx⟩:=hr;have HWT:=hid hw;have hnb:xs.length≤16777216:=(by unfold wtS at hw;omega);generalize hn:xs.length=n at *;have HN:=hid hn;have HX:=hid hx;obtain ⟨W1,hW1⟩:∃ W1,W1=w.alloc (.cells #[] 63):=⟨_,rfl⟩;have HW1:=hid hW1;have G1:Hid (GrowO 63 3 (fun w=>OMd w d) W1 w.heap.size W1.heap.size (.slice (some ⟨w.heap.size,0,none⟩) 0 0) ((xs.take 0).map (mapM (fT ftU) d))):=growFresh hW1;have B1:Hid (Bz w W1):=(by show Below _ _ _;rw [hW1];exact (sqN _ _));clear hW1 hx hn hw;go_enter func17,ntmps17;go_wp2_with fail;rw [← HW1.out]
 go_loopw [3,4] (fun ov iv wr=>∃ (k:Nat),k≤n∧iv=.int .i64 k∧Hid (GrowO 63 3 (fun w=>OMd w d) wr w.heap.size wr.heap.size ov ((xs.take k).map (mapM (fT ftU) d)))∧Hid (Bz w wr)) (fun _ iv _=>n - (intOf iv).toNat)
 case atStart=>exact ⟨0,Nat.zero_le _,rfl,G1.out,B1.out⟩
 case round =>
  obtain ⟨k,hk,rfl,HG,HB⟩:=hrel;by_cases hlt:k<n
  · obtain ⟨x,hxk⟩:=sqA (l:=xs) (k:=k) HN.out hlt
    obtain ⟨g,off,rfl,-,hgl,hat⟩:=HX.out (sqE hxk);obtain ⟨cs,hc6,hcs,hex⟩:=hat k x hxk;have HXR:=hid (hex.mono (sqO HB.out) (fun _ h=>h));obtain ⟨tt,r1,m1,s1,r2,m2,s2,rfl⟩:=HMd.shapeR hex;obtain ⟨a0,a1,a2⟩:=sqC3 hcs (by omega);rw [← HB.out.cell (p:=⟨g,_,none⟩) hgl] at a0 a1 a2;clear hcs hat;simp at a0 a1 a2;have hki:(k:Int)<(n:Int):=(by omega);have hk0:=sqI k
    have HWX:Hid (wtMd d x≤16777216):=by
     show _≤_;have h1:=HWT.out;have h2:=sum_take_succ (wtMd d) xs k x hxk;have h3:=sum_take_le (wtMd d) xs (k+1);unfold wtS at h1;omega
    have HMS:Hid ((xs.take (k+1)).map (mapM (fT ftU) d)=(xs.take k).map (mapM (fT ftU) d) ++ [mapM (fT ftU) d x]):=take_map_succ _ hxk;have hll:((xs.take k).map (mapM (fT ftU) d)).length≤100000000:=(by rw [List.length_map,List.length_take];omega);generalize (xs.take k).map (mapM (fT ftU) d)=acc at *;clear hex hc6;go_wp2_with fail;refine (hE wr _ x HXR.out HWX.out).mono ?_;rintro e w3 ⟨u,fp,rfl,⟨cs',rfl,hx3⟩,hnd,hrg,hb3⟩;obtain ⟨sx,p1,n1,q1,p2,n2,q2,hsh⟩:=hx3.shape;subst hsh;have G3:=hid (HG.out.next (keepsM d) hb3);have X3:Hid (OMd w3 d [.string sx,.slice p1 n1 q1,.slice p2 n2 q2] (mapM (fT ftU) d x) fp∧fp.Nodup∧∀ a ∈ fp,wr.heap.size≤a∧a<w3.heap.size):=⟨hx3,hnd,hrg⟩;have B3:=hid (HB.out.trans (hb3.mono HB.out.size));clear hx3 hnd hrg hb3 a0 a1 a2;go_wp2_with (at_builtin;refine wpList_push (keepsM d) 27 63 3 64 _ rfl _ _ rfl underlying27 infoM rfl (by decide) (by decide) w.heap.size wr.heap.size u3 acc rfl [.string sx,.slice p1 n1 q1,.slice p2 n2 q2] rfl (mapM (fT ftU) d x) fp G3.out X3.out.1 X3.out.2.1 X3.out.2.2 rfl oneM hll ?_);intro v4 w4 hg4 hb4;have B4:Hid (Bz w w4):=(B3.out.alloc B3.out.size _).trans hb4;rw [← HMS.out] at hg4;have G4:=hid hg4;clear hg4 hb4;go_wp2_with fail;exact ⟨⟨k+1,by omega,by go_num,G4.out,B4.out⟩,by simp [intOf];omega⟩
  · obtain rfl:k=n:=by omega
    obtain ⟨fp,r1,r2,r3,r4,r5⟩:=HG.out.done;rw [sqT HN.out] at r1;obtain ⟨pu,cu,hu,-⟩:=HG.out.shape;subst hu;have FIN:Hid (ResO w (fun w' u fp=>ORows w' 63 3 (OMd w' d) u (xs.map (mapM (fT ftU) d)) fp) (.returned _) wr):=⟨_,fp,rfl,r1,r2,fun a ha=>r3 a ha,HB.out⟩;clear r1 r2 r3 r4 r5;go_wp2_with fail;go_ret;exact FIN.out
theorem mods (d:Nat):ModsS d:=mods_of (mod_any d)
end CpU
theorem l07Copy_any (d:Nat) (w:World) (v:Value) (ms:List Md) (h:Rows w All 3 (HMd w All d) v ms) (hw:wtS (wtMd d) ms≤16777216) :
 Calls prog 17 #[v] w (ResO w fun w' u fp=>ORows w' 63 3 (OMd w' d) u ms fp):=by
 have h1:=CpU.mods d w v ms h hw;have e:ms.map (mapM (fT ftU) d)=ms:=(by rw [fT_U];exact mapMs_id d ms);rw [e] at h1;exact h1
end Go.Proofs.YtdhlonogmnkemaaGreatDoor
namespace Go.Proofs.YtdhlonogmnkemaaGreatDoor
open Go.ChangeShapes Go.WideShapes Go.ChangeAt Go.RowKit
set_option linter.unusedVariables false
set_option maxRecDepth 100000
def renT (fs ts:List ByteArray) (t:ByteArray):Nat→ByteArray
 | 0=>t
 | j+1=>match fs[j]?,ts[j]? with
  | some f,some s=>if (f.toList == t.toList)=true then s else renT fs ts t j
  | _,_=>renT fs ts t j
def ftL (fs ts:List ByteArray) (k:Int) (t _:ByteArray) (_:Nat):ByteArray:=if k=2 then renT fs ts t fs.length else t
theorem renT_hit {fs ts:List ByteArray} {t f s:ByteArray} {j:Nat} (hf:fs[j]?=some f) (hs:ts[j]?=some s) (h:(f.toList == t.toList)=true):renT fs ts t (j+1)=s:=by
 simp only [renT,hf,hs,h,if_true]
theorem renT_miss {fs ts:List ByteArray} {t f:ByteArray} {j:Nat} (hf:fs[j]?=some f) (h:(f.toList == t.toList)=false):renT fs ts t (j+1)=renT fs ts t j:=by
 cases hs:ts[j]? with
 | none=>simp only [renT,hf,hs]
 | some s=>simp only [renT,hf,hs,h];simp
theorem ftL_one (sf st:ByteArray):ftL [sf] [st]=ftV sf st:=by
 funext k t m n
 unfold ftL ftV;by_cases hk:k=2
 · simp only [hk,if_true,true_and,List.length_singleton]
   cases hq:(t.toList == sf.toList) with
   | true=>rw [renT_hit (f:=sf) (s:=st) rfl rfl (by rw [beq_iff_eq] at hq ⊢;exact hq.symm)];simp
   | false =>
    rw [renT_miss (f:=sf) rfl (by
     rw [beq_eq_false_iff_ne] at hq ⊢
     exact fun h=>hq h.symm)]
    simp [renT]
 · simp [hk]
theorem renT_ok {fs ts:List ByteArray} {t:ByteArray} (ht:okS t) (hs:∀ s ∈ ts,okS s):∀ j,okS (renT fs ts t j)
 | 0=>ht
 | j+1=>by
  have ih:=renT_ok (fs:=fs) ht hs j;unfold renT
  split
  · split
    · rename_i h _
      exact hs _ (List.mem_of_getElem? h)
    · exact ih
  · exact ih
theorem ftL_ok {fs ts:List ByteArray} (hs:∀ s ∈ ts,okS s) {k:Int} {t m:ByteArray} {n:Nat} (ht:okS t):okS (ftL fs ts k t m n):=by
 unfold ftL;split
 · exact renT_ok ht hs _
 · exact ht
def CapL (w:World) (fv tv:Value) (fs ts:List ByteArray):Prop:=StrR w fv fs∧StrR w tv ts∧fs.length≤ts.length
theorem CapL.next {w w':World} {fv tv:Value} {fs ts:List ByteArray} (h:CapL w fv tv fs ts) (hb:Bz w w'):CapL w' fv tv fs ts :=
 ⟨h.1.mono (sqO hb),h.2.1.mono (sqO hb),h.2.2⟩
theorem CapL.ok {w:World} {fv tv:Value} {fs ts:List ByteArray} (h:CapL w fv tv fs ts):∀ s ∈ ts,okS s:=h.2.1.okS
theorem strR_at {w:World} {v:Value} {xs:List ByteArray} (h:StrR w v xs):∃ p n cap,v=.slice p n cap∧n=xs.length∧∀ k x,xs[k]?=some x→∃ g off,p=some ⟨g,off,none⟩∧g<w.heap.size∧w.cell? ⟨g,off+k,none⟩=some (.string x):=by
 obtain ⟨p,cap,rfl,-,-,hx⟩:=h;refine ⟨p,_,cap,rfl,rfl,fun k x hk=>?_⟩;obtain ⟨g,off,e,_,hg,hat⟩:=hx (by intro e;rw [e] at hk;simp at hk);obtain ⟨cs,_,hcs,rfl,_⟩:=hat k x hk;have:=hcs 0 (by decide);simp only [Nat.mul_one,Nat.add_zero,List.getElem?_cons_zero] at this;exact ⟨g,off,e,hg,this⟩
end Go.Proofs.YtdhlonogmnkemaaGreatDoor
namespace Go.Proofs.YtdhlonogmnkemaaGreatDoor
open Go.ChangeShapes Go.WideShapes Go.ChangeAt Go.RowKit Go.Proofs.Tryz
set_option linter.unusedVariables false
set_option maxRecDepth 100000
namespace CpV
def ExpS (fv tv:Value) (fs ts:List ByteArray) (d:Nat):Prop:=∀ (w:World) (cs:List Value) (x:Ex),CapL w fv tv fs ts→HEx w All d cs x→wtEx d x≤16777216 →
 Calls prog 105 #[.agg cs.toArray,fv,tv] w (ResO w fun w' u fp=>∃ cs',u=.agg cs'.toArray∧OEx w' d cs' (mapX (fT (ftL fs ts)) d x) fp)
def ExpsS (fv tv:Value) (fs ts:List ByteArray) (d:Nat):Prop:=∀ (w:World) (v:Value) (xs:List Ex),CapL w fv tv fs ts→Rows w All 6 (HEx w All d) v xs→wtS (wtEx d) xs≤16777216 →
 Calls prog 65 #[v,fv,tv] w (ResO w fun w' u fp=>ORows w' 76 6 (OEx w' d) u (xs.map (mapX (fT (ftL fs ts)) d)) fp)
theorem exps_of {fv tv:Value} {fs ts:List ByteArray} {d:Nat} (hE:ExpS fv tv fs ts d):ExpsS fv tv fs ts d:=by
 intro w v xs hc hr hw;have HC:=hid hc;obtain ⟨p,cap,rfl,hcl,hcm,hx⟩:=hr;have HWT:=hid hw;have hnb:xs.length≤16777216:=(by unfold wtS at hw;omega);generalize hn:xs.length=n at *;have HN:=hid hn;have HX:=hid hx;obtain ⟨W1,hW1⟩:∃ W1,W1=w.alloc (.cells #[] 76):=⟨_,rfl⟩;have HW1:=hid hW1;have G1:Hid (GrowO 76 6 (fun w=>OEx w d) W1 w.heap.size W1.heap.size (.slice (some ⟨w.heap.size,0,none⟩) 0 0) ((xs.take 0).map (mapX (fT (ftL fs ts)) d))):=growFresh hW1;have B1:Hid (Bz w W1):=(by show Below _ _ _;rw [hW1];exact (sqN _ _));clear hW1 hx hn hw;go_enter func65,ntmps65;go_wp2_with fail;rw [← HW1.out]
 go_loopw [7,8] (fun ov iv wr=>∃ (k:Nat),k≤n∧iv=.int .i64 k∧Hid (GrowO 76 6 (fun w=>OEx w d) wr w.heap.size wr.heap.size ov ((xs.take k).map (mapX (fT (ftL fs ts)) d)))∧Hid (Bz w wr)) (fun _ iv _=>n - (intOf iv).toNat)
 case atStart=>exact ⟨0,Nat.zero_le _,rfl,G1.out,B1.out⟩
 case round =>
  obtain ⟨k,hk,rfl,HG,HB⟩:=hrel;by_cases hlt:k<n
  · obtain ⟨x,hxk⟩:=sqA (l:=xs) (k:=k) HN.out hlt
    obtain ⟨g,off,rfl,-,hgl,hat⟩:=HX.out (sqE hxk);obtain ⟨cs,hc6,hcs,hex⟩:=hat k x hxk;have HXR:=hid (hex.mono (sqO HB.out) (fun _ h=>h));obtain ⟨tk,tn,tt,te,r1,m1,s1,r2,m2,s2,rfl⟩:=HEx.shapeR hex;obtain ⟨a0,a1,a2,a3,a4,a5⟩:=sqC6 hcs (by omega);rw [← HB.out.cell (p:=⟨g,_,none⟩) hgl] at a0 a1 a2 a3 a4 a5;clear hcs hat;simp at a0 a1 a2 a3 a4 a5;have hki:(k:Int)<(n:Int):=(by omega);have hk0:=sqI k
    have HWX:Hid (wtEx d x≤16777216):=by
     show _≤_;have h1:=HWT.out;have h2:=sum_take_succ (wtEx d) xs k x hxk;have h3:=sum_take_le (wtEx d) xs (k+1);unfold wtS at h1;omega
    have HMS:Hid ((xs.take (k+1)).map (mapX (fT (ftL fs ts)) d)=(xs.take k).map (mapX (fT (ftL fs ts)) d) ++ [mapX (fT (ftL fs ts)) d x]):=take_map_succ _ hxk;have hll:((xs.take k).map (mapX (fT (ftL fs ts)) d)).length≤100000000:=(by rw [List.length_map,List.length_take];omega);generalize (xs.take k).map (mapX (fT (ftL fs ts)) d)=acc at *;clear hex hc6;go_wp2_with fail;refine (hE wr _ x (HC.out.next HB.out) HXR.out HWX.out).mono ?_;rintro e w3 ⟨u,fp,rfl,⟨cs',rfl,hx3⟩,hnd,hrg,hb3⟩;obtain ⟨sk,sn,sx,se,p1,n1,q1,p2,n2,q2,hsh⟩:=hx3.shape;subst hsh;have G3:=hid (HG.out.next (keepsX d) hb3);have X3:Hid (OEx w3 d [.int .i64 sk,.int .i64 sn,.string sx,.string se,.slice p1 n1 q1,.slice p2 n2 q2] (mapX (fT (ftL fs ts)) d x) fp∧fp.Nodup∧∀ a ∈ fp,wr.heap.size≤a∧a<w3.heap.size):=⟨hx3,hnd,hrg⟩;have B3:=hid (HB.out.trans (hb3.mono HB.out.size));clear hx3 hnd hrg hb3 a0 a1 a2 a3 a4 a5;go_wp2_with (at_builtin;refine wpList_push (keepsX d) 44 76 6 96 _ rfl _ _ rfl underlying44 infoX rfl (by decide) (by decide) w.heap.size wr.heap.size u7 acc rfl [.int .i64 sk,.int .i64 sn,.string sx,.string se,.slice p1 n1 q1,.slice p2 n2 q2] rfl (mapX (fT (ftL fs ts)) d x) fp G3.out X3.out.1 X3.out.2.1 X3.out.2.2 rfl oneX hll ?_);intro v4 w4 hg4 hb4;have B4:Hid (Bz w w4):=(B3.out.alloc B3.out.size _).trans hb4;rw [← HMS.out] at hg4;have G4:=hid hg4;clear hg4 hb4;go_wp2_with fail;exact ⟨⟨k+1,by omega,by go_num,G4.out,B4.out⟩,by simp [intOf];omega⟩
  · obtain rfl:k=n:=by omega
    obtain ⟨fp,r1,r2,r3,r4,r5⟩:=HG.out.done;rw [sqT HN.out] at r1;obtain ⟨pu,cu,hu,-⟩:=HG.out.shape;subst hu;have FIN:Hid (ResO w (fun w' u fp=>ORows w' 76 6 (OEx w' d) u (xs.map (mapX (fT (ftL fs ts)) d)) fp) (.returned _) wr):=⟨_,fp,rfl,r1,r2,fun a ha=>r3 a ha,HB.out⟩;clear r1 r2 r3 r4 r5;go_wp2_with fail;go_ret;exact FIN.out
def ClS (fv tv:Value) (fs ts:List ByteArray) (d:Nat):Prop:=∀ (w:World) (cs:List Value) (c:Cl),CapL w fv tv fs ts→HCl w All (HEx w All d) cs c→wtCl (wtEx d) c≤16777216 →
 Calls prog 24 #[.agg cs.toArray,fv,tv] w (ResO w fun w' u fp=>∃ cs',u=.agg cs'.toArray∧OCl w' (OEx w' d) cs' (mapC (fT (ftL fs ts)) d c) fp)
theorem clause_of {fv tv:Value} {fs ts:List ByteArray} {d:Nat} (hE:ExpsS fv tv fs ts d):ClS fv tv fs ts d:=by
 intro w cs c hc hr hw;have HC:=hid hc;obtain ⟨pv,bv,rfl,hp,hb⟩:=hr;have HP:=hid hp;have HB:=hid hb;have hw':wtCl (wtEx d) c=wtS (wtEx d) c.1+wtS (wtEx d) c.2:=rfl;have HW1:Hid (wtS (wtEx d) c.1≤16777216):=(by show _≤_;omega);have HW2:Hid (wtS (wtEx d) c.2≤16777216):=(by show _≤_;omega);obtain ⟨p1,c1,rfl,-⟩:=hp;obtain ⟨p2,c2,rfl,-⟩:=hb;generalize c.1.length=n1 at *;generalize c.2.length=n2 at *;obtain ⟨W2,hW2⟩:∃ W2,W2=(w.alloc (.cells #[.slice p1 n1 c1,.slice p2 n2 c2] 46)).alloc (.cells #[.slice none 0 0,.slice none 0 0] 46):=⟨_,rfl⟩;have HW2':=hid hW2;have B2:Hid (Bz w W2):=(by show Below _ _ _;rw [hW2];exact ((sqN _ _)).alloc (by simp) _);have e2:Hid (Blk W2 w.heap.size #[.slice p1 n1 c1,.slice p2 n2 c2] 46):=(by show Blk _ _ _ _;rw [hW2];exact Blk.new.alloc)
 have r2:Hid (Blk W2 (w.heap.size+1) #[.slice none 0 0,.slice none 0 0] 46):=by
  have:=Blk.new (w:=w.alloc (.cells #[.slice p1 n1 c1,.slice p2 n2 c2] 46)) (cs:=#[.slice none 0 0,.slice none 0 0]) (t:=46);rw [alloc_hs] at this;show Blk _ _ _ _;rw [hW2];exact this
 have S2:Hid (W2.heap.size=w.heap.size+2):=(by show _=_;rw [hW2,alloc_hs,alloc_hs]);have P2:=hid (HP.out.mono (sqO B2.out.drew) (fun _ h=>h) (fun _ _ _ h=>h.mono (sqO B2.out.drew) (fun _ h=>h)))
 have CELLS:Hid (∀ w',Below (w.heap.size+1) W2 w'→w'.cell? ⟨w.heap.size,0,none⟩=some (.slice p1 n1 c1)∧w'.cell? ⟨w.heap.size,1,none⟩=some (.slice p2 n2 c2)):=fun w' h=>by
  have e:=e2.out.below h (by omega);exact ⟨e.cell 0 _ rfl,e.cell 1 _ rfl⟩
 have CELLS2:Hid (∀ w0,Below (w.heap.size+1) W2 w0→∀ a b,((w0.setCell ⟨w.heap.size+1,0,none⟩ a).setCell ⟨w.heap.size+1,1,none⟩ b).cell? ⟨w.heap.size,0,none⟩=some (.slice p1 n1 c1)∧((w0.setCell ⟨w.heap.size+1,0,none⟩ a).setCell ⟨w.heap.size+1,1,none⟩ b).cell? ⟨w.heap.size,1,none⟩=some (.slice p2 n2 c2)):=fun w0 h a b=>CELLS.out _ ((h.setCell (p:=⟨w.heap.size+1,0,none⟩) (sqR _) _).setCell (p:=⟨w.heap.size+1,1,none⟩) (sqR _) _);obtain ⟨q0,q1⟩:=CELLS.out W2 (Below.refl _ _);obtain ⟨x0,x1⟩:=sqB2 r2.out;obtain ⟨f0,f1⟩:=sqF2 r2.out;clear hW2 hw hw' hc;go_enter func24,ntmps24;go_wp2_with fail;rw [← HW2'.out]
 go_region_held3 (fun w'=>w'.cell? ⟨w.heap.size,0,none⟩=some (.slice p1 n1 c1)∧w'.cell? ⟨w.heap.size,1,none⟩=some (.slice p2 n2 c2))
  (first | with_reducible exact CELLS2.out _ K5.out _ _ | with_reducible exact CELLS.out _ K5.out | with_reducible exact CELLS.out _ K4.out | with_reducible exact CELLS.out _ (Below.refl _ _).drew | go_keep)
  (first
   | (have _:=K4;go_at_call 65;refine (hE w4 _ c.2 C4.out R4.out HW2.out).mono ?_;rintro e w5 ⟨u5,fq,rfl,ho5,hnd5,hrg5,hb5⟩;obtain ⟨pu5,cu5,hu5,-⟩:=ho5.shape;generalize (c.2.map (mapX (fT (ftL fs ts)) d)).length=l5 at hu5;subst hu5;have HO5:=hid ho5;have ND5:Hid (fq.Nodup∧∀ a ∈ fq,w4.heap.size≤a∧a<w5.heap.size):=⟨hnd5,hrg5⟩;have L5:=hid hb5;have K5:=hid (K4.out.trans (hb5.mono (by have h1:=K4.out.size;have h2:=S2.out;omega)));have rr:=(r2.out.next M4.out).next hb5;have HRR:=hid rr;obtain ⟨y0,y1⟩:=sqB2 rr;obtain ⟨g0,g1⟩:=sqF2 rr;clear ho5 hnd5 hrg5 hb5 rr)
   | (go_at_call 65;refine (hE W2.drew _ c.1 (HC.out.next B2.out.drew) P2.out HW1.out).mono ?_;rintro e w4 ⟨u4,fp,rfl,ho4,hnd4,hrg4,hb4⟩;obtain ⟨pu4,cu4,hu4,-⟩:=ho4.shape;generalize (c.1.map (mapX (fT (ftL fs ts)) d)).length=l4 at hu4;subst hu4;have HO4:=hid ho4;have ND4:Hid (fp.Nodup∧∀ a ∈ fp,W2.heap.size≤a∧a<w4.heap.size):=⟨hnd4,hrg4⟩;have M4:Hid (Bz W2 w4):=below_undrew hb4;have K4:Hid (Below (w.heap.size+1) W2 w4):=M4.out.mono (by have h2:=S2.out;omega);have hbb:=hid (B2.out.trans (M4.out.mono B2.out.size));have C4:=hid (HC.out.next hbb.out);have R4:=hid (HB.out.mono (sqO hbb.out) (fun _ h=>h) (fun _ _ _ h=>h.mono (sqO hbb.out) (fun _ h=>h)));clear ho4 hnd4 hrg4 hb4))
 all_goals
  go_split_ands;go_wp2_with fail;obtain ⟨W6,hW6⟩:∃ W6,W6=(w5.setCell ⟨w.heap.size+1,0,none⟩ (.slice pu4 l4 cu4)).setCell ⟨w.heap.size+1,1,none⟩ (.slice pu5 l5 cu5):=⟨_,rfl⟩;have bz:Blk W6 (w.heap.size+1) #[.slice pu4 l4 cu4,.slice pu5 l5 cu5] 46:=(by rw [hW6];exact (HRR.out.same rfl).same rfl);obtain ⟨j0,j1⟩:=sqB2 bz
  have ho:∀ a,a≠w.heap.size+1→W6.heap[a]?=w5.heap[a]?:=fun a ha=>by rw [hW6,Below.heap_setCell _ _ _ _ ha,Below.heap_setCell _ _ _ _ ha]
  have s6:W6.heap.size=w5.heap.size:=(by rw [hW6];simp [World.setCell]);have B6:Bz w W6:=(by rw [hW6];exact ((hbb.out.trans (L5.out.mono hbb.out.size)).setCell (p:=⟨w.heap.size+1,0,none⟩) (by show _≤w.heap.size+1;omega) _).setCell (p:=⟨w.heap.size+1,1,none⟩) (by show _≤w.heap.size+1;omega) _);obtain ⟨m1,m2,m3⟩:=clause_made HO4.out ND4.out HO5.out ND5.out L5.out (by have:=M4.out.size;omega);have kk:KeepOn (fp ++ fq) w5 W6:=fun a ha=>ho a (by have:=(m3 a ha).1;have:=S2.out;omega);have fin:ResO w (fun w' u fp=>∃ cs',u=.agg cs'.toArray∧OCl w' (OEx w' d) cs' (mapC (fT (ftL fs ts)) d c) fp) (.returned (.agg #[.slice pu4 l4 cu4,.slice pu5 l5 cu5])) W6:=⟨_,fp ++ fq,rfl,⟨[.slice pu4 l4 cu4,.slice pu5 l5 cu5],rfl,OCls.keep m1 kk⟩,m2,fun a ha=>by have h1:=m3 a ha;have:=S2.out;omega,B6⟩;rw [hW6] at fin j0 j1;exact bodyPost_ret (v:=.agg #[.slice pu4 l4 cu4,.slice pu5 l5 cu5]) (by simp [results,results24,go_sem,j0,j1]) rfl fin
end CpV
namespace CpV
structure Mid (w V:World) (d:Nat) (E R:Array Value) (ks:List Ex) (fp:List Nat) (ob:Nat) (kv:Value):Prop where
 bel:Bz w V
 box:Blk V w.heap.size E 76
 res:Blk V (w.heap.size+1) #[.int .i64 0,.int .i64 0,.string ⟨#[]⟩,.string ⟨#[]⟩,.slice none 0 0,.slice none 0 0] 76
 out:Blk V ob R 76
 kids:ORows V 76 6 (OEx V d) kv ks fp
 nd:fp.Nodup
 rg:∀ a ∈ fp,w.heap.size+2≤a∧a<V.heap.size∧a≠ob
 obl:w.heap.size+2≤ob
theorem Mid.turn {w V V':World} {d:Nat} {E R R':Array Value} {ks:List Ex} {fp:List Nat} {ob:Nat} {kv:Value} (h:Mid w V d E R ks fp ob kv) (ho:Off [ob] V V') (hR:Blk V' ob R' 76):Mid w V' d E R' ks fp ob kv:=by
 have hb:=h.box.lt;have hr:=h.res.lt;have hl:=h.obl;have kk:KeepOn fp V V':=fun a ha=>ho.block a (h.rg a ha).2.1 (by simp [(h.rg a ha).2.2])
 exact ⟨⟨ho.os.trans h.bel.os,ho.tape.trans h.bel.tape,ho.output.trans h.bel.output,Nat.le_trans h.bel.size ho.size,fun a ha=>(ho.block a (Nat.lt_of_lt_of_le ha h.bel.size) (by simp;omega)).trans (h.bel.block a ha)⟩,
  (ho.block _ hb (by simp;omega)).trans h.box,(ho.block _ hr (by simp;omega)).trans h.res,hR,h.kids.keep kk (fun cs x f _ hs h=>h.keep (kk.sub hs)),h.nd,fun a ha=>⟨(h.rg a ha).1,Nat.lt_of_lt_of_le (h.rg a ha).2.1 ho.size,(h.rg a ha).2.2⟩,hl⟩
theorem off_set {V:World} {ob j:Nat} (v:Value):Off [ob] V (V.setCell ⟨ob,j,none⟩ v) :=
 ⟨by simp [World.setCell],by simp [World.setCell],by simp [World.setCell],by simp [World.setCell],fun a _ hn=>Below.heap_setCell _ _ _ _ (by simpa using hn)⟩
theorem mapX_mk {ft:Int→ByteArray→ByteArray→Nat→ByteArray} {d:Nat} {k0 n0:Int} {t0 m0:ByteArray} {ks:List Ex} {cls:List Cl} {n1:Nat} (hl:ks.length=n1):mapX (fT ft) (d+1) (.mk k0 n0 t0 m0 ks cls)=.mk k0 n0 (ft k0 t0 m0 n1) m0 (ks.map (mapX (fT ft) d)) (cls.map (mapC (fT ft) d)):=by
 show fT ft (.mk k0 n0 t0 m0 (ks.map (mapX (fT ft) d)) (cls.map fun c=>(c.1.map (mapX (fT ft) d),c.2.map (mapX (fT ft) d))))=_;unfold fT;simp only [Ex.kind,Ex.n,Ex.text,Ex.mod,Ex.kids,Ex.clauses,List.length_map,hl]
 rfl
theorem offB_set {V u:World} {ob j N:Nat} (h:OffB ob N V u) (v:Value):OffB ob N V (u.setCell ⟨ob,j,none⟩ v) :=
 ⟨(by simp [World.setCell]:(u.setCell ⟨ob,j,none⟩ v).os=u.os).trans h.os,(by simp [World.setCell]:(u.setCell ⟨ob,j,none⟩ v).tape=u.tape).trans h.tape,(by simp [World.setCell]:(u.setCell ⟨ob,j,none⟩ v).output=u.output).trans h.output,Nat.le_trans h.size (by simp [World.setCell]),fun a h1 h2=>(Below.heap_setCell _ _ _ _ h2).trans (h.block a h1 h2)⟩
theorem exp_made2 {w wr W7:World} {d N B b:Nat} {k0 n0:Int} {tx m0:ByteArray} {v4 v5:Value} {ks':List Ex} {cls':List Cl} {fp fq:List Nat} (hok:okI k0∧okI n0∧okS tx∧okS m0) (hwN:w.heap.size≤N) (hB:Bz w wr)
 (h4:ORows wr 76 6 (OEx wr d) v4 ks' fp) (n4:fp.Nodup) (r4:∀ a ∈ fp,N≤a∧a<B) (h5:ORows wr 46 2 (OCl wr (OEx wr d)) v5 cls' fq) (n5:fq.Nodup) (r5:∀ a ∈ fq,B≤a∧a<wr.heap.size) (hNB:N≤B) (hBw:B≤wr.heap.size)
 (hbN:w.heap.size≤b∧b<N) (ho:∀ a,a≠b→W7.heap[a]?=wr.heap[a]?) (h0:Below 0 wr W7) :
 ResO w (fun w' u fp=>∃ cs',u=.agg cs'.toArray∧OEx w' (d+1) cs' (.mk k0 n0 tx m0 ks' cls') fp) (.returned (.agg #[.int .i64 k0,.int .i64 n0,.string tx,.string m0,v4,v5])) W7:=by
 have s2:=h0.size;have k4:KeepOn fp wr W7:=fun a ha=>ho a (by have:=r4 a ha;omega);have k5:KeepOn fq wr W7:=fun a ha=>ho a (by have:=r5 a ha;omega);refine ⟨_,fp ++ fq,rfl,⟨[.int .i64 k0,.int .i64 n0,.string tx,.string m0,v4,v5],rfl,?_⟩,?_,fun a ha=>?_,⟨h0.os.trans hB.os,h0.tape.trans hB.tape,h0.output.trans hB.output,Nat.le_trans hB.size s2,fun a ha=>(ho a (by omega)).trans (hB.block a ha)⟩⟩
 · exact ⟨_,_,fp,fq,rfl,rfl,hok.1,hok.2.1,hok.2.2.1,hok.2.2.2,h4.keep k4 (fun cs x f _ hs h=>h.keep (k4.sub hs)),h5.keep k5 (fun cs x f _ hs h=>OCls.keep h (k5.sub hs))⟩
 · rw [List.nodup_append]
   refine ⟨n4,n5,fun a ha b hb=>?_⟩;have h:=r4 a ha;have h':=r5 b hb;omega
 · rcases List.mem_append.1 ha with ha | ha
   · have h:=r4 a ha;omega
   · have h:=r5 a ha;omega
theorem exp_of {fv tv:Value} {fs ts:List ByteArray} {d:Nat} (hE:ExpsS fv tv fs ts d) (hCl:ClS fv tv fs ts d):ExpS fv tv fs ts (d+1):=by
 intro w cs x hc hr hw;have HC:=hid hc;obtain ⟨kv,cv,rfl,o1,o2,o3,o4,hk,hcl⟩:=hr;obtain ⟨k0,n0,t0,m0,ks,cls⟩:=x;simp only [Ex.kind,Ex.n,Ex.text,Ex.mod,Ex.kids,Ex.clauses] at *;have hw':wtEx (d+1) (.mk k0 n0 t0 m0 ks cls)=t0.size+m0.size+wtS (wtEx d) ks+wtS (wtCl (wtEx d)) cls:=rfl;have HOK:Hid (okI k0∧okI n0∧okS t0∧okS m0):=⟨o1,o2,o3,o4⟩;have HKS:=hid hk;have HCS:=hid hcl;have HW1:Hid (wtS (wtEx d) ks≤16777216):=(by show _≤_;omega);have HW2:Hid (wtS (wtCl (wtEx d)) cls≤16777216):=(by show _≤_;omega);obtain ⟨p1,c1,rfl,-⟩:=hk;obtain ⟨p2,c2,rfl,-⟩:=hcl;obtain ⟨pf,nf,qf,rfl,hnf,hfs⟩:=strR_at hc.1;obtain ⟨pt,nt,qt,rfl,hnt,hts⟩:=strR_at hc.2.1;have HFS:Hid (nf=fs.length∧nt=ts.length∧fs.length≤ts.length):=⟨hnf,hnt,hc.2.2⟩;have HF:=hid hfs;have HT:=hid hts;have HOT:=hid hc.ok;generalize hn1:ks.length=n1 at *;generalize hn2:cls.length=n2 at *;have HL1:=hid hn1;have HL2:=hid hn2;obtain ⟨W2,hW2⟩:∃ W2,W2=(w.alloc (.cells #[.int .i64 k0,.int .i64 n0,.string t0,.string m0,.slice p1 n1 c1,.slice p2 n2 c2] 76)).alloc (.cells #[.int .i64 0,.int .i64 0,.string ⟨#[]⟩,.string ⟨#[]⟩,.slice none 0 0,.slice none 0 0] 76):=⟨_,rfl⟩;have HW2':=hid hW2;have B2:Hid (Bz w W2):=(by show Below _ _ _;rw [hW2];exact ((sqN _ _)).alloc (by simp) _);have e2:Hid (Blk W2 w.heap.size #[.int .i64 k0,.int .i64 n0,.string t0,.string m0,.slice p1 n1 c1,.slice p2 n2 c2] 76):=(by show Blk _ _ _ _;rw [hW2];exact Blk.new.alloc)
 have r2:Hid (Blk W2 (w.heap.size+1) #[.int .i64 0,.int .i64 0,.string ⟨#[]⟩,.string ⟨#[]⟩,.slice none 0 0,.slice none 0 0] 76):=by
  have:=Blk.new (w:=w.alloc (.cells #[.int .i64 k0,.int .i64 n0,.string t0,.string m0,.slice p1 n1 c1,.slice p2 n2 c2] 76)) (cs:=#[.int .i64 0,.int .i64 0,.string ⟨#[]⟩,.string ⟨#[]⟩,.slice none 0 0,.slice none 0 0]) (t:=76);rw [alloc_hs] at this;show Blk _ _ _ _;rw [hW2];exact this
 have S2:Hid (W2.heap.size=w.heap.size+2):=(by show _=_;rw [hW2,alloc_hs,alloc_hs]);obtain ⟨V3,hV3⟩:∃ V3,V3=(W2.alloc (.cells #[.int .i64 0,.int .i64 0,.string ⟨#[]⟩,.string ⟨#[]⟩,.slice none 0 0,.slice none 0 0] 76)).drew:=⟨_,rfl⟩;have HV3:=hid hV3;have K3:Hid (Bz W2 V3):=(by show Below _ _ _;rw [hV3];exact ((sqN _ _)).drew);have S3:Hid (V3.heap.size=w.heap.size+3):=(by show _=_;rw [hV3];show (W2.alloc _).heap.size=_;rw [alloc_hs,S2.out])
 have ob3:Hid (Blk V3 W2.heap.size #[.int .i64 0,.int .i64 0,.string ⟨#[]⟩,.string ⟨#[]⟩,.slice none 0 0,.slice none 0 0] 76):=by
  have:=Blk.new (w:=W2) (cs:=#[.int .i64 0,.int .i64 0,.string ⟨#[]⟩,.string ⟨#[]⟩,.slice none 0 0,.slice none 0 0]) (t:=76);show Blk _ _ _ _;rw [hV3];exact this
 have PA:Hid (∀ w',Bz w w'→Calls prog 65 #[.slice p1 n1 c1,.slice pf nf qf,.slice pt nt qt] w' (ResO w' fun w' u fp=>ORows w' 76 6 (OEx w' d) u (ks.map (mapX (fT (ftL fs ts)) d)) fp)):=fun w' hb=>hE w' _ ks (HC.out.next hb) (HKS.out.mono (sqO hb) (fun _ h=>h) (fun _ _ _ h=>h.mono (sqO hb) (fun _ h=>h))) HW1.out
 have CELLS:Hid (∀ w',Below (w.heap.size+1) W2 w'→w'.cell? ⟨w.heap.size,0,none⟩=some (.int .i64 k0)∧w'.cell? ⟨w.heap.size,1,none⟩=some (.int .i64 n0)∧w'.cell? ⟨w.heap.size,2,none⟩=some (.string t0)∧w'.cell? ⟨w.heap.size,3,none⟩=some (.string m0)∧w'.cell? ⟨w.heap.size,4,none⟩=some (.slice p1 n1 c1)∧w'.cell? ⟨w.heap.size,5,none⟩=some (.slice p2 n2 c2)):=fun w' h=>by
  have e:=e2.out.below h (by omega);exact ⟨e.cell 0 _ rfl,e.cell 1 _ rfl,e.cell 2 _ rfl,e.cell 3 _ rfl,e.cell 4 _ rfl,e.cell 5 _ rfl⟩
 have hs2:w.heap.size+1≤W2.heap.size:=(by rw [S2.out];omega);have CELLSA:Hid (∀ w0,Below (w.heap.size+1) W2 w0→∀ a b c e f g,((((((w0.setCell ⟨W2.heap.size,0,none⟩ a).setCell ⟨W2.heap.size,1,none⟩ b).setCell ⟨W2.heap.size,2,none⟩ c).setCell ⟨W2.heap.size,3,none⟩ e).setCell ⟨W2.heap.size,4,none⟩ f).setCell ⟨W2.heap.size,5,none⟩ g).cell? ⟨w.heap.size,0,none⟩=some (.int .i64 k0)∧((((((w0.setCell ⟨W2.heap.size,0,none⟩ a).setCell ⟨W2.heap.size,1,none⟩ b).setCell ⟨W2.heap.size,2,none⟩ c).setCell ⟨W2.heap.size,3,none⟩ e).setCell ⟨W2.heap.size,4,none⟩ f).setCell ⟨W2.heap.size,5,none⟩ g).cell? ⟨w.heap.size,1,none⟩=some (.int .i64 n0)∧((((((w0.setCell ⟨W2.heap.size,0,none⟩ a).setCell ⟨W2.heap.size,1,none⟩ b).setCell ⟨W2.heap.size,2,none⟩ c).setCell ⟨W2.heap.size,3,none⟩ e).setCell ⟨W2.heap.size,4,none⟩ f).setCell ⟨W2.heap.size,5,none⟩ g).cell? ⟨w.heap.size,2,none⟩=some (.string t0)∧((((((w0.setCell ⟨W2.heap.size,0,none⟩ a).setCell ⟨W2.heap.size,1,none⟩ b).setCell ⟨W2.heap.size,2,none⟩ c).setCell ⟨W2.heap.size,3,none⟩ e).setCell ⟨W2.heap.size,4,none⟩ f).setCell ⟨W2.heap.size,5,none⟩ g).cell? ⟨w.heap.size,3,none⟩=some (.string m0)∧((((((w0.setCell ⟨W2.heap.size,0,none⟩ a).setCell ⟨W2.heap.size,1,none⟩ b).setCell ⟨W2.heap.size,2,none⟩ c).setCell ⟨W2.heap.size,3,none⟩ e).setCell ⟨W2.heap.size,4,none⟩ f).setCell ⟨W2.heap.size,5,none⟩ g).cell? ⟨w.heap.size,4,none⟩=some (.slice p1 n1 c1)∧((((((w0.setCell ⟨W2.heap.size,0,none⟩ a).setCell ⟨W2.heap.size,1,none⟩ b).setCell ⟨W2.heap.size,2,none⟩ c).setCell ⟨W2.heap.size,3,none⟩ e).setCell ⟨W2.heap.size,4,none⟩ f).setCell ⟨W2.heap.size,5,none⟩ g).cell? ⟨w.heap.size,5,none⟩=some (.slice p2 n2 c2)):=fun w0 h a b c e f g=>CELLS.out _ ((((((h.setCell (p:=⟨W2.heap.size,0,none⟩) hs2 _).setCell (p:=⟨W2.heap.size,1,none⟩) hs2 _).setCell (p:=⟨W2.heap.size,2,none⟩) hs2 _).setCell (p:=⟨W2.heap.size,3,none⟩) hs2 _).setCell (p:=⟨W2.heap.size,4,none⟩) hs2 _).setCell (p:=⟨W2.heap.size,5,none⟩) hs2 _);have CELLSB:Hid (∀ w0,Below (w.heap.size+1) W2 w0→∀ o,(w0.alloc o).cell? ⟨w.heap.size,0,none⟩=some (.int .i64 k0)∧(w0.alloc o).cell? ⟨w.heap.size,1,none⟩=some (.int .i64 n0)∧(w0.alloc o).cell? ⟨w.heap.size,2,none⟩=some (.string t0)∧(w0.alloc o).cell? ⟨w.heap.size,3,none⟩=some (.string m0)∧(w0.alloc o).cell? ⟨w.heap.size,4,none⟩=some (.slice p1 n1 c1)∧(w0.alloc o).cell? ⟨w.heap.size,5,none⟩=some (.slice p2 n2 c2)):=fun w0 h o=>CELLS.out _ (h.alloc (by have:=h.size;have:=S2.out;omega) _);have CELLSD:Hid (∀ w0,Below (w.heap.size+1) W2 w0→∀ o,(w0.alloc o).drew.cell? ⟨w.heap.size,0,none⟩=some (.int .i64 k0)∧(w0.alloc o).drew.cell? ⟨w.heap.size,1,none⟩=some (.int .i64 n0)∧(w0.alloc o).drew.cell? ⟨w.heap.size,2,none⟩=some (.string t0)∧(w0.alloc o).drew.cell? ⟨w.heap.size,3,none⟩=some (.string m0)∧(w0.alloc o).drew.cell? ⟨w.heap.size,4,none⟩=some (.slice p1 n1 c1)∧(w0.alloc o).drew.cell? ⟨w.heap.size,5,none⟩=some (.slice p2 n2 c2)):=fun w0 h o=>CELLS.out _ (h.alloc (by have:=h.size;have:=S2.out;omega) _).drew;obtain ⟨q0,q1,q2,q3,q4,q5⟩:=CELLS.out W2 (Below.refl _ _);clear hs2 hW2 hV3 hw hw' hn1 hn2 o1 o2 o3 o4 hc hnf hnt hfs hts;go_enter func105,ntmps105;go_wp2_with fail;rw [← HW2'.out]
 go_region_held3 (fun w'=>w'.cell? ⟨w.heap.size,0,none⟩=some (.int .i64 k0)∧w'.cell? ⟨w.heap.size,1,none⟩=some (.int .i64 n0)∧w'.cell? ⟨w.heap.size,2,none⟩=some (.string t0)∧w'.cell? ⟨w.heap.size,3,none⟩=some (.string m0)∧w'.cell? ⟨w.heap.size,4,none⟩=some (.slice p1 n1 c1)∧w'.cell? ⟨w.heap.size,5,none⟩=some (.slice p2 n2 c2))
  (first | with_reducible exact CELLSA.out _ KA.out _ _ _ _ _ _ | with_reducible exact CELLSB.out _ KB.out _ | with_reducible exact CELLS.out _ KB.out | with_reducible exact CELLS.out _ KA.out | with_reducible exact CELLSD.out _ (Below.refl _ _) _ | with_reducible exact CELLS.out _ (Below.refl _ _).drew)
  (first
   | (go_at_call 65;rw [← HV3.out];refine (PA.out V3 (B2.out.trans (K3.out.mono B2.out.size))).mono ?_;rintro e w4 ⟨u4,fp,rfl,ho4,hnd4,hrg4,hb4⟩;obtain ⟨pu4,cu4,hu4,-⟩:=ho4.shape;rw [List.length_map,HL1.out] at hu4;subst hu4;have HO4:=hid ho4;have ND4:Hid (fp.Nodup∧∀ a ∈ fp,V3.heap.size≤a∧a<w4.heap.size):=⟨hnd4,hrg4⟩;have M4:Hid (Bz V3 w4):=hb4;have KA:Hid (Below (w.heap.size+1) W2 w4):=(K3.out.trans (M4.out.mono K3.out.size)).mono (by have h2:=S2.out;omega);have rr:=ob3.out.next M4.out;have HRR:=hid rr;have y0:=rr.cell 0 _ rfl;have g0:=rr.frozen 0;have y1:=rr.cell 1 _ rfl;have g1:=rr.frozen 1;have y2:=rr.cell 2 _ rfl;have g2:=rr.frozen 2;have y3:=rr.cell 3 _ rfl;have g3:=rr.frozen 3;have y4:=rr.cell 4 _ rfl;have g4:=rr.frozen 4;have y5:=rr.cell 5 _ rfl;have g5:=rr.frozen 5;clear rr ho4 hnd4 hrg4 hb4)
   | (go_at_call 65;refine (PA.out W2.drew B2.out.drew).mono ?_;rintro e w4 ⟨u4,fp,rfl,ho4,hnd4,hrg4,hb4⟩;obtain ⟨pu4,cu4,hu4,-⟩:=ho4.shape;rw [List.length_map,HL1.out] at hu4;subst hu4;have HO4:=hid ho4;have ND4:Hid (fp.Nodup∧∀ a ∈ fp,W2.heap.size≤a∧a<w4.heap.size):=⟨hnd4,hrg4⟩;have M4:Hid (Bz W2 w4):=below_undrew hb4;have KB:Hid (Below (w.heap.size+1) W2 w4):=M4.out.mono (by have h2:=S2.out;omega);clear ho4 hnd4 hrg4 hb4))
 all_goals
  go_split_ands;clear q0 q1 q2 q3 q4 q5
  first
  | (have hrr:=HRR
     have HM5:Hid (Mid w ((((((w4.setCell ⟨W2.heap.size,0,none⟩ (.int .i64 k0)).setCell ⟨W2.heap.size,1,none⟩ (.int .i64 n0)).setCell ⟨W2.heap.size,2,none⟩ (.string t0)).setCell ⟨W2.heap.size,3,none⟩ (.string m0)).setCell ⟨W2.heap.size,4,none⟩ (.slice pu4 n1 cu4)).setCell ⟨W2.heap.size,5,none⟩ (.slice none 0 0)) d #[.int .i64 k0,.int .i64 n0,.string t0,.string m0,.slice p1 n1 c1,.slice p2 n2 c2] #[.int .i64 k0,.int .i64 n0,.string t0,.string m0,.slice pu4 n1 cu4,.slice none 0 0] (ks.map (mapX (fT (ftL fs ts)) d)) fp W2.heap.size (.slice pu4 n1 cu4)):=by
      have mB:Mid w w4 d #[.int .i64 k0,.int .i64 n0,.string t0,.string m0,.slice p1 n1 c1,.slice p2 n2 c2] #[.int .i64 0,.int .i64 0,.string ⟨#[]⟩,.string ⟨#[]⟩,.slice none 0 0,.slice none 0 0] (ks.map (mapX (fT (ftL fs ts)) d)) fp W2.heap.size (.slice pu4 n1 cu4):=⟨B2.out.trans ((K3.out.trans (M4.out.mono K3.out.size)).mono B2.out.size),e2.out.next (K3.out.trans (M4.out.mono K3.out.size)),r2.out.next (K3.out.trans (M4.out.mono K3.out.size)),HRR.out,HO4.out,ND4.out.1,fun a ha=>by have:=ND4.out.2 a ha;have:=S3.out;have:=S2.out;omega,by have:=S2.out;omega⟩;refine mB.turn ?_ ((((((HRR.out.same rfl).same rfl).same rfl).same rfl).same rfl).same rfl);exact (((((off_set _).trans (off_set _)).trans (off_set _)).trans (off_set _)).trans (off_set _)).trans (off_set _)
     revert HM5;generalize ((((((w4.setCell ⟨W2.heap.size,0,none⟩ (.int .i64 k0)).setCell ⟨W2.heap.size,1,none⟩ (.int .i64 n0)).setCell ⟨W2.heap.size,2,none⟩ (.string t0)).setCell ⟨W2.heap.size,3,none⟩ (.string m0)).setCell ⟨W2.heap.size,4,none⟩ (.slice pu4 n1 cu4)).setCell ⟨W2.heap.size,5,none⟩ (.slice none 0 0))=W5;generalize W2.heap.size=ob;intro HM5
     clear y0 y1 y2 y3 y4 y5 g0 g1 g2 g3 g4 g5 hrr HRR)
  | (have HM5:Hid (Mid w (w4.alloc (.cells #[.int .i64 k0,.int .i64 n0,.string t0,.string m0,.slice pu4 n1 cu4,.slice none 0 0] 76)) d #[.int .i64 k0,.int .i64 n0,.string t0,.string m0,.slice p1 n1 c1,.slice p2 n2 c2] #[.int .i64 k0,.int .i64 n0,.string t0,.string m0,.slice pu4 n1 cu4,.slice none 0 0] (ks.map (mapX (fT (ftL fs ts)) d)) fp w4.heap.size (.slice pu4 n1 cu4)):=by
      have al:Bz w4 (w4.alloc (.cells #[.int .i64 k0,.int .i64 n0,.string t0,.string m0,.slice pu4 n1 cu4,.slice none 0 0] 76)):=(sqN _ _);have kk:KeepOn fp w4 (w4.alloc (.cells #[.int .i64 k0,.int .i64 n0,.string t0,.string m0,.slice pu4 n1 cu4,.slice none 0 0] 76)):=fun a ha=>al.block a (ND4.out.2 a ha).2;have s4:=M4.out.size;have s2:=S2.out;exact ⟨(B2.out.trans (M4.out.mono B2.out.size)).trans (al.mono (by omega)),(e2.out.next M4.out).next al,(r2.out.next M4.out).next al,Blk.new,HO4.out.keep kk (fun cs x f _ hs h=>h.keep (kk.sub hs)),ND4.out.1,fun a ha=>by have:=ND4.out.2 a ha;rw [alloc_hs];omega,by omega⟩
     revert HM5;generalize w4.alloc (.cells #[.int .i64 k0,.int .i64 n0,.string t0,.string m0,.slice pu4 n1 cu4,.slice none 0 0] 76)=W5;generalize w4.heap.size=ob
     intro HM5)
  clear HO4 ND4 M4 K3 S3 ob3 HV3 CELLS CELLSA CELLSB CELLSD PA;go_wp2_with fail
  go_loopw [8] (fun iv wr=>∃ (k:Nat),k≤nf∧iv=.int .i64 k∧Hid (k0≠2→k=0)∧Hid (Mid w wr d #[.int .i64 k0,.int .i64 n0,.string t0,.string m0,.slice p1 n1 c1,.slice p2 n2 c2] #[.int .i64 k0,.int .i64 n0,.string (renT fs ts t0 k),.string m0,.slice pu4 n1 cu4,.slice none 0 0] (ks.map (mapX (fT (ftL fs ts)) d)) fp ob (.slice pu4 n1 cu4))) (fun iv _=>nf - (intOf iv).toNat)
  case atStart=>exact ⟨0,Nat.zero_le _,rfl,fun _=>rfl,HM5.out⟩
  case round =>
   obtain ⟨k,hk,rfl,HZ,HM⟩:=hrel;have b0:=HM.out.box.cell 0 _ rfl;have b2:=HM.out.box.cell 2 _ rfl;have b5:=HM.out.box.cell 5 _ rfl;have hk0:=sqI k;have hnb:nf≤9223372036854775807:=(by have h1:=HFS.out;have h2:=HC.out.1;obtain ⟨_,_,h3,h4,h5,-⟩:=h2;simp only [Value.slice.injEq] at h3;unfold maxLen at h5;omega);have hcase:(k<nf∧k0=2)∨(k<nf∧k0≠2)∨¬ k<nf:=(by omega)
   rcases hcase with ⟨hlt,hk2⟩ | ⟨hlt,hk2⟩ | hlt
   · subst hk2
     have hki:(k:Int)<(nf:Int):=(by omega);obtain ⟨f,hf⟩:∃ f,fs[k]?=some f:=⟨fs[k]'(by rw [← HFS.out.1];exact hlt),List.getElem?_eq_getElem _⟩;obtain ⟨s,hs⟩:∃ s,ts[k]?=some s:=⟨ts[k]'(by have:=HFS.out;omega),List.getElem?_eq_getElem _⟩;obtain ⟨gf,of,rfl,hgf,cf⟩:=HF.out k f hf;obtain ⟨gt,ot,rfl,hgt,ct⟩:=HT.out k s hs;rw [← HM.out.bel.cell (p:=⟨gf,_,none⟩) hgf] at cf;rw [← HM.out.bel.cell (p:=⟨gt,_,none⟩) hgt] at ct;have hkt:(k:Int)<(nt:Int):=(by have:=HFS.out;omega)
     cases hq:(f.toList == t0.toList) with
     | true =>
      have HS:Hid (renT fs ts t0 (k+1)=s):=renT_hit hf hs hq;have o2:=HM.out.out.cell 2 _ rfl;have z2:=HM.out.out.frozen 2;clear hf hs;go_wp2_with fail
      go_region_held3 (fun w'=>w'.cell? ⟨gf,of+k,none⟩=some (.string f)∧w'.cell? ⟨w.heap.size,2,none⟩=some (.string t0)) (exact ⟨cf,b2⟩) (fail)
      go_split_ands;have cf':wr.drew.cell? ⟨gf,of+k,none⟩=some (.string f):=cf;have ct':wr.drew.cell? ⟨gt,ot+k,none⟩=some (.string s):=ct;have o2':wr.drew.cell? ⟨ob,2,none⟩=some (.string (renT fs ts t0 k)):=o2;have z2':wr.drew.frozen? ⟨ob,2,none⟩=false:=z2;go_wp2_with fail;have MN:=HM.out.turn (V':=(wr.setCell ⟨ob,2,none⟩ (.string s)).drew) ⟨rfl,rfl,rfl,(off_set (V:=wr) (ob:=ob) (j:=2) (.string s)).size,fun a h1 h2=>(off_set (V:=wr) (ob:=ob) (j:=2) (.string s)).block a h1 h2⟩ (HM.out.out.same (j:=2) (v:=.string s) rfl);exact ⟨⟨k+1,by omega,by go_num,fun h=>absurd rfl h,by rw [HS.out];exact MN⟩,by simp [intOf];omega⟩
     | false =>
      have HS:Hid (renT fs ts t0 (k+1)=renT fs ts t0 k):=renT_miss hf hq;clear hf hs;go_wp2_with fail
      go_region_held3 (fun w'=>w'.cell? ⟨gf,of+k,none⟩=some (.string f)∧w'.cell? ⟨w.heap.size,2,none⟩=some (.string t0)) (exact ⟨cf,b2⟩) (fail)
      go_split_ands;go_wp2_with fail;have MN:=HM.out.turn (V':=wr.drew) ⟨rfl,rfl,rfl,Nat.le_refl _,fun _ _ _=>rfl⟩ HM.out.out;exact ⟨⟨k+1,by omega,by go_num,fun h=>absurd rfl h,by rw [HS.out];exact MN⟩,by simp [intOf];omega⟩
   all_goals
    have HMX:Hid (Mid w wr d #[.int .i64 k0,.int .i64 n0,.string t0,.string m0,.slice p1 n1 c1,.slice p2 n2 c2] #[.int .i64 k0,.int .i64 n0,.string (ftL fs ts k0 t0 m0 n1),.string m0,.slice pu4 n1 cu4,.slice none 0 0] (ks.map (mapX (fT (ftL fs ts)) d)) fp ob (.slice pu4 n1 cu4)):=by
     have e:ftL fs ts k0 t0 m0 n1=renT fs ts t0 k:=by
      by_cases hk2:k0=2
      · rw [show k=fs.length from by have:=HFS.out.1;omega,hk2];simp [ftL]
      · unfold ftL;rw [if_neg hk2,HZ.out hk2];rfl
     rw [e];exact HM.out
    clear HM b2 b5;have HTX:Hid (ftL fs ts k0 t0 m0 n1=ftL fs ts k0 t0 m0 n1):=rfl;generalize htx:ftL fs ts k0 t0 m0 n1=tx at HMX;have HTY:=hid htx;clear htx HTX
    first
    | (have hki:(k:Int)<(nf:Int):=by omega
       have hk2b:(k0 == 2)=false:=by simpa using hk2
       go_wp2_with fail)
    | (have hki:¬ (k:Int)<(nf:Int):=by omega
       go_wp2_with fail)
    clear b0;obtain ⟨V0,rfl⟩:∃ V0,V0=wr:=⟨wr,rfl⟩;have hobl:ob<V0.heap.size:=HMX.out.out.lt
    go_loopw [9] (fun iv wr=>∃ (i:Nat) (cv:Value),i≤n2∧iv=.int .i64 i∧Hid (OffB ob V0.heap.size V0 wr)∧Hid (Blk wr ob #[.int .i64 k0,.int .i64 n0,.string tx,.string m0,.slice pu4 n1 cu4,cv] 76)∧Hid (GrowO 46 2 (fun w=>OCl w (OEx w d)) wr V0.heap.size wr.heap.size cv ((cls.take i).map (mapC (fT (ftL fs ts)) d)))) (fun iv _=>n2 - (intOf iv).toNat)
    case atStart=>exact ⟨0,.slice none 0 0,Nat.zero_le _,rfl,OffB.refl _ _ _,HMX.out.out,GrowO.nil (sqR _)⟩
    case round =>
     obtain ⟨i,cv,hi,rfl,HO,HR,HG⟩:=hrel;have bx:=HO.out.blk HMX.out.box HMX.out.box.lt (by have:=HMX.out.obl;omega);have e5:=bx.cell 5 _ rfl;have hi0:=sqI i;have HBW:=hid (HMX.out.bel.trans (HO.out.below HMX.out.bel.size (by have:=HMX.out.obl;omega)));have hn2b:n2≤16777216:=(by have h1:=HW2.out;unfold wtS at h1;have h2:=HL2.out;omega);by_cases hlt2:i<n2
     · obtain ⟨c,hck⟩:∃ c,cls[i]?=some c:=⟨cls[i]'(by rw [HL2.out];exact hlt2),List.getElem?_eq_getElem _⟩
       obtain ⟨pz,cz,hz,-,-,hzx⟩:=HCS.out;obtain ⟨g,off,hpz,-,hgl,hat⟩:=hzx (sqE hck);simp only [Value.slice.injEq] at hz;obtain ⟨rfl,-,rfl⟩:=hz;subst hpz;obtain ⟨cs,hc2,hcs,hcl⟩:=hat i c hck;have HCLR:=hid (hcl.mono (sqO HBW.out.drew) (fun _ h=>h) (fun _ _ h=>h.mono (sqO HBW.out.drew) (fun _ h=>h)));obtain ⟨r1,m1,s1,r2',m2,s2,rfl⟩:=HCl.shapeR hcl;obtain ⟨a0,a1⟩:=sqC2 hcs (by omega);clear hcs hat hzx;rw [← HBW.out.cell (p:=⟨g,_,none⟩) hgl] at a0 a1;simp at a0 a1;have hli:(i:Int)<(n2:Int):=(by omega)
       have HWX:Hid (wtCl (wtEx d) c≤16777216):=by
        show _≤_;have h1:=HW2.out;have h2:=sum_take_succ (wtCl (wtEx d)) cls i c hck;have h3:=sum_take_le (wtCl (wtEx d)) cls (i+1);unfold wtS at h1;omega
       have PC:=hid (hCl wr.drew _ c (HC.out.next HBW.out.drew) HCLR.out HWX.out);have HMS:Hid ((cls.take (i+1)).map (mapC (fT (ftL fs ts)) d)=(cls.take i).map (mapC (fT (ftL fs ts)) d) ++ [mapC (fT (ftL fs ts)) d c]):=take_map_succ _ hck;have hll:((cls.take i).map (mapC (fT (ftL fs ts)) d)).length≤100000000:=(by rw [List.length_map,List.length_take];omega);generalize (cls.take i).map (mapC (fT (ftL fs ts)) d)=acc at *;have xo5:=HR.out.cell 5 _ rfl;have zo5:=HR.out.frozen 5;have hgw:g<wr.heap.size:=Nat.lt_of_lt_of_le hgl HBW.out.size;have how:ob<wr.heap.size:=HR.out.lt;clear hcl hc2 bx;go_wp2_with fail
       go_region_law
        (first
         | (refine step_push (keepsC d) 57 46 2 48 _ (by rfl) _ _ (by rfl) underlying57 infoC rfl (by decide) (by decide) V0.heap.size wr.heap.size cv acc (by rfl) [.slice x1 y1 z1,.slice x2 y2 z2] _ (by rfl) (by rfl) (mapC (fT (ftL fs ts)) d c) fq G1.out X1.out.1 X1.out.2.1 X1.out.2.2 rfl oneC hll ?_;intro g6 cap6 w6 hg6 hb6;have G6:=hid hg6;have B6:=hid hb6;have v5:w6.cell? ⟨ob,5,none⟩=some cv:=(hb6.cell (p:=⟨ob,5,none⟩) hobl).trans (cell_next ((sqN _ _)) k5);have t5:w6.frozen? ⟨ob,5,none⟩=false:=(World.frozen?_of_block (hb6.block ob hobl)).trans (frozen_nx ((sqN _ _)) k5 l5);clear hg6 hb6)
         | (go_simp;go_at_call 24;refine (PC.out).mono ?_;rintro e w1 ⟨u,fq,rfl,⟨cs',rfl,hx1⟩,hnd,hrg,hb⟩;obtain ⟨x1,y1,z1,x2,y2,z2,hsh⟩:=OCls.shape hx1;subst hsh;have K1:=hid (below_undrew hb);have X1:Hid (OCl w1 (OEx w1 d) [.slice x1 y1 z1,.slice x2 y2 z2] (mapC (fT (ftL fs ts)) d c) fq∧fq.Nodup∧∀ a ∈ fq,wr.heap.size≤a∧a<w1.heap.size):=⟨hx1,hnd,hrg⟩;have G1:=hid (HG.out.next (keepsC d) K1.out);have k5:=cell_next K1.out xo5;have l5:=frozen_nx K1.out xo5 zo5;have j5:(w1.alloc (.cells #[.slice x1 y1 z1,.slice x2 y2 z2] 46)).cell? ⟨ob,5,none⟩=some cv:=cell_next ((sqN _ _)) k5;clear hx1 hnd hrg hb;dsimp only))
       all_goals
        obtain ⟨W7,hW7⟩:∃ W7,W7=w6.setCell ⟨ob,5,none⟩ (.slice (some ⟨g6,0,none⟩) (acc.length+1) cap6):=⟨_,rfl⟩;have s7:W7.heap.size=w6.heap.size:=(by rw [hW7];simp [World.setCell]);have O6:OffB ob V0.heap.size V0 w6:=HO.out.trans ((OffB.of_below (K1.out.mono HO.out.size)).trans ((OffB.of_below ((Below.refl _ _).alloc (by have:=K1.out.size;have:=HO.out.size;omega) _)).trans (OffB.of_below B6.out)));have O7:Hid (OffB ob V0.heap.size V0 W7):=(by show OffB _ _ _ _;rw [hW7];exact offB_set O6 _)
        have R7:Hid (Blk W7 ob #[.int .i64 k0,.int .i64 n0,.string tx,.string m0,.slice pu4 n1 cu4,.slice (some ⟨g6,0,none⟩) (acc.length+1) cap6] 76):=by
         have h1:Blk w6 ob #[.int .i64 k0,.int .i64 n0,.string tx,.string m0,.slice pu4 n1 cu4,cv] 76:=(B6.out.block ob hobl).trans ((HR.out.next K1.out).alloc);show Blk _ _ _ _;rw [hW7];exact h1.same rfl
        have G7:Hid (GrowO 46 2 (fun w=>OCl w (OEx w d)) W7 V0.heap.size W7.heap.size (.slice (some ⟨g6,0,none⟩) (acc.length+1) cap6) ((cls.take (i+1)).map (mapC (fT (ftL fs ts)) d))):=by
         show GrowO _ _ _ _ _ _ _ _;rw [HMS.out,s7];rw [hW7];exact G6.out.off (keepsC d) (off_set _) hobl
        rw [← hW7];clear v5 t5 k5 l5 j5 xo5 zo5 a0 a1 e5 hW7 s7 O6;go_wp2_with fail;exact ⟨⟨i+1,_,by omega,by go_num,O7.out,R7.out,G7.out⟩,by simp [intOf];omega⟩
     · obtain rfl:i=n2:=by omega
       obtain ⟨fq,r1,r2'',r3,-,-⟩:=HG.out.done;rw [sqT HL2.out] at r1;have hsh:=HG.out.shape;rw [List.length_map,List.length_take,HL2.out,Nat.min_self] at hsh;obtain ⟨pc,cc,hcv,-⟩:=hsh;subst hcv;have HQ:Hid (ORows wr 46 2 (OCl wr (OEx wr d)) (.slice pc i cc) (cls.map (mapC (fT (ftL fs ts)) d)) fq∧fq.Nodup∧∀ a ∈ fq,V0.heap.size≤a∧a<wr.heap.size):=⟨r1,r2'',r3⟩;have rs:=hid (HO.out.blk HMX.out.res HMX.out.res.lt (by have:=HMX.out.obl;omega));obtain ⟨oo0,oo1,oo2,oo3,oo4,oo5⟩:=sqB6 HR.out;have xx0:=rs.out.cell 0 _ rfl;have ff0:=rs.out.frozen 0;have xx1:=rs.out.cell 1 _ rfl;have ff1:=rs.out.frozen 1;have xx2:=rs.out.cell 2 _ rfl;have ff2:=rs.out.frozen 2;have xx3:=rs.out.cell 3 _ rfl;have ff3:=rs.out.frozen 3;have xx4:=rs.out.cell 4 _ rfl;have ff4:=rs.out.frozen 4;have xx5:=rs.out.cell 5 _ rfl;have ff5:=rs.out.frozen 5;have hwl:w.heap.size+1≠ob:=(by have:=HMX.out.obl;omega);clear r1 r2'' r3 bx;go_wp2_with fail;obtain ⟨W8,hW8⟩:∃ W8,W8=(((((wr.setCell ⟨w.heap.size+1,0,none⟩ (.int .i64 k0)).setCell ⟨w.heap.size+1,1,none⟩ (.int .i64 n0)).setCell ⟨w.heap.size+1,2,none⟩ (.string tx)).setCell ⟨w.heap.size+1,3,none⟩ (.string m0)).setCell ⟨w.heap.size+1,4,none⟩ (.slice pu4 n1 cu4)).setCell ⟨w.heap.size+1,5,none⟩ (.slice pc i cc):=⟨_,rfl⟩;have bz:Blk W8 (w.heap.size+1) #[.int .i64 k0,.int .i64 n0,.string tx,.string m0,.slice pu4 n1 cu4,.slice pc i cc] 76:=(by rw [hW8];exact (((((rs.out.same rfl).same rfl).same rfl).same rfl).same rfl).same rfl);obtain ⟨j0,j1,j2,j3,j4,j5⟩:=sqB6 bz;have kk:KeepOn fp V0 wr:=fun a ha=>HO.out.block a (HMX.out.rg a ha).2.1 (HMX.out.rg a ha).2.2;have otx:okS tx:=(by rw [← HTY.out];exact ftL_ok HOT.out HOK.out.2.2.1);have fin:=exp_made2 (w:=w) (wr:=wr) (W7:=W8) (N:=w.heap.size+2) (B:=V0.heap.size) (b:=w.heap.size+1) (k0:=k0) (n0:=n0) (tx:=tx) (m0:=m0) ⟨HOK.out.1,HOK.out.2.1,otx,HOK.out.2.2.2⟩ (by omega) HBW.out (HMX.out.kids.keep kk (fun cs x f _ hs h=>h.keep (kk.sub hs))) HMX.out.nd (fun a ha=>⟨(HMX.out.rg a ha).1,(HMX.out.rg a ha).2.1⟩) HQ.out.1 HQ.out.2.1 HQ.out.2.2 (by have:=HMX.out.obl;omega) HO.out.size (by omega) (fun a ha=>by rw [hW8,Below.heap_setCell _ _ _ _ ha,Below.heap_setCell _ _ _ _ ha,Below.heap_setCell _ _ _ _ ha,Below.heap_setCell _ _ _ _ ha,Below.heap_setCell _ _ _ _ ha,Below.heap_setCell _ _ _ _ ha]) (by rw [hW8];exact ((((((Below.refl 0 wr).setCell (Nat.zero_le _) _).setCell (Nat.zero_le _) _).setCell (Nat.zero_le _) _).setCell (Nat.zero_le _) _).setCell (Nat.zero_le _) _).setCell (Nat.zero_le _) _);have em:=mapX_mk (ft:=ftL fs ts) (d:=d) (k0:=k0) (n0:=n0) (t0:=t0) (m0:=m0) (cls:=cls) HL1.out;rw [HTY.out] at em;rw [← em] at fin;rw [hW8] at fin j0 j1 j2 j3 j4 j5;exact bodyPost_ret (v:=.agg #[.int .i64 k0,.int .i64 n0,.string tx,.string m0,.slice pu4 n1 cu4,.slice pc i cc]) (by simp [results,results105,go_sem,j0,j1,j2,j3,j4,j5]) rfl fin
theorem all {fv tv:Value} {fs ts:List ByteArray}:∀ d,ExpS fv tv fs ts d
 | 0=>fun w cs x _ h _=>h.elim
 | d+1=>exp_of (exps_of (all d)) (clause_of (exps_of (all d)))
theorem clause {fv tv:Value} {fs ts:List ByteArray} (d:Nat):ClS fv tv fs ts d:=clause_of (exps_of (all d))
end CpV
end Go.Proofs.YtdhlonogmnkemaaGreatDoor
