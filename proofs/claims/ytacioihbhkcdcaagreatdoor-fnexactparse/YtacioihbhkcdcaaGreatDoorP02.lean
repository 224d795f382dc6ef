/-
  Tree ParseMath ParseMath2
-/
import Derived.Lib.LaidTab
import Derived.BigQuiet
import Derived.Test.YtacioihbhkcdcaaGreatDoorP00
set_option maxHeartbeats 16000000
set_option linter.unusedVariables false
set_option maxRecDepth 100000
namespace Go.Proofs.YtacioihbhkcdcaaGreatDoor
open Go.ChangeShapes Go.WideShapes Go.ChangeAt Go.RowKit
section
def Ze (S:Nat→Prop) (w w':World):Prop:=w.heap.size≤w'.heap.size∧∀ g,S g→g<w.heap.size→w'.heap[g]?=w.heap[g]?
theorem Ze.of_below {S:Nat→Prop} {w w':World} (h:Below w.heap.size w w'):Ze S w w':=⟨h.size,fun g _ hg=>h.block g hg⟩
theorem Ze.trans {S:Nat→Prop} {a b c:World} (h:Ze S a b) (k:Ze S b c):Ze S a c :=
  ⟨Nat.le_trans h.1 k.1,fun g hs hg=>(k.2 g hs (Nat.lt_of_lt_of_le hg h.1)).trans (h.2 g hs hg)⟩
def All (_:Nat):Prop:=True
theorem Zg (w:World) (o:Obj):(w.alloc o).heap.size=w.heap.size+1:=by simp
theorem ZaG (w:World) (cs:Array Value) (t:TypeId) (j:Nat) (v:Value) (h:cs[j]?=some v):(w.alloc (.cells cs t)).cell? ⟨w.heap.size,j,none⟩=some v:=by
  have e:(w.alloc (.cells cs t)).heap[w.heap.size]?=some (.cells cs t):=by
    show (w.heap.push _)[w.heap.size]?=_;simp
  unfold World.cell?;rw [e];simpa using h
structure Wd (C:World→Prop) where
  val:World
  ok:C val
theorem Zw {P:Program} (C:World→Prop) {id:Nat} {Q:Exit→Act→World→Prop} {a:Act} {w:World} {l:List Oper} (hm:P.follows .mixedOrders=true) (hB:Region.lexB .any l.toArray=true)
    (hC:C w.drew) (h:wpQuiet P l.toArray (fun w'=>∃ m:Wd C,w'=m.val) (fun a'=>∀ w',(∃ m:Wd C,w'=m.val)→Q .normal a' w') l a):(Code.region id l.toArray true).wp P Q a w :=
  wp_region_quiet (C:=fun w'=>∃ m:Wd C,w'=m.val) hm hB ⟨⟨_,hC⟩,rfl⟩ (by simpa using h)
def Rows {α:Type} (w:World) (S:Nat→Prop) (c:Nat) (R:List Value→α→Prop) (v:Value) (xs:List α):Prop :=
  ∃ p cap,v=.slice p xs.length cap∧xs.length≤cap∧cap≤maxLen ∧
    (xs≠[]→∃ g off,p=some ⟨g,off,none⟩∧S g∧g<w.heap.size∧∀ i x,xs[i]?=some x→∃ cs,cs.length=c∧(∀ j,j<c→w.cell? ⟨g,off+i * c+j,none⟩=cs[j]?)∧R cs x)
theorem Rows.mono {α:Type} {w w':World} {S S':Nat→Prop} {c:Nat} {R R':List Value→α→Prop} {v:Value} {xs:List α} (h:Rows w S c R v xs)
    (hs:Ze S w w') (hS:∀ g,S g→S' g) (hR:∀ cs x,x ∈ xs→R cs x→R' cs x):Rows w' S' c R' v xs:=by
  obtain ⟨p,cap,hv,h1,h2,h3⟩:=h;refine ⟨p,cap,hv,h1,h2,fun hne=>?_⟩;obtain ⟨g,off,hp,hg,hlt,hx⟩:=h3 hne;refine ⟨g,off,hp,hS g hg,Nat.lt_of_lt_of_le hlt hs.1,fun i x hi=>?_⟩;obtain ⟨cs,hl,hc,hr⟩:=hx i x hi;exact ⟨cs,hl,fun j hj=>(World.cell?_of_block (hs.2 g hg hlt)).trans (hc j hj),hR cs x (List.mem_of_getElem? hi) hr⟩
inductive Ex where
  | mk (kind n:Int) (text mod:ByteArray) (kids:List Ex) (clauses:List (List Ex × List Ex))
abbrev Cl:=List Ex × List Ex
def Ex.kind:Ex→Int | .mk k _ _ _ _ _=>k
def Ex.n:Ex→Int | .mk _ n _ _ _ _=>n
def Ex.text:Ex→ByteArray | .mk _ _ t _ _ _=>t
def Ex.mod:Ex→ByteArray | .mk _ _ _ m _ _=>m
def Ex.kids:Ex→List Ex | .mk _ _ _ _ k _=>k
def Ex.clauses:Ex→List Cl | .mk _ _ _ _ _ c=>c
structure Rf where
  name:ByteArray
  arity:Int
structure Fn' where
  name:ByteArray
  arity:Int
  clauses:List Cl
structure Md where
  name:ByteArray
  exports:List Rf
  funs:List Fn'
def okI (n:Int):Prop:=(Lit.int .i64 n).wf=true
def okS (s:ByteArray):Prop:=s.size≤maxLen
def HCl (w:World) (S:Nat→Prop) (R:List Value→Ex→Prop) (cs:List Value) (c:Cl):Prop :=
  ∃ p b,cs = [p,b]∧Rows w S 6 R p c.1∧Rows w S 6 R b c.2
def HEx (w:World) (S:Nat→Prop):Nat→List Value→Ex→Prop
  | 0,_,_=>False
  | d+1,cs,e=>∃ kv cv,cs = [.int .i64 e.kind,.int .i64 e.n,.string e.text,.string e.mod,kv,cv]∧okI e.kind∧okI e.n∧okS e.text∧okS e.mod ∧
      Rows w S 6 (HEx w S d) kv e.kids∧Rows w S 2 (HCl w S (HEx w S d)) cv e.clauses
def HRf (cs:List Value) (r:Rf):Prop:=cs = [.string r.name,.int .i64 r.arity]∧okS r.name∧okI r.arity
def HFn (w:World) (S:Nat→Prop) (d:Nat) (cs:List Value) (f:Fn'):Prop :=
  ∃ cv,cs = [.string f.name,.int .i64 f.arity,cv]∧okS f.name∧okI f.arity∧Rows w S 2 (HCl w S (HEx w S d)) cv f.clauses
def HMd (w:World) (S:Nat→Prop) (d:Nat) (cs:List Value) (m:Md):Prop :=
  ∃ ev fv,cs = [.string m.name,ev,fv]∧okS m.name∧Rows w S 2 HRf ev m.exports∧Rows w S 3 (HFn w S d) fv m.funs
theorem HCl.mono {w w':World} {S S':Nat→Prop} {R R':List Value→Ex→Prop} {cs:List Value} {c:Cl} (h:HCl w S R cs c) (hs:Ze S w w') (hS:∀ g,S g→S' g)
    (hR:∀ cs x,R cs x→R' cs x):HCl w' S' R' cs c:=by
  obtain ⟨p,b,rfl,h1,h2⟩:=h;exact ⟨p,b,rfl,h1.mono hs hS (fun cs x _=>hR cs x),h2.mono hs hS (fun cs x _=>hR cs x)⟩
theorem HEx.mono {w w':World} {S S':Nat→Prop} (hs:Ze S w w') (hS:∀ g,S g→S' g):∀ {d:Nat} {cs:List Value} {e:Ex},HEx w S d cs e→HEx w' S' d cs e
  | 0,_,_,h=>h.elim
  | d+1,cs,e,h=>by
    obtain ⟨kv,cv,rfl,h1,h2,h3,h4,hk,hc⟩:=h;exact ⟨kv,cv,rfl,h1,h2,h3,h4,hk.mono hs hS (fun _ _ _=>HEx.mono hs hS),hc.mono hs hS (fun _ _ _ h=>h.mono hs hS (fun _ _=>HEx.mono hs hS))⟩
theorem HFn.mono {w w':World} {S S':Nat→Prop} (hs:Ze S w w') (hS:∀ g,S g→S' g) {d:Nat} {cs:List Value} {f:Fn'} (h:HFn w S d cs f):HFn w' S' d cs f:=by
  obtain ⟨cv,rfl,h1,h2,hc⟩:=h;exact ⟨cv,rfl,h1,h2,hc.mono hs hS (fun _ _ _ h=>h.mono hs hS (fun _ _=>HEx.mono hs hS))⟩
/-! What the statement's reader reads. -/
section
variable {H:Type} {enc:TypeId × Value→H} {P:Program} {w:World} {base:Nat} {sp:Nat→Bool} {held:Bool}
theorem pick {α β:Type} {p:α→β→Prop}:∀ {l:List α},(∀ a ∈ l,∃ b,p a b)→∃ bs:List β,bs.length=l.length∧∀ (i:Nat) b,bs[i]?=some b→∃ a,l[i]?=some a∧p a b
  | [],_=>⟨[],rfl,fun i b h=>by simp at h⟩
  | a :: l,h=>by
    obtain ⟨b,hb⟩:=h a (by simp);obtain ⟨bs,hl,hbs⟩:=pick (l:=l) fun a ha=>h a (by simp [ha]);refine ⟨b :: bs,by simp [hl],fun i b' hi=>?_⟩
    cases i with
    | zero=>simp at hi;subst hi;exact ⟨a,by simp,hb⟩
    | succ i=>simp at hi;obtain ⟨a',ha,hp⟩:=hbs i b' hi;exact ⟨a',by simpa using ha,hp⟩
theorem len6 {cs:List Value} (h:cs.length=6):∃ a b c d e f,cs = [a,b,c,d,e,f]:=by
  match cs,h with
  | [a,b,c,d,e,f],_=>exact ⟨a,b,c,d,e,f,rfl⟩
theorem len2 {cs:List Value} (h:cs.length=2):∃ a b,cs = [a,b]:=by
  match cs,h with
  | [a,b],_=>exact ⟨a,b,rfl⟩
theorem len3 {cs:List Value} (h:cs.length=3):∃ a b c,cs = [a,b,c]:=by
  match cs,h with
  | [a,b,c],_=>exact ⟨a,b,c,rfl⟩
variable {tE tEs tC tCs tI tS:TypeId}
variable {tR tRs tF tFs tM:TypeId}
end
end
section
abbrev St:=Nat × Bool
def bs (l:List UInt8):ByteArray:=⟨l.toArray⟩
def isS (ts:List Tok) (st:St) (s:List UInt8):Bool:=!st.2 && (match ts[st.1]? with | some t=>decide (t.kind=3) && (t.text == s) | none=>false)
def isK (ts:List Tok) (st:St) (k:Int):Bool:=!st.2 && (match ts[st.1]? with | some t=>decide (t.kind=k) | none=>false)
def adv (st:St):St:=(st.1+1,st.2)
def worse (st:St):St:=(st.1,true)
def takeS (ts:List Tok) (st:St) (s:List UInt8):St:=if isS ts st s then adv st else worse st
def ZaP (ts:List Tok) (i:Nat):List UInt8:=match ts[i]? with | some t=>t.text | none=>[]
def ZcT (ts:List Tok) (i:Nat):Int:=match ts[i]? with | some t=>t.n | none=>0
def atomP (ts:List Tok) (st:St):List UInt8 × St:=if isK ts st 0 then (ZaP ts st.1,adv st) else ([],worse st)
def theP (ts:List Tok) (st:St) (s:List UInt8):St:=if isK ts st 0 && (ZaP ts st.1 == s) then adv st else worse st
def numP (ts:List Tok) (st:St):Int × St:=if isK ts st 2 then (ZcT ts st.1,adv st) else (0,worse st)
mutual
def ZaJ:Ex->Bool
 | .mk k _ _ _ ks _=>(decide (0<=k) && decide (k<=6)) && ZeK ks
def ZeK:List Ex->Bool
 | []=>true
 | x :: xs=>ZaJ x && ZeK xs
end
theorem ZdE:∀ l,ZeK l=l.all ZaJ
 | []=>rfl
 | x :: xs=>by rw [ZeK,ZdE xs];rfl
theorem Zgw (k n:Int) (t m:ByteArray) (ks:List Ex) (cs:List Cl):ZaJ (.mk k n t m ks cs)=((decide (0<=k) && decide (k<=6)) && ks.all ZaJ):=by rw [ZaJ,ZdE]
section
variable (ts:List Tok) (E:St->Ex × St)
def Zap:Nat->List Ex->St->List Ex × St
 | 0,acc,st=>(acc,st)
 | k+1,acc,st=>if isS ts st [44] then Zap k (acc ++ [(E (adv st)).1]) (E (adv st)).2 else (acc,st)
def pBody (st:St):List Ex × St:=Zap ts E (ts.length+1) [(E st).1] (E st).2
def pSome (st:St) (fin:List UInt8):List Ex × St:=if isS ts st fin then ([],adv st) else ((pBody ts E st).1,takeS ts (pBody ts E st).2 fin)
def ZbI:Ex:=.mk 5 0 (bs []) (bs []) [] []
def Zfe:Ex:=.mk 0 0 (bs []) (bs []) [] []
def ZaT (h t:Ex):Ex:=.mk 6 0 (bs []) (bs []) [h,t] []
def ZbJ (st:St):Ex × St:=if isS ts st [124] then E (adv st) else (ZbI,st)
def pList (st:St):Ex × St :=
 if isS ts st [93] then (ZbI,adv st)
 else ((pBody ts E st).1.foldr ZaT (ZbJ ts E (pBody ts E st).2).1,takeS ts (ZbJ ts E (pBody ts E st).2).2 [93])
def pClause (st:St):Cl × St:=(([(E st).1],(pBody ts E (takeS ts (E st).2 [45,62])).1),(pBody ts E (takeS ts (E st).2 [45,62])).2)
def Zal:Nat->List Cl->St->List Cl × St
 | 0,acc,st=>(acc,st)
 | k+1,acc,st=>if st.2 then (acc,st) else if isS ts (pClause ts E st).2 [59] then Zal k (acc ++ [(pClause ts E st).1]) (adv (pClause ts E st).2) else (acc ++ [(pClause ts E st).1],(pClause ts E st).2)
def pCases (st:St):List Cl × St:=Zal ts E (ts.length+1) [] st
def pCase (st:St):Ex × St :=
 (.mk 10 0 (bs []) (bs []) [(E st).1] (pCases ts E (takeS ts (E st).2 [111,102])).1,takeS ts (pCases ts E (takeS ts (E st).2 [111,102])).2 [101,110,100])
def ZaY (st:St):List UInt8 × List UInt8 × St :=
 if isS ts (atomP ts st).2 [58] then
  ((atomP ts (adv (atomP ts st).2)).1,(atomP ts st).1,if isS ts (atomP ts (adv (atomP ts st).2)).2 [40] then (atomP ts (adv (atomP ts st).2)).2 else worse (atomP ts (adv (atomP ts st).2)).2)
 else ((atomP ts st).1,[],(atomP ts st).2)
def pName (st:St):Ex × St :=
 if isS ts (ZaY ts st).2.2 [40] then (.mk 8 0 (bs (ZaY ts st).1) (bs (ZaY ts st).2.1) (pSome ts E (adv (ZaY ts st).2.2) [41]).1 [],(pSome ts E (adv (ZaY ts st).2.2) [41]).2)
 else (.mk 1 0 (bs (ZaY ts st).1) (bs (ZaY ts st).2.1) [] [],(ZaY ts st).2.2)
def ZT (st:St):Ex × St :=
 if isK ts st 2 then (.mk 0 (ZcT ts st.1) (bs []) (bs []) [] [],adv st)
 else if isK ts st 1 then (.mk 2 0 (bs (ZaP ts st.1)) (bs []) [] [],adv st)
 else if isK ts st 0 then pName ts E st
 else if isS ts st [95] then (.mk 3 0 (bs []) (bs []) [] [],adv st)
 else if isS ts st [123] then (.mk 4 0 (bs []) (bs []) (pSome ts E (adv st) [125]).1 [],(pSome ts E (adv st) [125]).2)
 else if isS ts st [91] then pList ts E (adv st)
 else if isS ts st [99,97,115,101] then pCase ts E (adv st)
 else if isS ts st [40] then ((E (adv st)).1,takeS ts (E (adv st)).2 [41])
 else (Zfe,worse st)
end
def opE (s:List UInt8) (x y:Ex):Ex:=.mk 7 0 (bs s) (bs []) [x,y] []
def pOps (ts:List Tok) (signs:List (List UInt8)) (sub:St->Ex × St):Nat->Ex->St->Ex × St
 | 0,x,st=>(x,st)
 | k+1,x,st=>match signs.find? (λs=>isS ts st s) with
  | some s=>pOps ts signs sub k (opE s x (sub (adv st)).1) (sub (adv st)).2
  | none=>(x,st)
def pMul (ts:List Tok) (E:St->Ex × St) (st:St):Ex × St:=pOps ts [[42]] (ZT ts E) (ts.length+1) (ZT ts E st).1 (ZT ts E st).2
def pSum (ts:List Tok) (E:St->Ex × St) (st:St):Ex × St:=pOps ts [[43],[45]] (pMul ts E) (ts.length+1) (pMul ts E st).1 (pMul ts E st).2
def pCmp (ts:List Tok) (E:St->Ex × St) (st:St):Ex × St :=
 match ([[61,61],[60]]:List (List UInt8)).find? (λs=>isS ts (pSum ts E st).2 s) with
 | some s=>(opE s (pSum ts E st).1 (pSum ts E (adv (pSum ts E st).2)).1,(pSum ts E (adv (pSum ts E st).2)).2)
 | none=>pSum ts E st
def pExp (ts:List Tok) (E:St->Ex × St) (st:St):Ex × St :=
 if isS ts (pCmp ts E st).2 [61] && ZaJ (pCmp ts E st).1 then (.mk 9 0 (bs []) (bs []) [(pCmp ts E st).1,(E (adv (pCmp ts E st).2)).1] [],(E (adv (pCmp ts E st).2)).2)
 else pCmp ts E st
def pE (ts:List Tok):Nat->St->Ex × St
 | 0,st=>(Zfe,st)
 | n+1,st=>pExp ts (pE ts n) st
/-! Where it goes. -/
theorem ZM {ts:List Tok} {st:St} {s:List UInt8} (h:isS ts st s=true):st.1<ts.length/\st.2=false:=by
 unfold isS at h;simp only [Bool.and_eq_true,Bool.not_eq_true'] at h;refine ⟨?_,h.1⟩
 cases hg:ts[st.1]? with
 | none=>rw [hg] at h;simp at h
 | some t=>exact (List.getElem?_eq_some_iff.1 hg).1
theorem Zbs {ts:List Tok} {st:St} {k:Int} (h:isK ts st k=true):st.1<ts.length/\st.2=false:=by
 unfold isK at h;simp only [Bool.and_eq_true,Bool.not_eq_true'] at h;refine ⟨?_,h.1⟩
 cases hg:ts[st.1]? with
 | none=>rw [hg] at h;simp at h
 | some t=>exact (List.getElem?_eq_some_iff.1 hg).1
theorem ZaA (ts:List Tok) (i:Nat) (s:List UInt8):isS ts (i,true) s=false:=rfl
theorem ZfT (ts:List Tok) (i:Nat) (k:Int):isK ts (i,true) k=false:=rfl
structure Goes (ts:List Tok) (st st':St):Prop where
 ge:st.1<=st'.1
 le:st.1<=ts.length->st'.1<=ts.length
 bad:st.2=true->st'=st
theorem Goes.refl {ts:List Tok} {st:St}:Goes ts st st:=⟨Nat.le_refl _,id,λ_=>rfl⟩
theorem Goes.trans {ts:List Tok} {a b c:St} (h:Goes ts a b) (k:Goes ts b c):Goes ts a c :=
 ⟨Nat.le_trans h.ge k.ge,λha=>k.le (h.le ha),λhb=>by have e:=h.bad hb;rw [<-e];exact k.bad (by rw [e];exact hb)⟩
theorem Goes.adv {ts:List Tok} {st:St} (h:st.1<ts.length/\st.2=false):Goes ts st (adv st):=⟨Nat.le_succ _,λ_=>h.1,λe=>by rw [h.2] at e;cases e⟩
theorem Goes.worse {ts:List Tok} {st:St}:Goes ts st (worse st):=⟨Nat.le_refl _,id,λe=>by obtain ⟨i,b⟩:=st;simp only at e;subst e;rfl⟩
theorem Zj (ts:List Tok) (st:St) (s:List UInt8):Goes ts st (takeS ts st s):=by
 unfold takeS
 split
 . rename_i h;exact Goes.adv (ZM h)
 . exact Goes.worse
theorem Z9 (ts:List Tok) (st:St):Goes ts st (atomP ts st).2:=by
 unfold atomP
 split
 . rename_i h;exact Goes.adv (Zbs h)
 . exact Goes.worse
theorem ZaU (ts:List Tok) (st:St) (s:List UInt8):Goes ts st (theP ts st s):=by
 unfold theP
 split
 . rename_i h;simp only [Bool.and_eq_true] at h;exact Goes.adv (Zbs h.1)
 . exact Goes.worse
theorem ZhK (ts:List Tok) (st:St):Goes ts st (numP ts st).2:=by
 unfold numP
 split
 . rename_i h;exact Goes.adv (Zbs h)
 . exact Goes.worse
def ZV (ts:List Tok) (E:St->Ex × St):Prop:=∀ st,Goes ts st (E st).2
section
variable {ts:List Tok} {E:St->Ex × St}
theorem Zeg (hE:ZV ts E):∀ (k:Nat) (acc:List Ex) (st:St),Goes ts st (Zap ts E k acc st).2
 | 0,acc,st=>Goes.refl
 | k+1,acc,st=>by
  unfold Zap
  split
  . rename_i h;exact ((Goes.adv (ZM h)).trans (hE _)).trans (Zeg hE k _ _)
  . exact Goes.refl
theorem Zaa (hE:ZV ts E) (st:St):Goes ts st (pBody ts E st).2:=(hE st).trans (Zeg hE _ _ _)
theorem Zax (hE:ZV ts E) (st:St) (fin:List UInt8):Goes ts st (pSome ts E st fin).2:=by
 unfold pSome
 split
 . rename_i h;exact Goes.adv (ZM h)
 . exact (Zaa hE st).trans (Zj _ _ _)
theorem Zeh (hE:ZV ts E) (st:St):Goes ts st (ZbJ ts E st).2:=by
 unfold ZbJ
 split
 . rename_i h;exact (Goes.adv (ZM h)).trans (hE _)
 . exact Goes.refl
theorem Zhd (hE:ZV ts E) (st:St):Goes ts st (pList ts E st).2:=by
 unfold pList
 split
 . rename_i h;exact Goes.adv (ZM h)
 . exact ((Zaa hE st).trans (Zeh hE _)).trans (Zj _ _ _)
theorem Zbt (hE:ZV ts E) (st:St):Goes ts st (pClause ts E st).2:=((hE st).trans (Zj _ _ _)).trans (Zaa hE _)
theorem ZbK (hE:ZV ts E):∀ (k:Nat) (acc:List Cl) (st:St),Goes ts st (Zal ts E k acc st).2
 | 0,acc,st=>Goes.refl
 | k+1,acc,st=>by
  unfold Zal
  split
  . exact Goes.refl
  . split
    . rename_i h;exact ((Zbt hE st).trans (Goes.adv (ZM h))).trans (ZbK hE k _ _)
    . exact Zbt hE st
theorem Zhe (hE:ZV ts E) (st:St):Goes ts st (pCase ts E st).2 :=
 (((hE st).trans (Zj _ _ _)).trans (ZbK hE _ _ _)).trans (Zj _ _ _)
theorem ZcU (st:St):Goes ts st (ZaY ts st).2.2:=by
 unfold ZaY
 split
 . rename_i h
   refine ((Z9 ts st).trans (Goes.adv (ZM h))).trans ((Z9 ts _).trans ?_)
   split
   . exact Goes.refl
   . exact Goes.worse
 . exact Z9 ts st
theorem Zhf (hE:ZV ts E) (st:St):Goes ts st (pName ts E st).2:=by
 unfold pName
 split
 . rename_i h;exact ((ZcU st).trans (Goes.adv (ZM h))).trans (Zax hE _ _)
 . exact ZcU st
theorem Zbu (hE:ZV ts E) (st:St):Goes ts st (ZT ts E st).2:=by
 unfold ZT
 split
 . rename_i h;exact Goes.adv (Zbs h)
 split
 . rename_i h;exact Goes.adv (Zbs h)
 split
 . exact Zhf hE st
 split
 . rename_i h;exact Goes.adv (ZM h)
 split
 . rename_i h;exact (Goes.adv (ZM h)).trans (Zax hE _ _)
 split
 . rename_i h;exact (Goes.adv (ZM h)).trans (Zhd hE _)
 split
 . rename_i h;exact (Goes.adv (ZM h)).trans (Zhe hE _)
 split
 . rename_i h;exact ((Goes.adv (ZM h)).trans (hE _)).trans (Zj _ _ _)
 . exact Goes.worse
end
theorem ZhL {ts:List Tok} {st:St} {signs:List (List UInt8)} {s:List UInt8} (h:signs.find? (λs=>isS ts st s)=some s):isS ts st s=true:=by
 have:=List.find?_some h
 simpa using this
theorem ZdF {ts:List Tok} {signs:List (List UInt8)} {sub:St->Ex × St} (hs:ZV ts sub):∀ (k:Nat) (x:Ex) (st:St),Goes ts st (pOps ts signs sub k x st).2
 | 0,x,st=>Goes.refl
 | k+1,x,st=>by
  unfold pOps
  split
  . rename_i s h;exact ((Goes.adv (ZM (ZhL h))).trans (hs _)).trans (ZdF hs k _ _)
  . exact Goes.refl
theorem Zct {ts:List Tok} {E:St->Ex × St} (hE:ZV ts E):ZV ts (pMul ts E):=λst=>(Zbu hE st).trans (ZdF (Zbu hE) _ _ _)
theorem ZbX {ts:List Tok} {E:St->Ex × St} (hE:ZV ts E):ZV ts (pSum ts E):=λst=>(Zct hE st).trans (ZdF (Zct hE) _ _ _)
theorem Zcu {ts:List Tok} {E:St->Ex × St} (hE:ZV ts E):ZV ts (pCmp ts E):=λst=>by
 unfold pCmp
 split
 . rename_i s h;exact ((ZbX hE st).trans (Goes.adv (ZM (ZhL h)))).trans (ZbX hE _)
 . exact ZbX hE st
theorem ZhM {ts:List Tok} {E:St->Ex × St} (hE:ZV ts E):ZV ts (pExp ts E):=λst=>by
 unfold pExp
 split
 . rename_i h
   simp only [Bool.and_eq_true] at h;exact ((Zcu hE st).trans (Goes.adv (ZM h.1))).trans (hE _)
 . exact Zcu hE st
theorem Zbg (ts:List Tok):∀ n,ZV ts (pE ts n)
 | 0=>λst=>Goes.refl
 | n+1=>ZhM (Zbg ts n)
end
section
abbrev Fr:=List UInt8 × Int × List Cl
section
variable (ts:List Tok) (E:St->Ex × St)
def ZaH (f:Fr) (st:St):List UInt8 × St:=if f.2.2.length=0 then atomP ts st else (f.1,theP ts st f.1)
def Zai (f:Fr) (st:St):List Ex × St:=pSome ts E (takeS ts (ZaH ts f st).2 [40]) [41]
def Za3 (f:Fr) (st:St):St:=if f.2.2.length≠0/\((Zai ts E f st).1.length:Int)≠f.2.1 then worse (Zai ts E f st).2 else (Zai ts E f st).2
def Zaq (f:Fr) (st:St):List Ex × St:=pBody ts E (takeS ts (Za3 ts E f st) [45,62])
def pFunOne (f:Fr) (st:St):Fr × St :=
 (((ZaH ts f st).1,((Zai ts E f st).1.length:Int),f.2.2 ++ [((Zai ts E f st).1,(Zaq ts E f st).1)]),(Zaq ts E f st).2)
def Zab:Nat->Fr->St->Fr × St
 | 0,f,st=>(f,st)
 | k+1,f,st=>if st.2 then (f,st) else if isS ts (pFunOne ts E f st).2 [59] then Zab k (pFunOne ts E f st).1 (adv (pFunOne ts E f st).2) else pFunOne ts E f st
def pFun (st:St):Fr × St:=((Zab ts E (ts.length+1) ([],0,[]) st).1,takeS ts (Zab ts E (ts.length+1) ([],0,[]) st).2 [46])
def Za7:Nat->List Fr->St->List Fr × St
 | 0,fs,st=>(fs,st)
 | k+1,fs,st=>if st.2=false/\(st.1<ts.length\/fs.length=0) then Za7 k (fs ++ [(pFun ts E st).1]) (pFun ts E st).2 else (fs,st)
end
abbrev Xr:=List UInt8 × Int
section
variable (ts:List Tok)
def pRefOne (st:St):Xr × St:=(((atomP ts st).1,(numP ts (takeS ts (atomP ts st).2 [47])).1),(numP ts (takeS ts (atomP ts st).2 [47])).2)
def ZbL:Nat->List Xr->St->List Xr × St
 | 0,rs,st=>(rs,st)
 | k+1,rs,st=>if st.2 then (rs,st) else if isS ts (pRefOne ts st).2 [44] then ZbL k (rs ++ [(pRefOne ts st).1]) (adv (pRefOne ts st).2) else (rs ++ [(pRefOne ts st).1],(pRefOne ts st).2)
def ZdG (st:St):St:=takeS ts (theP ts (takeS ts st [45]) [109,111,100,117,108,101]) [40]
def Zcj (st:St):St:=takeS ts (takeS ts (theP ts (takeS ts (takeS ts (takeS ts st [41]) [46]) [45]) [101,120,112,111,114,116]) [40]) [91]
def ZaV (st:St):List UInt8 × St:=atomP ts (ZdG ts st)
def pTopRefs (st:St):List Xr × St :=
 if isS ts (Zcj ts (ZaV ts st).2) [93] then ([],Zcj ts (ZaV ts st).2) else ZbL ts (ts.length+1) [] (Zcj ts (ZaV ts st).2)
def pTop (st:St):(List UInt8 × List Xr) × St:=(((ZaV ts st).1,(pTopRefs ts st).1),takeS ts (takeS ts (takeS ts (pTopRefs ts st).2 [93]) [41]) [46])
end
/-! Where it goes. -/
section
variable {ts:List Tok} {E:St->Ex × St}
theorem Zcv (f:Fr) (st:St):Goes ts st (ZaH ts f st).2:=by
 unfold ZaH
 split
 . exact Z9 ts st
 . exact ZaU ts st _
theorem Zcw (hE:ZV ts E) (f:Fr) (st:St):Goes ts st (Zai ts E f st).2:=((Zcv f st).trans (Zj _ _ _)).trans (Zax hE _ _)
theorem ZfU (hE:ZV ts E) (f:Fr) (st:St):Goes ts st (Za3 ts E f st):=by
 unfold Za3
 split
 . exact (Zcw hE f st).trans Goes.worse
 . exact Zcw hE f st
theorem Zdc (hE:ZV ts E) (f:Fr) (st:St):Goes ts st (pFunOne ts E f st).2:=((ZfU hE f st).trans (Zj _ _ _)).trans (Zaa hE _)
theorem ZbM (hE:ZV ts E):∀ (k:Nat) (f:Fr) (st:St),Goes ts st (Zab ts E k f st).2
 | 0,f,st=>Goes.refl
 | k+1,f,st=>by
  unfold Zab
  split
  . exact Goes.refl
  . split
    . rename_i h;exact ((Zdc hE f st).trans (Goes.adv (ZM h))).trans (ZbM hE k _ _)
    . exact Zdc hE f st
theorem Zcx (hE:ZV ts E) (st:St):Goes ts st (pFun ts E st).2:=(ZbM hE _ _ _).trans (Zj _ _ _)
theorem Za4 (st:St):Goes ts st (pRefOne ts st).2:=((Z9 ts st).trans (Zj _ _ _)).trans (ZhK ts _)
theorem ZcV:∀ (k:Nat) (rs:List Xr) (st:St),Goes ts st (ZbL ts k rs st).2
 | 0,rs,st=>Goes.refl
 | k+1,rs,st=>by
  unfold ZbL
  split
  . exact Goes.refl
  . split
    . rename_i h;exact ((Za4 st).trans (Goes.adv (ZM h))).trans (ZcV k _ _)
    . exact Za4 st
theorem Zei (st:St):Goes ts st (ZdG ts st):=((Zj _ _ _).trans (ZaU _ _ _)).trans (Zj _ _ _)
theorem ZcW (st:St):Goes ts st (Zcj ts st):=(((((Zj _ _ _).trans (Zj _ _ _)).trans (Zj _ _ _)).trans (ZaU _ _ _)).trans (Zj _ _ _)).trans (Zj _ _ _)
theorem Zcy (st:St):Goes ts st (ZaV ts st).2:=(Zei st).trans (Z9 _ _)
theorem ZeL (st:St):Goes ts st (pTopRefs ts st).2:=by
 unfold pTopRefs
 split
 . exact (Zcy st).trans (ZcW _)
 . exact ((Zcy st).trans (ZcW _)).trans (ZcV _ _ _)
theorem Zff (st:St):Goes ts st (pTop ts st).2:=(((ZeL st).trans (Zj _ _ _)).trans (Zj _ _ _)).trans (Zj _ _ _)
end
end
end Go.Proofs.YtacioihbhkcdcaaGreatDoor
