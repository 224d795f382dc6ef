/-
  ParSz
-/
import Derived.Test.YtacioihbhkcdcaaGreatDoorP31
import Derived.Test.YtacioihbhkcdcaaGreatDoorP10
set_option maxHeartbeats 16000000
set_option linter.unusedVariables false
set_option maxRecDepth 100000
namespace Go.Proofs.YtacioihbhkcdcaaGreatDoor
open Go.ChangeShapes Go.WideShapes Go.ChangeAt Go.RowKit
section
theorem ZbH {α:Type} {f g:α->Nat}:∀ (l:List α),(∀ x ∈ l,f x<=g x)->(l.map f).sum<=(l.map g).sum
 | [],_=>Nat.le_refl _
 | x :: l,h=>by
  have h1:=h x (by simp);have h2:=ZbH l (λy hy=>h y (by simp [hy]));simp only [List.map_cons,List.sum_cons];omega
theorem ZcP:∀ (d:Nat) (x:Ex),cntE d x<=cntE (d+1) x
 | 0,x=>Nat.zero_le _
 | d+1,x=>by
  show 4+(x.kids.map (cntE d)).sum+(x.clauses.map (cntC (cntE d))).sum<=4+(x.kids.map (cntE (d+1))).sum+(x.clauses.map (cntC (cntE (d+1)))).sum;have h1:=ZbH (f:=cntE d) (g:=cntE (d+1)) x.kids (λy _=>ZcP d y)
  have h2:=ZbH (f:=cntC (cntE d)) (g:=cntC (cntE (d+1))) x.clauses (λc _=>by
   have a:=ZbH (f:=cntE d) (g:=cntE (d+1)) c.1 (λy _=>ZcP d y);have b:=ZbH (f:=cntE d) (g:=cntE (d+1)) c.2 (λy _=>ZcP d y);show (c.1.map (cntE d)).sum+(c.2.map (cntE d)).sum<=(c.1.map (cntE (d+1))).sum+(c.2.map (cntE (d+1))).sum
   omega)
  omega
theorem Ze8 (d:Nat) (k n:Int) (t m:ByteArray) (ks:List Ex) (cs:List Cl):cntE d (.mk k n t m ks cs)<=4+(ks.map (cntE d)).sum+(cs.map (cntC (cntE d))).sum:=by
 cases d with
 | zero=>exact Nat.zero_le _
 | succ d=>exact Nat.le_trans (ZcP (d+1) _) (sqR _)
def SzE (E:St->Ex × St):Prop:=∀ (d:Nat) (st:St),cntE d (E st).1+40 * st.1<=40 * (E st).2.1+4
theorem Ze9 (d:Nat) (k n:Int) (t m:ByteArray):cntE d (.mk k n t m [] [])<=4:=by
 have:=Ze8 d k n t m [] []
 simpa using this
theorem Zit (d:Nat) (k n:Int) (t m:ByteArray) (x y:Ex):cntE d (.mk k n t m [x,y] [])<=4+cntE d x+cntE d y:=by
 have:=Ze8 d k n t m [x,y] [];simp only [List.map_cons,List.map_nil,List.sum_cons,List.sum_nil] at this;omega
theorem ZaO (st:St):(adv st).1=st.1+1:=rfl
section
variable {ts:List Tok} {E:St->Ex × St}
theorem Zg9 (hE:SzE E) (d:Nat):∀ (k:Nat) (acc:List Ex) (st:St),((Zap ts E k acc st).1.map (cntE d)).sum+4 * (Zap ts E k acc st).1.length+40 * st.1<=(acc.map (cntE d)).sum+4 * acc.length+40 * (Zap ts E k acc st).2.1
 | 0,acc,st=>Nat.le_refl _
 | k+1,acc,st=>by
  unfold Zap
  split
  . have h:=Zg9 hE d k (acc ++ [(E (adv st)).1]) (E (adv st)).2
    have h2:=hE d (adv st);rw [List.map_append,List.sum_append,List.length_append] at h;simp only [List.map_cons,List.map_nil,List.sum_cons,List.sum_nil,List.length_cons,List.length_nil] at h;rw [ZaO] at h2;omega
  . exact Nat.le_refl _
theorem ZdD (hE:SzE E) (d:Nat) (st:St):((pBody ts E st).1.map (cntE d)).sum+4 * (pBody ts E st).1.length+40 * st.1<=40 * (pBody ts E st).2.1+8:=by
 have h:=Zg9 (ts:=ts) hE d (ts.length+1) [(E st).1] (E st).2;have h2:=hE d st;simp only [List.map_cons,List.map_nil,List.sum_cons,List.sum_nil,List.length_cons,List.length_nil] at h;unfold pBody;omega
theorem Zfa (hE:SzE E) (d:Nat) (st:St) (fin:List UInt8):((pSome ts E st fin).1.map (cntE d)).sum+40 * st.1<=40 * (pSome ts E st fin).2.1+8:=by
 unfold pSome
 split
 . show 0+40 * st.1<=40 * (st.1+1)+8;omega
 . have h:=ZdD (ts:=ts) hE d st
   have h2:=(Zj ts (pBody ts E st).2 fin).ge;simp only;omega
theorem Ziu (d:Nat):∀ (l:List Ex) (t:Ex),cntE d (l.foldr ZaT t)<=(l.map (cntE d)).sum+4 * l.length+cntE d t
 | [],t=>by simp
 | x :: l,t=>by
  have h:=Ziu d l t;have h2:=Zit d 6 0 (bs []) (bs []) x (l.foldr ZaT t);rw [List.foldr_cons,List.map_cons,List.sum_cons,List.length_cons];unfold ZaT at *;omega
theorem Zjn (hE:SzE E) (d:Nat) (st:St):cntE d (pList ts E st).1+40 * st.1<=40 * (pList ts E st).2.1+12:=by
 unfold pList
 split
 . have:=Ze9 d 5 0 (bs []) (bs [])
   show cntE d (.mk 5 0 (bs []) (bs []) [] [])+40 * st.1<=40 * (st.1+1)+12;omega
 . have h:=ZdD (ts:=ts) hE d st
   have h1:=Ziu d (pBody ts E st).1 (ZbJ ts E (pBody ts E st).2).1;have h2:=(Zj ts (ZbJ ts E (pBody ts E st).2).2 [93]).ge
   have h3:cntE d (ZbJ ts E (pBody ts E st).2).1+40 * (pBody ts E st).2.1<=40 * (ZbJ ts E (pBody ts E st).2).2.1+4:=by
    unfold ZbJ
    split
    . have:=hE d (adv (pBody ts E st).2)
      rw [ZaO] at this;omega
    . have:=Ze9 d 5 0 (bs []) (bs [])
      show cntE d (.mk 5 0 (bs []) (bs []) [] [])+40 * (pBody ts E st).2.1<=40 * (pBody ts E st).2.1+4;omega
   simp only;omega
theorem ZhE (hE:SzE E) (d:Nat) (st:St):cntC (cntE d) (pClause ts E st).1+40 * st.1<=40 * (pClause ts E st).2.1+12:=by
 have h1:=hE d st;have h2:=(Zj ts (E st).2 [45,62]).ge;have h3:=ZdD (ts:=ts) hE d (takeS ts (E st).2 [45,62]);show ([(E st).1].map (cntE d)).sum+((pBody ts E (takeS ts (E st).2 [45,62])).1.map (cntE d)).sum+40 * st.1<=40 * (pBody ts E (takeS ts (E st).2 [45,62])).2.1+12;simp only [List.map_cons,List.map_nil,List.sum_cons,List.sum_nil];omega
theorem Zd7 (hE:SzE E) (d:Nat):∀ (k:Nat) (acc:List Cl) (st:St),((Zal ts E k acc st).1.map (cntC (cntE d))).sum+40 * st.1<=(acc.map (cntC (cntE d))).sum+40 * (Zal ts E k acc st).2.1+12
 | 0,acc,st=>by show _+_<=_+_+12;exact Nat.le_add_right _ _
 | k+1,acc,st=>by
  have h2:=ZhE (ts:=ts) hE d st;unfold Zal
  split
  . exact Nat.le_add_right _ _
  . split
    . have h:=Zd7 hE d k (acc ++ [(pClause ts E st).1]) (adv (pClause ts E st).2)
      rw [List.map_append,List.sum_append,ZaO] at h;simp only [List.map_cons,List.map_nil,List.sum_cons,List.sum_nil] at h;omega
    . simp only
      rw [List.map_append,List.sum_append];simp only [List.map_cons,List.map_nil,List.sum_cons,List.sum_nil];omega
theorem Zjo (hE:SzE E) (d:Nat) (st:St):cntE d (pCase ts E st).1+40 * st.1<=40 * (pCase ts E st).2.1+20:=by
 have h1:=hE d st;have h2:=(Zj ts (E st).2 [111,102]).ge;have h3:=Zd7 (ts:=ts) hE d (ts.length+1) [] (takeS ts (E st).2 [111,102]);have h4:=(Zj ts (pCases ts E (takeS ts (E st).2 [111,102])).2 [101,110,100]).ge;have h5:=Ze8 d 10 0 (bs []) (bs []) [(E st).1] (pCases ts E (takeS ts (E st).2 [111,102])).1;simp only [List.map_cons,List.map_nil,List.sum_cons,List.sum_nil] at h3 h5;show cntE d (.mk 10 0 (bs []) (bs []) [(E st).1] (pCases ts E (takeS ts (E st).2 [111,102])).1)+40 * st.1<=40 * (takeS ts (pCases ts E (takeS ts (E st).2 [111,102])).2 [101,110,100]).1+20;unfold pCases at *;omega
theorem Ziv (d:Nat) (k n:Int) (t m:ByteArray) (ks:List Ex):cntE d (.mk k n t m ks [])<=4+(ks.map (cntE d)).sum:=by
 have:=Ze8 d k n t m ks []
 simpa using this
theorem ZeG (hE:SzE E):SzE (ZT ts E):=λd st=>by
 have L:=λk n t m=>Ze9 d k n t m;unfold ZT
 split
 . have:=L 0 (ZcT ts st.1) (bs []) (bs []);simp only [ZaO];omega
 split
 . have:=L 2 0 (bs (ZaP ts st.1)) (bs []);simp only [ZaO];omega
 split
 . have hg:st.1<=(ZaY ts st).2.2.1:=(ZcU (ts:=ts) st).ge
   unfold pName
   split
   . have h1:=Zfa (ts:=ts) hE d (adv (ZaY ts st).2.2) [41]
     have h2:=Ziv d 8 0 (bs (ZaY ts st).1) (bs (ZaY ts st).2.1) (pSome ts E (adv (ZaY ts st).2.2) [41]).1;rw [ZaO] at h1;simp only;omega
   . have:=L 1 0 (bs (ZaY ts st).1) (bs (ZaY ts st).2.1);simp only;omega
 split
 . have:=L 3 0 (bs []) (bs []);simp only [ZaO];omega
 split
 . have h1:=Zfa (ts:=ts) hE d (adv st) [125]
   have h2:=Ziv d 4 0 (bs []) (bs []) (pSome ts E (adv st) [125]).1;rw [ZaO] at h1;simp only;omega
 split
 . have h1:=Zjn (ts:=ts) hE d (adv st)
   rw [ZaO] at h1;omega
 split
 . have h1:=Zjo (ts:=ts) hE d (adv st)
   rw [ZaO] at h1;omega
 split
 . have h1:=hE d (adv st)
   have h2:=(Zj ts (E (adv st)).2 [41]).ge;rw [ZaO] at h1;simp only;omega
 . have:=L 0 0 (bs []) (bs [])
   show cntE d (.mk 0 0 (bs []) (bs []) [] [])+40 * st.1<=40 * st.1+4;omega
end
theorem ZjH (d:Nat) (s:List UInt8) (x y:Ex):cntE d (opE s x y)<=4+cntE d x+cntE d y:=Zit d 7 0 (bs s) (bs []) x y
theorem Zgt {ts:List Tok} {signs:List (List UInt8)} {sub:St->Ex × St} (hs:SzE sub) (d:Nat) (b:Nat):∀ (k:Nat) (x:Ex) (st:St),cntE d x+40 * b<=40 * st.1+4->cntE d (pOps ts signs sub k x st).1+40 * b<=40 * (pOps ts signs sub k x st).2.1+4
 | 0,x,st,h=>h
 | k+1,x,st,h=>by
  unfold pOps
  split
  . rename_i s _
    have h1:=hs d (adv st);have h2:=ZjH d s x (sub (adv st)).1;rw [ZaO] at h1;exact Zgt hs d b k _ _ (by omega)
  . exact h
theorem Ziw {ts:List Tok} {E:St->Ex × St} (hE:SzE E):SzE (pMul ts E):=λd st=>Zgt (ZeG hE) d st.1 _ _ _ (ZeG hE d st)
theorem Zix {ts:List Tok} {E:St->Ex × St} (hE:SzE E):SzE (pSum ts E):=λd st=>Zgt (Ziw hE) d st.1 _ _ _ (Ziw hE d st)
theorem Zkm {ts:List Tok} {E:St->Ex × St} (hE:SzE E):SzE (pCmp ts E):=λd st=>by
 have h1:=Zix (ts:=ts) hE d st;unfold pCmp
 split
 . rename_i s _
   have h2:=Zix (ts:=ts) hE d (adv (pSum ts E st).2);have h3:=ZjH d s (pSum ts E st).1 (pSum ts E (adv (pSum ts E st).2)).1;rw [ZaO] at h2;simp only;omega
 . exact h1
theorem Zkn (ts:List Tok):∀ n,SzE (pE ts n)
 | 0=>λd st=>by
  have:=Ze9 d 0 0 (bs []) (bs []);show cntE d (.mk 0 0 (bs []) (bs []) [] [])+40 * st.1<=40 * st.1+4;omega
 | n+1=>λd st=>by
  have h1:=Zkm (ts:=ts) (Zkn ts n) d st;show cntE d (pExp ts (pE ts n) st).1+40 * st.1<=40 * (pExp ts (pE ts n) st).2.1+4;unfold pExp
  split
  . have h2:=Zkn ts n d (adv (pCmp ts (pE ts n) st).2)
    have h3:=Zit d 9 0 (bs []) (bs []) (pCmp ts (pE ts n) st).1 (pE ts n (adv (pCmp ts (pE ts n) st).2)).1;rw [ZaO] at h2;simp only;omega
  . exact h1
theorem ZhF {ts:List Tok} {E:St->Ex × St} (hE:SzE E) (d:Nat) (f:Fr) (st:St):((pFunOne ts E f st).1.2.2.map (cntC (cntE d))).sum+40 * st.1<=(f.2.2.map (cntC (cntE d))).sum+40 * (pFunOne ts E f st).2.1+16:=by
 have h0:st.1<=(takeS ts (ZaH ts f st).2 [40]).1:=((Zcv f st).trans (Zj _ _ _)).ge;have h1:=Zfa (ts:=ts) hE d (takeS ts (ZaH ts f st).2 [40]) [41]
 have h2:(Zai ts E f st).2.1<=(takeS ts (Za3 ts E f st) [45,62]).1:=by
  have a:=(Zj ts (Za3 ts E f st) [45,62]).ge
  have b:(Zai ts E f st).2.1<=(Za3 ts E f st).1:=by
   unfold Za3
   split
   . exact Goes.worse (ts:=ts).ge
   . exact Nat.le_refl _
  omega
 have h3:=ZdD (ts:=ts) hE d (takeS ts (Za3 ts E f st) [45,62]);have h4:cntC (cntE d) ((Zai ts E f st).1,(Zaq ts E f st).1)=((Zai ts E f st).1.map (cntE d)).sum+((Zaq ts E f st).1.map (cntE d)).sum:=rfl;show ((f.2.2 ++ [((Zai ts E f st).1,(Zaq ts E f st).1)]).map (cntC (cntE d))).sum+40 * st.1<=(f.2.2.map (cntC (cntE d))).sum+40 * (Zaq ts E f st).2.1+16;rw [List.map_append,List.sum_append];simp only [List.map_cons,List.map_nil,List.sum_cons,List.sum_nil];rw [h4];unfold Zai Zaq at *;omega
theorem ZfQ {ts:List Tok} {E:St->Ex × St} (hE:SzE E) (d:Nat):∀ (k:Nat) (f:Fr) (st:St),((Zab ts E k f st).1.2.2.map (cntC (cntE d))).sum+40 * st.1<=(f.2.2.map (cntC (cntE d))).sum+40 * (Zab ts E k f st).2.1+16
 | 0,f,st=>Nat.le_add_right _ _
 | k+1,f,st=>by
  have h1:=ZhF (ts:=ts) hE d f st;unfold Zab
  split
  . exact Nat.le_add_right _ _
  . split
    . have h:=ZfQ (ts:=ts) hE d k (pFunOne ts E f st).1 (adv (pFunOne ts E f st).2)
      rw [ZaO] at h;omega
    . exact h1
theorem Zko {ts:List Tok} {E:St->Ex × St} (hE:SzE E) (hG:ZV ts E) (d:Nat) (st:St) (hs:st.1<=ts.length):((pFun ts E st).1.2.2.map (cntC (cntE d))).sum<=40 * ts.length+16:=by
 have h:=ZfQ (ts:=ts) hE d (ts.length+1) ([],0,[]) st;have h2:=(ZbM hG (ts.length+1) ([],0,[]) st).le hs;simp only [List.map_nil,List.sum_nil] at h;show ((Zab ts E (ts.length+1) ([],0,[]) st).1.2.2.map (cntC (cntE d))).sum<=_;omega
theorem Zha {ts:List Tok} {E:St->Ex × St} (hE:SzE E) (hG:ZV ts E) (d:Nat):∀ (k:Nat) (fs:List Fr) (st:St),st.1<=ts.length->(∀ f ∈ fs,(f.2.2.map (cntC (cntE d))).sum<=40 * ts.length+16)->∀ f ∈ (Za7 ts E k fs st).1,(f.2.2.map (cntC (cntE d))).sum<=40 * ts.length+16
 | 0,fs,st,_,h=>h
 | k+1,fs,st,hs,h=>by
  unfold Za7
  split
  . refine Zha (ts:=ts) hE hG d k _ _ ((Zcx hG st).le hs) (λf hf=>?_)
    rcases List.mem_append.1 hf with hf | hf
    . exact h f hf
    . rw [List.mem_singleton.1 hf];exact Zko hE hG d st hs
  . exact h
theorem ZeH {α:Type} {f:α->Nat} {c:Nat}:∀ (l:List α),(∀ x ∈ l,f x<=c)->(l.map f).sum<=c * l.length
 | [],_=>Nat.zero_le _
 | x :: l,h=>by
  have h1:=h x (by simp);have h2:=ZeH l (λy hy=>h y (by simp [hy]));simp only [List.map_cons,List.sum_cons,List.length_cons,Nat.mul_succ];omega
theorem Ziy {d:Nat} {m:Md} (h:mdOk d m=true):m.exports.length<=20/\m.funs.length<=30:=by
 unfold mdOk at h;simp only [Bool.and_eq_true,decide_eq_true_eq] at h;have:=h.2.2.1;unfold inB at this;simp only [decide_eq_true_eq] at this;omega
theorem Zhb:∀ (l:List Rf),(l.map cntR).sum=2 * l.length
 | []=>rfl
 | x :: l=>by
  have:=Zhb l;simp only [List.map_cons,List.sum_cons,List.length_cons,cntR] at *;omega
theorem Zjp (l:List UInt8) (d:Nat):cntM d (prsM l).1<=100000000:=by
 have h0:cntM d md0<=100000000:=(by show 0+0<=_;omega);unfold prsM
 split
 . unfold prsW
   split
   . exact h0
   . split
     . rename_i hm
       obtain ⟨h1,h2⟩:=Ziy hm;have hT:=Zf5 l;generalize (lexM l).1=ts at *;have hlen:=hT.len;have h3:=Zha (ts:=ts) (Zkn ts (ts.length+1)) (Zbg ts _) d (ts.length+1) [] (pTop ts (0,false)).2 ((Zff (0,false)).le (Nat.zero_le _)) (λf hf=>by simp at hf)
       have h4:∀ f ∈ (mdF (pMod ts (pE ts (ts.length+1))).1).funs,cntF d f<=40 * ts.length+18:=λf hf=>by
        obtain ⟨g,hg,rfl⟩:=List.mem_map.1 hf;have:=h3 g hg;show 2+(g.2.2.map (cntC (cntE d))).sum<=_;omega
       have h5:=ZeH _ h4;have h6:((mdF (pMod ts (pE ts (ts.length+1))).1).exports.map cntR).sum=2 * (mdF (pMod ts (pE ts (ts.length+1))).1).exports.length:=Zhb _;show ((mdF (pMod ts (pE ts (ts.length+1))).1).exports.map cntR).sum+((mdF (pMod ts (pE ts (ts.length+1))).1).funs.map (cntF d)).sum<=_;have h7:(40 * ts.length+18) * (mdF (pMod ts (pE ts (ts.length+1))).1).funs.length<=160018 * 30:=Nat.mul_le_mul (by omega) h2;omega
     . exact h0
 . exact h0
end
end Go.Proofs.YtacioihbhkcdcaaGreatDoor
