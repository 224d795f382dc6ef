/-
  ParWords
-/
import Derived.Test.YtacioihbhkcdcaaGreatDoorP12
import Derived.Test.YtacioihbhkcdcaaGreatDoorP08
set_option maxHeartbeats 16000000
set_option linter.unusedVariables false
set_option maxRecDepth 100000
namespace Go.Proofs.YtacioihbhkcdcaaGreatDoor
open Go.ChangeShapes Go.WideShapes Go.ChangeAt Go.RowKit
theorem Zf3 (l:List UInt8) (i k:Nat):(cut l i k).length<=l.length:=by
 unfold cut;rw [List.length_take,List.length_drop];omega
theorem ZiV {l:List UInt8} {i k:Nat} {line:Int} {t:Tok} (hl:l.length<=4000) (h:Zaf l i line=some (t,k)):t.text.length<=4000/\okI t.n:=by
 have h0:okI 0:=(by unfold okI;decide);unfold Zaf at h;simp only at h
 split at h
 . split at h
   . rename_i hd h9
     simp only [Option.some.injEq,Prod.mk.injEq] at h;obtain ⟨rfl,-⟩:=h;refine ⟨Nat.zero_le _,?_⟩
     have hall:Zba (cut l i (runEnd digB l i))=true:=by
      unfold cut runEnd Zba;rw [Nat.add_sub_cancel_left];have:(List.take (List.takeWhile digB (List.drop i l)).length (List.drop i l))=List.takeWhile digB (List.drop i l):=(List.prefix_iff_eq_take.1 (List.takeWhile_prefix digB)).symm;rw [this];exact List.all_takeWhile
     have hb:=Zdx 9 (cut l i (runEnd digB l i)) (by unfold cut;rw [List.length_take];omega) hall;show (Lit.int .i64 _).wf=true;simp only [Lit.wf,Bool.and_eq_true,decide_eq_true_eq];exact ⟨Int.le_trans (by decide) hb.1,Int.le_trans (Int.le_of_lt hb.2) (by decide)⟩
   . cases h
 . split at h
   . obtain ⟨q,-,hq⟩:=Option.map_eq_some_iff.1 h
     simp only [Prod.mk.injEq] at hq;obtain ⟨rfl,-⟩:=hq;exact ⟨Nat.le_trans (Zf3 _ _ _) hl,h0⟩
   . split at h
     . simp only [Option.some.injEq,Prod.mk.injEq] at h
       obtain ⟨rfl,-⟩:=h;exact ⟨Nat.le_trans (Zf3 _ _ _) hl,h0⟩
     . split at h
       . simp only [Option.some.injEq,Prod.mk.injEq] at h
         obtain ⟨rfl,-⟩:=h;exact ⟨Nat.le_trans (Zf3 _ _ _) hl,h0⟩
       . cases h
theorem Zf4 {l:List UInt8} (hl:l.length<=4000):∀ (f i:Nat) (line:Int) (acc:List Tok),acc.length<=i->i<=l.length->(∀ t ∈ acc,t.text.length<=4000/\okI t.n) ->
 (lexF l f i line acc).1.length<=4000/\∀ t ∈ (lexF l f i line acc).1,t.text.length<=4000/\okI t.n
 | 0,i,line,acc,hi,hil,ha=>⟨by show acc.length<=_;omega,ha⟩
 | f+1,i,line,acc,hi,hil,ha=>by
  by_cases hlt:i<l.length
  . cases hg:Zav l i line with
    | some x =>
     obtain ⟨i',line'⟩:=x;rw [ZcB hlt hg];have:=ZbF hlt hg;exact Zf4 hl f i' line' acc (by omega) this.2 ha
    | none =>
     cases ht:Zaf l i line with
     | some x =>
      obtain ⟨t,k⟩:=x;rw [ZeR hlt hg ht];have:=ZeQ hlt ht;refine Zf4 hl f k line (acc ++ [t]) (by simp;omega) this.2.1 (λy hy=>?_)
      rcases List.mem_append.1 hy with hy | hy
      . exact ha y hy
      . simp only [List.mem_cons,List.not_mem_nil,or_false] at hy
        subst hy;exact ZiV hl ht
     | none=>rw [ZeS hlt hg ht];exact ⟨Nat.zero_le _,λt ht=>by simp at ht⟩
  . rw [ZeT hlt];exact ⟨by show acc.length<=_;omega,ha⟩
theorem Zf5 (l:List UInt8):TsOk (lexM l).1:=by
 unfold lexM
 split
 . rename_i hl
   have h:=Zf4 hl (l.length+1) 0 1 [] (sqR _) (Nat.zero_le _) (λt ht=>by simp at ht);exact ⟨h.1,λt ht=>(h.2 t ht).1,λt ht=>(h.2 t ht).2⟩
 . exact ⟨Nat.zero_le _,λt ht=>by simp at ht,λt ht=>by simp at ht⟩
theorem ZdW {w:World} {B pb:Nat} {v:Value} {ts:List Tok} (h:w.ownsRow B 43 4 v ts.length (Za6 ts)) (hp:w.heap.size<=pb):∃ lp cap,v=.slice lp ts.length cap/\ZbO w pb lp ts:=by
 rcases h.2 with ⟨hn,hv⟩ | ⟨g,cap,cur,hv,hB,hg,hr⟩
 . refine ⟨none,0,by rw [hn,hv],λi t hi=>?_⟩
   have:=(List.getElem?_eq_some_iff.1 hi).1;omega
 . refine ⟨_,cap,hv,λi t hi=>?_⟩
   have hlt:=(List.getElem?_eq_some_iff.1 hi).1;have ht:ts[i]=t:=(List.getElem?_eq_some_iff.1 hi).2;have hgl:g<w.heap.size:=(Array.getElem?_eq_some_iff.1 hg).1;subst hv
   have cell:∀ j,j<4->w.cell? ⟨g,i * 4+j,none⟩=t.cells[j]?:=λj hj=>by
    rw [h.cellAt (i * 4+j) (by omega),ZhJ ts i hlt j hj,ht]
   exact ⟨g,rfl,by omega,hgl,cell 0 (by omega),cell 1 (by omega),cell 2 (by omega),cell 3 (by omega)⟩
theorem Zfp {w w':World} {B pb:Nat} {v:Value} {ts:List Tok} (h:w.ownsRow B 43 4 v ts.length (Za6 ts)) (hk:∀ a,B<=a->a<w.heap.size->w'.heap[a]?=w.heap[a]?) (hs:w'.heap.size<=pb):∃ lp cap,v=.slice lp ts.length cap/\ZbO w' pb lp ts:=by
 refine ZdW (B:=B) ⟨h.1,?_⟩ hs
 rcases h.2 with hn | ⟨g,cap,cur,hv,hB,hg,hr⟩
 . exact .inl hn
 . exact .inr ⟨g,cap,cur,hv,hB,(hk g hB (Array.getElem?_eq_some_iff.1 hg).1).trans hg,hr⟩
end Go.Proofs.YtacioihbhkcdcaaGreatDoor
