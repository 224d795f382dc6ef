/-
  SetAt SetOps
-/
import Derived.Test.YtbdhpganbbandaaGreatDoorP03
set_option maxHeartbeats 16000000
set_option linter.unusedVariables false
set_option maxRecDepth 100000
namespace Go.Proofs.YtbdhpganbbandaaGreatDoor
open Go.ChangeShapes Go.WideShapes Go.ChangeAt Go.RowKit
section
open Go.Maps Go.WideMaps
theorem lawN:Keyed Tryz.prog 9:=string_keyed Tryz.underlying9
structure SetOkN (D:DataW Unit):Prop where
 tidy:Tidy D
 keys:∀ es,D=.map es->∀ p ∈ es,(∃ x,p.1=.string x)/\p.2=.agg []
theorem SetOkN.put {D:DataW Unit} (h:SetOkN D) (x:List UInt8):SetOkN (D.put (.string x) (.agg [])):=by
 refine ⟨h.tidy.put (k:=.string x) trivial _,λes he p hp=>?_⟩;obtain ⟨es0,rfl,hp0⟩:=h.tidy;have he':DataW.insert (Lit.string x,DataW.agg []) (es0.filter λp=>!p.1.sameKey (.string x))=es:=(by simpa [DataW.put] using he);rw [<-he'] at hp;have hp2:=((insert_perm (Lit.string x,(DataW.agg []:DataW Unit)) (es0.filter λp=>!p.1.sameKey (.string x))).mem_iff).1 hp
 rcases List.mem_cons.1 hp2 with rfl | hp2
 . exact ⟨⟨x,rfl⟩,rfl⟩
 . exact h.keys es0 rfl p (List.mem_filter.1 hp2).1
theorem SetOkN.del {D:DataW Unit} (h:SetOkN D) (x:List UInt8):SetOkN (D.del (.string x)):=by
 refine ⟨h.tidy.del _,λes he p hp=>?_⟩;obtain ⟨es0,rfl,hp0⟩:=h.tidy;have he':(es0.filter λp=>!p.1.sameKey (.string x))=es:=(by simpa [DataW.del] using he);rw [<-he'] at hp;exact h.keys es0 rfl p (List.mem_filter.1 hp).1
def SetAt (w:World) (mb n:Nat) (S:List UInt8->Prop):Prop :=
 ∃ D,w.ownsMap Tryz.prog 9 unitElem mb n D/\SetOkN D/\∀ z,has D (.string z)=true ↔ S z
theorem SetAt.keep {w w':World} {mb n:Nat} {S:List UInt8->Prop} (h:SetAt w mb n S) (he:w'.heap[mb]?=w.heap[mb]?):SetAt w' mb n S:=by
 obtain ⟨D,⟨es,clock,h1,h2⟩,h3⟩:=h;exact ⟨D,⟨es,clock,he.trans h1,h2⟩,h3⟩
theorem SetAt.lt {w:World} {mb n:Nat} {S:List UInt8->Prop} (h:SetAt w mb n S):mb<w.heap.size:=by
 obtain ⟨D,⟨es,clock,h1,h2⟩,h3⟩:=h;exact (Array.getElem?_eq_some_iff.1 h1).1
theorem SetAt.iff {w:World} {mb n:Nat} {S S':List UInt8->Prop} (h:SetAt w mb n S) (hS:∀ z,S z ↔ S' z):SetAt w mb n S':=by
 obtain ⟨D,h1,h2,h3⟩:=h;exact ⟨D,h1,h2,λz=>(h3 z).trans (hS z)⟩
theorem SetAt.more {w:World} {mb n n':Nat} {S:List UInt8->Prop} (h:SetAt w mb n S) (hn:n<=n'):SetAt w mb n' S:=by
 obtain ⟨D,h1,h2⟩:=h;exact ⟨D,h1.mono hn,h2⟩
theorem SetAt.made (w:World):SetAt (w.alloc (.map #[] 0)) w.heap.size 0 (λ_=>False) :=
 ⟨.map [],World.ownsMap_made w _ _ _,⟨⟨[],rfl,List.Pairwise.nil⟩,λes he p hp=>by cases he;cases hp⟩,λz=>by simp [has_eq]⟩
end
section
open Go.Maps Go.WideMaps Go.Proofs.Tryz
theorem addN_any (w:World) (mb n:Nat) (S:List UInt8->Prop) (s:ByteArray) (h:SetAt w mb n S) (hs:okS s) (hn:n<maxLen) :
 Calls prog 149 #[.map (some mb),.string s] w λe w'=>e=.returned (.tuple #[])/\SetAt w' mb (n+1) (λz=>S z\/z=s.data.toList)/\Off [mb] w w':=by
 obtain ⟨D,hm,hD,hh⟩:=h;have H:=hid hm;have hk:keyOf prog 9 (.string s)=some (.string s.data.toList):=keyOf_string_mk underlying9 hs;clear hm;go_enter func149,ntmps149;go_wp2_with (at_mapUpdate;refine wpList_mapUpdate_own _ rfl _ _ _ 162 rfl 9 _ lawN underlying162 unitElem mb n D rfl H.out hn _ _ _ rfl rfl hk (.agg []) [] unitElem_mk ?_;intro w1 hm1 hg1);go_end0;refine ⟨rfl,⟨_,hm1,hD.put _,λz=>?_⟩,Off.of_grown hg1 (by simp)⟩;by_cases hz:z=s.data.toList
 . subst hz
   have hM:IsMap D:=(by obtain ⟨es,rfl,_⟩:=hD.tidy;exact ⟨es,rfl⟩);simp [has_put_same hM (k:=Lit.string s.data.toList) trivial]
 . rw [has_put_other (by intro e;cases e;exact hz rfl),hh z]
   simp [hz]
theorem removeN_any (w:World) (mb n:Nat) (S:List UInt8->Prop) (s:ByteArray) (h:SetAt w mb n S) (hs:okS s) :
 Calls prog 189 #[.map (some mb),.string s] w λe w'=>e=.returned (.tuple #[])/\SetAt w' mb n (λz=>S z/\z≠s.data.toList)/\Off [mb] w w':=by
 obtain ⟨D,hm,hD,hh⟩:=h;have H:=hid hm;have hk:keyOf prog 9 (.string s)=some (.string s.data.toList):=keyOf_string_mk underlying9 hs;clear hm;go_enter func189,ntmps189;go_wp2_with (at_delete;refine wpList_delete_own _ rfl _ _ 162 9 rfl _ lawN underlying162 unitElem mb n D rfl H.out _ _ rfl hk ?_;intro w1 hm1 hg1);go_end0;refine ⟨rfl,⟨_,hm1,hD.del _,λz=>?_⟩,Off.of_grown hg1.grown (by simp)⟩;by_cases hz:z=s.data.toList
 . subst hz
   simp [has_del_same]
 . rw [has_del_other (by intro e;cases e;exact hz rfl),hh z]
   simp [hz]
end
end Go.Proofs.YtbdhpganbbandaaGreatDoor
