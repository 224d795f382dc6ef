/-
  CopyN
-/
import Derived.Test.YtbdhpganbbandaaGreatDoorP18
import Derived.Lib.SlMapMerge
import Derived.Maps.RangeWalk
set_option maxHeartbeats 16000000
set_option linter.unusedVariables false
set_option maxRecDepth 100000
namespace Go.Proofs.YtbdhpganbbandaaGreatDoor
open Go.ChangeShapes Go.WideShapes Go.ChangeAt Go.RowKit
section
open Go.Maps Go.WideMaps Go.Proofs.Tryz
theorem copyD_any (bd bs nd ns:Nat) (Dd Ds:DataW Unit) (w:World) (hd:w.ownsMap prog 9 unitElem bd nd Dd) (hs:w.ownsMap prog 9 unitElem bs ns Ds) (hne:bd≠bs) (hroom:nd+Maps.size Ds<=maxLen) :
 Calls prog 224 #[.map (some bd),.map (some bs)] w λe w'=>e=.returned (.tuple #[])/\w'.ownsMap prog 9 unitElem bd (nd+Maps.size Ds) (Lib.mergeD Dd Ds)/\w.grownBy w' (some bd):=by
 have hbd:=hd.lt;have hbs:=hs.lt;go_enter func224,ntmps224;go_wp2_with (at_range;refine wpList_range_own _ rfl _ 162 rfl 9 _ lawN underlying162 unitElem bs ns _ rfl hs ?_;intro w0 hrg0 hg0 hs0)
 go_frame
 go_loopw [8] (λ_ wr=>∃ (left:Lit->Bool) (cnt:Nat) (Dout:DataW Unit),wr.ranges prog 9 unitElem bs w.heap.size ns Ds left cnt/\cnt<=Maps.size Ds/\wr.ownsMap prog 9 unitElem bd (nd+(Maps.size Ds - cnt)) Dout/\Merged Dout Dd Ds left/\w.grownBy wr (some bd)) (λ_ wr=>wr.rangeLeft bs w.heap.size)
 case atStart=>exact ⟨_,_,Dd,hrg0,Nat.le_refl _,(hd.kept hg0 (by simp)).mono (by omega),merged_start Dd Ds,hg0.but _⟩
 case round =>
  obtain ⟨left,cnt,Dout,hrg,hcs,hout,hM,hgw⟩:=hrel;go_wp2_with (at_next;refine wpList_next_ranges _ rfl _ rfl 9 lawN unitElem id id (λkey _ _=>⟨key,rfl⟩) (λv _ _=>⟨v,rfl⟩) bs w.heap.size ns _ _ _ rfl hrg ?_ ?_)
  . intro hc0 hl0
    go_wp2;go_end0;subst hc0;have e:=merged_eq lawN.one hM hl0 (hout.canon lawN) (hd.canonK lawN) (hs.canonK lawN);subst e;exact ⟨rfl,by simpa using hout,hgw⟩
  . intro x c kl yd yp w1 cnt1 hkey hlx hv hat hrg1 hlt hg1 hs1 hen
    obtain ⟨rfl,hyd⟩:=unitElem_inv hv;have hout1:=hout.kept hg1 (λe=>by have:=Option.some.inj e;omega);have ga:w1.grownBy (w1.alloc (.cells #[] 223)) none:=World.grownBy_alloc _ _ _;have hout3:=hout1.kept ga (by simp);have hrg3:=hrg1.kept ga (by simp) (by simp);go_wp2_with (at_mapUpdate;refine wpList_mapUpdate_own _ rfl _ _ _ 162 rfl 9 _ lawN underlying162 unitElem bd _ _ rfl hout3 (by omega) _ _ _ rfl rfl hkey yd yp hv ?_;intro w2 hout2 hg2;go_frame);have hrg2:=hrg3.kept hg2 (λe=>hne (Option.some.inj e).symm) (λe=>by have:=Option.some.inj e;omega)
    go_roundw
    case rel=>exact ⟨_,cnt1,_,hrg2,by omega,hout2.mono (by omega),merged_step hM hout.isMap (lawN.key hkey) hat,((hgw.andThen hg1 (λj hj=>.inl (by cases hj;exact Nat.le_refl _))).andThen ga (λj hj=>by cases hj)).andThen hg2 (λj hj=>.inr hj)⟩
    case measure=>rw [hrg2.left_eq,hrg.left_eq];exact hlt
theorem has_merge {D:DataW Unit} (hD:SetOkN D):∀ (es:List (Lit × DataW Unit)),(∀ p ∈ es,(∃ x,p.1=.string x)/\p.2=.agg [])->SetOkN (es.foldl (λD p=>D.put p.1 p.2) D)/\∀ z,has (es.foldl (λD p=>D.put p.1 p.2) D) (.string z)=true ↔ has D (.string z)=true\/∃ p ∈ es,p.1=.string z
 | [],_=>⟨hD,λz=>by simp⟩
 | q :: qs,h=>by
  obtain ⟨⟨x,hx⟩,hq⟩:=h q (by simp);have hD':SetOkN (D.put q.1 q.2):=(by rw [hx,hq];exact hD.put x);obtain ⟨h1,h2⟩:=has_merge hD' qs (λp hp=>h p (by simp [hp]));refine ⟨h1,λz=>?_⟩;rw [List.foldl_cons,h2 z];have hM:IsMap D:=(by obtain ⟨es,rfl,_⟩:=hD.tidy;exact ⟨es,rfl⟩);by_cases hz:z=x
  . subst hz
    rw [hx];simp [has_put_same hM (k:=Lit.string z) trivial,hx]
  . rw [hx,has_put_other (by intro e;cases e;exact hz rfl)]
    have:¬ Lit.string x=Lit.string z:=(by intro e;cases e;exact hz rfl);simp [hx,this]
theorem SetAt.size {w:World} {mb n:Nat} {D:DataW Unit} (hm:w.ownsMap prog 9 unitElem mb n D):Maps.size D<=n:=by
 obtain ⟨es,clock,-,-,h1,rfl⟩:=hm
 have h2:∀ (q:List (Lit × DataW Unit)),(q.foldr DataW.insert []).length=q.length:=λq=>by
  induction q with
  | nil=>rfl
  | cons x xs ih=>rw [List.foldr_cons,DataW.length_insert,ih];rfl
 show (List.foldr DataW.insert [] _).length<=_;rw [h2,List.length_map,Array.length_toList];exact h1
theorem copyN_any (w:World) (bd bs nd ns:Nat) (S T:List UInt8->Prop) (hd:SetAt w bd nd S) (hs:SetAt w bs ns T) (hne:bd≠bs) (hroom:nd+ns<=maxLen) :
 Calls prog 224 #[.map (some bd),.map (some bs)] w λe w'=>e=.returned (.tuple #[])/\SetAt w' bd (nd+ns) (λz=>S z\/T z)/\Off [bd] w w':=by
 obtain ⟨Dd,hmd,hDd,hhd⟩:=hd;obtain ⟨Ds,hms,hDs,hhs⟩:=hs;have hsz:=SetAt.size hms;refine (copyD_any bd bs nd ns Dd Ds w hmd hms hne (by omega)).mono ?_;rintro e w' ⟨rfl,ho,hg⟩;obtain ⟨es,rfl,hp⟩:=hDs.tidy;obtain ⟨h1,h2⟩:=has_merge hDd es (hDs.keys es rfl);refine ⟨rfl,⟨_,ho.mono (by omega),h1,λz=>(h2 z).trans ?_⟩,Off.of_grown hg (by simp)⟩;show _ ↔ S z\/T z;rw [hhd z,<-hhs z,has_eq,List.any_eq_true]
 constructor
 . rintro (h | ⟨p,hp',e⟩)
   . exact .inl h
   . exact .inr ⟨p,hp',by rw [e];exact WideAt.sameKey_self trivial⟩
 . rintro (h | ⟨p,hp',e⟩)
   . exact .inl h
   . exact .inr ⟨p,hp',WideAt.sameKey_eq e⟩
end
end Go.Proofs.YtbdhpganbbandaaGreatDoor
