/-
  Backward RangeIdx
-/
import Derived.Test.YtacioihbhkcdcaaGreatDoorP03
import Derived.RangeFuncNested
import Derived.RangeFuncBound
import Derived.Shelf.RegionOpen
import Derived.LoopNIn
import Derived.LoopIn
import Derived.Maps.OwnIn
set_option maxHeartbeats 16000000
set_option linter.unusedVariables false
set_option maxRecDepth 100000
namespace Go.Proofs.YtacioihbhkcdcaaGreatDoor
open Go.ChangeShapes Go.WideShapes Go.ChangeAt Go.RowKit
section
open Go.Maps Go.WideMaps Go.Shelf
attribute [local go_sem] Oper.semAt_some
def Zid (n₀ mb:Nat) (W W':World):Prop:=W.heap.size<=W'.heap.size/\∀ g,g<n₀->g≠mb->W'.heap[g]?=W.heap[g]?
theorem Zid.cell {n₀ mb:Nat} {W W':World} (h:Zid n₀ mb W W') {g j:Nat} (hg:g<n₀) (hm:g≠mb):W'.cell? ⟨g,j,none⟩=W.cell? ⟨g,j,none⟩:=sqK (h.2 g hg hm)
end
section
open Go.Maps Go.WideMaps Go.Shelf Go.Proofs.Tryz
attribute [local go_sem] Oper.semAt_some
theorem Zbn {N:Nat} {W:World} {l:Nat} (o':Obj) (h:N<=l):Below N W (W.putObj l o'):=by
 have g:=grownBy_putObj' W l o';refine ⟨g.os,g.tape,g.output,g.size,λk hk=>World.putObj_heap_other (by omega)⟩
theorem ZgY (m:Nat) (l Bn n₀ mb n cap:Nat) (p:Option Addr) (L:List (List Value)) (hn:L.length=n) (hnb:n<=9223372036854775807) (hB:Bn<n₀) (hBm:Bn≠mb) (J:Nat->World->Prop)
 (hY:∀ k W,J k W->k<n->YieldAt Fence.wide m prog l #[.int .i64 ((n - 1 - k:Nat):Nat),.agg (L.getD (n - 1 - k) []).toArray] W λe W'=>e=.returned (.bool true)/\J (k+1) W'/\Zid n₀ mb W W')
 (W:World) (hc:W.cell? ⟨Bn,0,none⟩=some (.slice p n cap))
 (hL:∀ i cs,L[i]?=some cs->cs.length=6/\∃ g off,p=some ⟨g,off,none⟩/\g<n₀/\g≠mb/\∀ j,j<6->W.cell? ⟨g,off+i * 6+j,none⟩=cs[j]?) (h0:J 0 W) :
 CallsIn Fence.wide (m+1) prog 168 #[.func (.yield l) #[] #[],.pointer (some ⟨Bn,0,none⟩)] W λe W'=>(∃ v,e=.returned v)/\J n W':=by
 have HL:=hid hL;have HN:=hid hn;have HY:=hid hY;clear hL hn hY;refine callsIn_of_wp func168 rfl trivial ?_ rfl;simp only [ntmps168,List.size_toArray,List.length_cons,List.length_nil,Nat.reduceAdd,Nat.reduceSub,Array.replicate_succ,Array.replicate_zero,List.push_toArray,List.append_toArray,List.nil_append,List.cons_append]
 gi_wp2
 gi_loopw [3] (λiv wr=>∃ k:Nat,k<=n/\iv=.int .i64 ((n:Int) - 1 - k)/\Hid (J k wr)/\Hid (Zid n₀ mb W wr)) (λiv _=>(intOf iv+1).toNat)
 case atStart=>exact ⟨0,Nat.zero_le _,by go_num,h0,Nat.le_refl _,λ_ _ _=>rfl⟩
 case round =>
  obtain ⟨k,hk,rfl,HJ,HK⟩:=hrel;have xb:=(HK.out.cell (j:=0) hB hBm).trans hc;by_cases hlt:k<n
  . obtain ⟨i,hi⟩:∃ i,i=n - 1 - k:=⟨_,rfl⟩
    have hin:i<n:=(by omega);have hii:(n:Int) - 1 - k=(i:Int):=(by omega);obtain ⟨cs,hcs⟩:=sqA (l:=L) (k:=i) HN.out hin;obtain ⟨hl6,g,off,rfl,hg,hgm,hat⟩:=HL.out i cs hcs;obtain ⟨c0,c1,c2,c3,c4,c5,rfl⟩:=len6 hl6;have a0:=(HK.out.cell hg hgm).trans (hat 0 (by omega));have a1:=(HK.out.cell hg hgm).trans (hat 1 (by omega));have a2:=(HK.out.cell hg hgm).trans (hat 2 (by omega));have a3:=(HK.out.cell hg hgm).trans (hat 3 (by omega));have a4:=(HK.out.cell hg hgm).trans (hat 4 (by omega));have a5:=(HK.out.cell hg hgm).trans (hat 5 (by omega));simp at a0 a1 a2 a3 a4 a5;have hgd:L.getD i [] = [c0,c1,c2,c3,c4,c5]:=(by rw [List.getD_eq_getElem?_getD,hcs];rfl);have hyy:=HY.out k wr HJ.out hlt;rw [<-hi,hgd] at hyy;obtain ⟨fn,tmps,assign,body,hy,hR⟩:=hyy;have hi0:=sqI i;have hi1:(i:Int)<(n:Int):=(by omega);have HII:=hid hii;rw [hii];clear hat hl6 hi hii hgd
    gi_wp2
    refine hR.mono ?_;rintro e W3 ⟨rfl,hJ3,hk3⟩
    gi_wp2
    go_roundw
    case rel=>exact ⟨k+1,by omega,by have:=HII.out;go_num,hJ3,Nat.le_trans HK.out.1 hk3.1,λg hg hm=>(hk3.2 g hg hm).trans (HK.out.2 g hg hm)⟩
    case measure=>simp [intOf]
  . have HS:J n wr:=by
     have:=HJ.out
     rwa [show k=n by omega] at this
    have hneg:((n:Int) - 1 - k) = -1:=(by omega);rw [hneg]
    gi_wp2
    go_end0;exact ⟨⟨_,rfl⟩,HS⟩
theorem ZgZ (p:Option Addr) (n cap:Nat) (w:World):Calls prog 166 #[.slice p n cap] w λe w'=>e=.returned (.func (.func 168) #[] #[.pointer (some ⟨w.heap.size,0,none⟩)])/\w'=w.alloc (.cells #[.slice p n cap] 61):=by
 go_enter func166,ntmps166;go_wp2;go_ret;exact ⟨rfl,rfl⟩
end
end Go.Proofs.YtacioihbhkcdcaaGreatDoor
