/-
  OwnStrR
-/
import Derived.Test.YtonpgdfpgpepiaaGreatDoorP20
import Derived.Test.YtonpgdfpgpepiaaGreatDoorP13
set_option maxHeartbeats 16000000
set_option linter.unusedVariables false
set_option maxRecDepth 100000
namespace Go.Proofs.YtonpgdfpgpepiaaGreatDoor
open Go.ChangeShapes Go.WideShapes Go.ChangeAt Go.RowKit
theorem OwnS.sliceW {w:World} {B:Nat} {v:Value} {l:List ByteArray} (h:OwnS w B v l):∃ a cap,v=.slice a l.length cap∧l.length≤cap:=by
  rcases h.1.2 with ⟨hv,hn⟩ | ⟨g,cap,cur,hv,_,_,hc,_⟩
  · exact ⟨none,0,by rw [hv,hn],by omega⟩
  · exact ⟨_,cap,hv,hc⟩
theorem OwnS.formS {w:World} {B:Nat} {v:Value} {l:List ByteArray} (h:OwnS w B v l) (hn:0<l.length):∃ g cap,v=.slice (some ⟨g,0,none⟩) l.length cap∧l.length≤cap∧B≤g∧g<w.heap.size:=by
  rcases h.1.2 with ⟨_,h0⟩ | ⟨g,cap,cur,hv,hB,hg,hc,_⟩
  · omega
  · exact ⟨g,cap,hv,hc,hB,(Array.getElem?_eq_some_iff.1 hg).1⟩
theorem OwnS.getD {w:World} {B g n cap:Nat} {l:List ByteArray} (h:OwnS w B (.slice (some ⟨g,0,none⟩) n cap) l) (hn:l.length=n):∀ i,i<l.length→w.cell? ⟨g,i,none⟩=some (.string (l.getD i ByteArray.empty)):=by
  subst hn
  intro i hi
  rw [h.1.cellAt i (by omega)]
  simp [strs,List.getD,hi]
theorem eqStringS_nil (a1 a2:Option Addr) (c1 c2:Nat) (w:World) :
    Calls Tryz.prog 8 #[.slice a1 0 c1,.slice a2 0 c2] w fun e w'=>e=.returned (.bool true)∧∃ k,w'=w.drewN k:=by
  go_enter Tryz.func8,Tryz.ntmps8
  go_wp2
  go_loop [5] (fun i=>i=.int .i64 0) (fun _=>0)
  case atStart=>rfl
  case round =>
    subst hrel
    go_wp2
    go_ret
    exact ⟨rfl,0,rfl⟩
theorem markStringS_nil (a1:Option Addr) (c1:Nat) (k:Int) (w:World) :
    Calls Tryz.prog 11 #[.slice a1 0 c1,.int .i64 k] w fun e w'=>e=.returned (.int .i64 k)∧w'=w:=by
  go_enter Tryz.func11,Tryz.ntmps11
  go_wp2
  go_loop [1,5] (fun kv i=>i=.int .i64 0∧kv=.int .i64 k) (fun _ _=>0)
  case atStart=>exact ⟨rfl,rfl⟩
  case round =>
    obtain ⟨rfl,rfl⟩:=hrel
    go_wp2
    go_ret
    exact ⟨rfl,rfl⟩
theorem heldStringS_nil (a1:Option Addr) (c1:Nat) (k:Int) (w:World) :
    Calls Tryz.prog 12 #[.slice a1 0 c1,.int .i64 k] w fun e w'=>e=.returned (.int .i64 k)∧w'=w:=by
  go_enter Tryz.func12,Tryz.ntmps12
  go_wp2
  go_loop [1,5] (fun kv i=>i=.int .i64 0∧kv=.int .i64 k) (fun _ _=>0)
  case atStart=>exact ⟨rfl,rfl⟩
  case round =>
    obtain ⟨rfl,rfl⟩:=hrel
    go_wp2
    go_ret
    exact ⟨rfl,rfl⟩
theorem eqS_own {w:World} {B1 B2:Nat} {u1 u2:Value} {l:List ByteArray} (h1:OwnS w B1 u1 l) (h2:OwnS w B2 u2 l) (hl:l.length≤4194304) :
    Calls Tryz.prog 8 #[u1,u2] w fun e w'=>e=.returned (.bool true)∧Below w.heap.size w w':=by
  by_cases hn:l.length=0
  · obtain ⟨a1,c1,rfl,_⟩:=h1.sliceW
    obtain ⟨a2,c2,rfl,_⟩:=h2.sliceW
    rw [hn]
    exact (eqStringS_nil a1 a2 c1 c2 w).mono fun e w' ⟨he,k,hk⟩=>⟨he,by rw [hk];exact ⟨rfl,rfl,rfl,Nat.le_refl _,fun _ _=>rfl⟩⟩
  · obtain ⟨g1,c1,rfl,hc1,_⟩:=h1.formS (by omega)
    obtain ⟨g2,c2,rfl,hc2,_⟩:=h2.formS (by omega)
    exact (eqStringS_some g1 g2 c1 c2 l w hl hc1 hc2 (h1.getD rfl) (h2.getD rfl)).mono fun e w' ⟨he,k,hk⟩=>⟨he,by rw [hk];exact ⟨rfl,rfl,rfl,Nat.le_refl _,fun _ _=>rfl⟩⟩
def MarkedS (w:World) (u:Value) (n:Nat):Prop:=(n=0∧∃ a c,u=.slice a 0 c)∨∃ g cap,u=.slice (some ⟨g,0,none⟩) n cap∧n≤cap∧w.ownsRow 0 9 1 u n (marks 1 n)
theorem MarkedS.next {w w':World} {u:Value} {n:Nat} (h:MarkedS w u n) (hb:Below w.heap.size w w'):MarkedS w' u n:=by
  rcases h with h | ⟨g,cap,hu,hc,ho⟩
  · exact .inl h
  · refine .inr ⟨g,cap,hu,hc,ho.1,?_⟩
    rcases ho.2 with hn | ⟨g',cap',cur,hv,hB,hg,hr⟩
    · exact .inl hn
    · exact .inr ⟨g',cap',cur,hv,hB,(hb.block g' (Array.getElem?_eq_some_iff.1 hg).1).trans hg,hr⟩
theorem ownsRow_low {w:World} {B c n:Nat} {e:TypeId} {v:Value} {xs:List Value} (h:w.ownsRow B e c v n xs):w.ownsRow 0 e c v n xs:=by
  refine ⟨h.1,?_⟩
  rcases h.2 with hn | ⟨g',cap',cur,hv,hB,hr⟩
  · exact .inl hn
  · exact .inr ⟨g',cap',cur,hv,Nat.zero_le _,hr⟩
theorem markS_own {w:World} {B:Nat} {u:Value} {l:List ByteArray} (h:OwnS w B u l) (hl:l.length≤4194304) :
    Calls Tryz.prog 11 #[u,.int .i64 1] w fun e w'=>e=.returned (.int .i64 ((1+l.length:Nat):Int))∧MarkedS w' u l.length∧Below B w w':=by
  by_cases hn:l.length=0
  · obtain ⟨a1,c1,rfl,_⟩:=h.sliceW
    rw [hn]
    exact (markStringS_nil a1 c1 1 w).mono fun e w' ⟨he,hk⟩=>⟨he,.inl ⟨rfl,_,_,rfl⟩,by rw [hk];exact Below.refl _ _⟩
  · obtain ⟨g1,c1,rfl,hc1,hB,hg⟩:=h.formS (by omega)
    refine (markStringS_own B g1 l.length c1 1 _ w hl (by omega) (by omega) h.1).mono fun e w' ⟨he,ho,hgr⟩=>⟨he,.inr ⟨g1,c1,rfl,hc1,ownsRow_low ho⟩,?_⟩
    exact ⟨hgr.os,hgr.tape,hgr.output,hgr.size,fun j hj=>hgr.block j (by omega) (by simp;omega)⟩
theorem heldS_own {w:World} {u:Value} {n:Nat} (h:MarkedS w u n) (hl:n≤4194304) :
    Calls Tryz.prog 12 #[u,.int .i64 1] w fun e w'=>e=.returned (.int .i64 ((1+n:Nat):Int))∧Below w.heap.size w w':=by
  rcases h with ⟨rfl,a,c,rfl⟩ | ⟨g,cap,rfl,hc,ho⟩
  · exact (heldStringS_nil a c 1 w).mono fun e w' ⟨he,hk⟩=>⟨he,by rw [hk];exact Below.refl _ _⟩
  · refine heldStringS_own g n cap 1 w hl hc (by omega) (by omega) (fun i hi=>?_)
    rw [ho.cellAt i (by omega),marks_get 1 n i hi]
end Go.Proofs.YtonpgdfpgpepiaaGreatDoor
