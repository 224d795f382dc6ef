/-
  Gen Own Pb Boxes Wt EachGen EachCall ExOwn ModOwn
-/
import Derived.Test.YtefpgpbbgclemaaGreatDoorP01
import Derived.Deep.RegionHeld3
import Derived.WalkSmall
import Derived.Deep.DeepMust
set_option maxHeartbeats 16000000
set_option linter.unusedVariables false
set_option maxRecDepth 100000
namespace Go.Proofs.YtefpgpbbgclemaaGreatDoor
open Go.ChangeShapes Go.WideShapes Go.ChangeAt Go.RowKit
def wtS {α:Type} (f:α→Nat) (xs:List α):Nat:=xs.length+(xs.map f).sum
def leftOf (left wt:Nat):Int:=if left<wt then -1 else ((left - wt:Nat):Int)
theorem leftOf_lt {left wt:Nat} (h:left<wt):leftOf left wt = -1:=if_pos h
theorem leftOf_ge {left wt:Nat} (h:wt≤left):leftOf left wt=((left - wt:Nat):Int):=if_neg (by omega)
theorem sum_take_succ {α:Type} (f:α→Nat) (xs:List α) (k:Nat) (x:α) (h:xs[k]?=some x):((xs.take (k+1)).map f).sum=((xs.take k).map f).sum+f x:=by
  rw [List.take_add_one,h];simp
theorem sum_take_le {α:Type} (f:α→Nat) (xs:List α) (k:Nat):((xs.take k).map f).sum≤(xs.map f).sum:=by
  conv=>rhs;rw [← List.take_append_drop k xs]
  rw [List.map_append,List.sum_append];omega
def SzC {α:Type} (F:FuncId) (H:World→Value→α→Prop) (wt:α→Nat):Prop :=
  ∀ (w:World) (v:Value) (x:α) (left:Nat),H w v x→left≤1048576→Calls Tryz.prog F #[v,.int .i64 left] w fun e w'=>e=.returned (.int .i64 (leftOf left (wt x)))∧Below w.heap.size w w'
theorem SzC.at {α:Type} {F:FuncId} {H:World→Value→α→Prop} {wt:α→Nat} (h:SzC F H wt) {w:World} {v:Value} (x:α) (l:Int) (left:Nat) (hl:l=left) (hx:H w v x) (hb:left≤1048576) :
    Calls Tryz.prog F #[v,.int .i64 l] w fun e w'=>e=.returned (.int .i64 (leftOf left (wt x)))∧Below w.heap.size w w':=by
  subst hl;exact h w v x left hx hb
def EqC {α:Type} (F:FuncId) (H:World→Value→α→Prop):Prop :=
  ∀ (w:World) (v1 v2:Value) (x:α),H w v1 x→H w v2 x→Calls Tryz.prog F #[v1,v2] w fun e w'=>e=.returned (.bool true)∧Below w.heap.size w w'
theorem grownBy_transR {a b c:World} {r:Option Nat} (h:a.grownBy b r) (k:b.grownBy c r):a.grownBy c r :=
  ⟨k.os.trans h.os,k.tape.trans h.tape,k.output.trans h.output,Nat.le_trans h.size k.size,fun j hj hr=>(k.block j (Nat.lt_of_lt_of_le hj h.size) hr).trans (h.block j hj hr)⟩
theorem grownBy_belowR {a b:World} {r:Option Nat} (h:Below a.heap.size a b):a.grownBy b r:=⟨h.os,h.tape,h.output,h.size,fun j hj _=>h.block j hj⟩
theorem own_someR {w:World} {B g n cap c:Nat} {e:TypeId} {xs:List Value} (h:w.ownsRow B e c (.slice (some ⟨g,0,none⟩) n cap) n xs) (j:Nat) (hj:j<n * c):∃ u,w.cell? ⟨g,j,none⟩=some u :=
  ⟨_,(h.cellAt j hj).trans (List.getElem?_eq_getElem (by rw [h.1];exact hj))⟩
theorem make_row {t e:TypeId} {c:Nat} (ht:Tryz.prog.underlying t=some (.slice e)) (hi:((Tryz.prog.info? e).any fun i=>i.zero.isSome && (i.size == c && decide (i.bytes≤1000)))=true) (w:World) (n:Nat) (hn:n≤1048576) :
    ∃ M:Array Value,M.size=n * c∧(Instr.makeSlice t (.int .i64 n) (.int .i64 n)).run Tryz.prog w=.ok (.slice (some ⟨w.heap.size,0,none⟩) n n) (w.alloc (.cells M e)):=by
  cases h:Tryz.prog.info? e with
  | none=>rw [h] at hi;cases hi
  | some i =>
    rw [h] at hi
    simp only [Option.any_some,Bool.and_eq_true,beq_iff_eq,decide_eq_true_eq] at hi
    obtain ⟨hz,hs,hb⟩:=hi
    obtain ⟨z,hz⟩:=Option.isSome_iff_exists.1 hz
    have:=run_make (P:=Tryz.prog) w t e i z ht h hz .i64 .i64 n n (by omega) (Int.le_refl _) (by
      have h1:i.bytes * n≤1000 * 1048576:=Nat.mul_le_mul hb hn
      have h2:((i.bytes * n:Nat):Int)≤((1000 * 1048576:Nat):Int):=by exact_mod_cast h1
      rw [Int.natCast_mul] at h2
      omega) (by omega)
    exact ⟨_,by rw [size_madeCells,hs];simp,this⟩
def Blk (w:World) (b:Nat) (cs:Array Value) (t:TypeId):Prop:=w.heap[b]?=some (.cells cs t)
theorem Blk.cell {w:World} {b:Nat} {cs:Array Value} {t:TypeId} (h:Blk w b cs t) (j:Nat) (v:Value) (hv:cs[j]?=some v):w.cell? ⟨b,j,none⟩=some v:=by
  unfold Blk at h;unfold World.cell?;rw [h];simpa using hv
theorem Blk.frozen {w:World} {b:Nat} {cs:Array Value} {t:TypeId} (h:Blk w b cs t) (j:Nat):w.frozen? ⟨b,j,none⟩=false:=by
  unfold Blk at h;unfold World.frozen?;rw [h];simp
theorem Blk.below {w w':World} {N b:Nat} {cs:Array Value} {t:TypeId} (h:Blk w b cs t) (hb:Below N w w') (hN:b<N):Blk w' b cs t:=(hb.block b hN).trans h
theorem Blk.new {w:World} {cs:Array Value} {t:TypeId}:Blk (w.alloc (.cells cs t)) w.heap.size cs t:=by
  show (w.heap.push _)[w.heap.size]?=_
  simp
theorem Blk.alloc {w:World} {b:Nat} {cs:Array Value} {t:TypeId} {o:Obj} (h:Blk w b cs t):Blk (w.alloc o) b cs t :=
  (Below.heap_alloc _ _ _ (by unfold Blk at h;exact (Array.getElem?_eq_some_iff.1 h).1)).trans h
theorem Blk.same {w:World} {b j:Nat} {cs cs':Array Value} {t:TypeId} {v:Value} (h:Blk w b cs t) (hc:cs.setIfInBounds j v=cs'):Blk (w.setCell ⟨b,j,none⟩ v) b cs' t:=by
  subst hc;exact heap_setCell_same w b j cs t v h
theorem Blk.other {w:World} {b:Nat} {p:Addr} {cs:Array Value} {t:TypeId} {v:Value} (h:Blk w b cs t) (hp:b≠p.block):Blk (w.setCell p v) b cs t:=(Below.heap_setCell _ _ _ _ hp).trans h
theorem SameOn.setCell {S:Nat→Prop} {a b:World} (h:SameOn S a b) {p:Addr} (hp:¬ S p.block) (v:Value):SameOn S a (b.setCell p v) :=
  ⟨by simpa [World.setCell] using h.1,fun g hg hl=>(Below.heap_setCell _ _ _ _ (by intro e;exact hp (e ▸ hg))).trans (h.2 g hg hl)⟩
theorem setCell_hs (w:World) (p:Addr) (v:Value):(w.setCell p v).heap.size=w.heap.size:=by simp [World.setCell]
theorem set2_other {xs:List Value} {d0 d1:Value} {m o:Nat} (h:m<o):((xs.set o d0).set (o+1) d1)[m]?=xs[m]?:=by
  rw [List.getElem?_set_ne (by omega),List.getElem?_set_ne (by omega)]
theorem set2_self {xs:List Value} {d0 d1:Value} {o:Nat} (h:o+1<xs.length) (j:Nat) (hj:j<2):((xs.set o d0).set (o+1) d1)[o+j]? = [d0,d1][j]?:=by
  match j,hj with
  | 0,_=>rw [List.getElem?_set_ne (by omega)];exact List.getElem?_set_self (by omega)
  | 1,_=>rw [List.getElem?_set_self (by simp only [List.length_set];omega)];rfl
theorem stored2 {w:World} {B g n cap:Nat} {e:TypeId} {xs:List Value} (h:w.ownsRow B e 2 (.slice (some ⟨g,0,none⟩) n cap) n xs) (o:Nat) (d0 d1:Value) :
    ((w.setCell ⟨g,o,none⟩ d0).setCell ⟨g,o+1,none⟩ d1).ownsRow B e 2 (.slice (some ⟨g,0,none⟩) n cap) n ((xs.set o d0).set (o+1) d1)∧w.grownBy ((w.setCell ⟨g,o,none⟩ d0).setCell ⟨g,o+1,none⟩ d1) (some g):=by
  have s0:=h.stored o d0
  have s1:=s0.1.stored (o+1) d1
  exact ⟨s1.1,grownBy_transR s0.2 (s1.2)⟩
theorem set3_other {xs:List Value} {d0 d1 d2:Value} {m o:Nat} (h:m<o):(((xs.set o d0).set (o+1) d1).set (o+2) d2)[m]?=xs[m]?:=by
  rw [List.getElem?_set_ne (by omega),List.getElem?_set_ne (by omega),List.getElem?_set_ne (by omega)]
theorem set3_self {xs:List Value} {d0 d1 d2:Value} {o:Nat} (h:o+2<xs.length) (j:Nat) (hj:j<3):(((xs.set o d0).set (o+1) d1).set (o+2) d2)[o+j]? = [d0,d1,d2][j]?:=by
  match j,hj with
  | 0,_=>rw [List.getElem?_set_ne (by omega),List.getElem?_set_ne (by omega)];exact List.getElem?_set_self (by omega)
  | 1,_=>rw [List.getElem?_set_ne (by omega),List.getElem?_set_self (by simp only [List.length_set];omega)];rfl
  | 2,_=>rw [List.getElem?_set_self (by simp only [List.length_set];omega)];rfl
theorem stored3 {w:World} {B g n cap:Nat} {e:TypeId} {xs:List Value} (h:w.ownsRow B e 3 (.slice (some ⟨g,0,none⟩) n cap) n xs) (o:Nat) (d0 d1 d2:Value) :
    (((w.setCell ⟨g,o,none⟩ d0).setCell ⟨g,o+1,none⟩ d1).setCell ⟨g,o+2,none⟩ d2).ownsRow B e 3 (.slice (some ⟨g,0,none⟩) n cap) n (((xs.set o d0).set (o+1) d1).set (o+2) d2)∧w.grownBy (((w.setCell ⟨g,o,none⟩ d0).setCell ⟨g,o+1,none⟩ d1).setCell ⟨g,o+2,none⟩ d2) (some g):=by
  have s0:=h.stored o d0
  have s1:=s0.1.stored (o+1) d1
  have s2:=s1.1.stored (o+2) d2
  exact ⟨s2.1,grownBy_transR s0.2 (grownBy_transR s1.2 (s2.2))⟩
theorem set4_other {xs:List Value} {d0 d1 d2 d3:Value} {m o:Nat} (h:m<o):((((xs.set o d0).set (o+1) d1).set (o+2) d2).set (o+3) d3)[m]?=xs[m]?:=by
  rw [List.getElem?_set_ne (by omega),List.getElem?_set_ne (by omega),List.getElem?_set_ne (by omega),List.getElem?_set_ne (by omega)]
theorem set4_self {xs:List Value} {d0 d1 d2 d3:Value} {o:Nat} (h:o+3<xs.length) (j:Nat) (hj:j<4):((((xs.set o d0).set (o+1) d1).set (o+2) d2).set (o+3) d3)[o+j]? = [d0,d1,d2,d3][j]?:=by
  match j,hj with
  | 0,_=>rw [List.getElem?_set_ne (by omega),List.getElem?_set_ne (by omega),List.getElem?_set_ne (by omega)];exact List.getElem?_set_self (by omega)
  | 1,_=>rw [List.getElem?_set_ne (by omega),List.getElem?_set_ne (by omega),List.getElem?_set_self (by simp only [List.length_set];omega)];rfl
  | 2,_=>rw [List.getElem?_set_ne (by omega),List.getElem?_set_self (by simp only [List.length_set];omega)];rfl
  | 3,_=>rw [List.getElem?_set_self (by simp only [List.length_set];omega)];rfl
theorem set5_other {xs:List Value} {d0 d1 d2 d3 d4:Value} {m o:Nat} (h:m<o):(((((xs.set o d0).set (o+1) d1).set (o+2) d2).set (o+3) d3).set (o+4) d4)[m]?=xs[m]?:=by
  rw [List.getElem?_set_ne (by omega),List.getElem?_set_ne (by omega),List.getElem?_set_ne (by omega),List.getElem?_set_ne (by omega),List.getElem?_set_ne (by omega)]
theorem set5_self {xs:List Value} {d0 d1 d2 d3 d4:Value} {o:Nat} (h:o+4<xs.length) (j:Nat) (hj:j<5):(((((xs.set o d0).set (o+1) d1).set (o+2) d2).set (o+3) d3).set (o+4) d4)[o+j]? = [d0,d1,d2,d3,d4][j]?:=by
  match j,hj with
  | 0,_=>rw [List.getElem?_set_ne (by omega),List.getElem?_set_ne (by omega),List.getElem?_set_ne (by omega),List.getElem?_set_ne (by omega)];exact List.getElem?_set_self (by omega)
  | 1,_=>rw [List.getElem?_set_ne (by omega),List.getElem?_set_ne (by omega),List.getElem?_set_ne (by omega),List.getElem?_set_self (by simp only [List.length_set];omega)];rfl
  | 2,_=>rw [List.getElem?_set_ne (by omega),List.getElem?_set_ne (by omega),List.getElem?_set_self (by simp only [List.length_set];omega)];rfl
  | 3,_=>rw [List.getElem?_set_ne (by omega),List.getElem?_set_self (by simp only [List.length_set];omega)];rfl
  | 4,_=>rw [List.getElem?_set_self (by simp only [List.length_set];omega)];rfl
theorem set6_other {xs:List Value} {d0 d1 d2 d3 d4 d5:Value} {m o:Nat} (h:m<o):((((((xs.set o d0).set (o+1) d1).set (o+2) d2).set (o+3) d3).set (o+4) d4).set (o+5) d5)[m]?=xs[m]?:=by
  rw [List.getElem?_set_ne (by omega),List.getElem?_set_ne (by omega),List.getElem?_set_ne (by omega),List.getElem?_set_ne (by omega),List.getElem?_set_ne (by omega),List.getElem?_set_ne (by omega)]
theorem set6_self {xs:List Value} {d0 d1 d2 d3 d4 d5:Value} {o:Nat} (h:o+5<xs.length) (j:Nat) (hj:j<6):((((((xs.set o d0).set (o+1) d1).set (o+2) d2).set (o+3) d3).set (o+4) d4).set (o+5) d5)[o+j]? = [d0,d1,d2,d3,d4,d5][j]?:=by
  match j,hj with
  | 0,_=>rw [List.getElem?_set_ne (by omega),List.getElem?_set_ne (by omega),List.getElem?_set_ne (by omega),List.getElem?_set_ne (by omega),List.getElem?_set_ne (by omega)];exact List.getElem?_set_self (by omega)
  | 1,_=>rw [List.getElem?_set_ne (by omega),List.getElem?_set_ne (by omega),List.getElem?_set_ne (by omega),List.getElem?_set_ne (by omega),List.getElem?_set_self (by simp only [List.length_set];omega)];rfl
  | 2,_=>rw [List.getElem?_set_ne (by omega),List.getElem?_set_ne (by omega),List.getElem?_set_ne (by omega),List.getElem?_set_self (by simp only [List.length_set];omega)];rfl
  | 3,_=>rw [List.getElem?_set_ne (by omega),List.getElem?_set_ne (by omega),List.getElem?_set_self (by simp only [List.length_set];omega)];rfl
  | 4,_=>rw [List.getElem?_set_ne (by omega),List.getElem?_set_self (by simp only [List.length_set];omega)];rfl
  | 5,_=>rw [List.getElem?_set_self (by simp only [List.length_set];omega)];rfl
theorem stored6 {w:World} {B g n cap:Nat} {e:TypeId} {xs:List Value} (h:w.ownsRow B e 6 (.slice (some ⟨g,0,none⟩) n cap) n xs) (o:Nat) (d0 d1 d2 d3 d4 d5:Value) :
    ((((((w.setCell ⟨g,o,none⟩ d0).setCell ⟨g,o+1,none⟩ d1).setCell ⟨g,o+2,none⟩ d2).setCell ⟨g,o+3,none⟩ d3).setCell ⟨g,o+4,none⟩ d4).setCell ⟨g,o+5,none⟩ d5).ownsRow B e 6 (.slice (some ⟨g,0,none⟩) n cap) n ((((((xs.set o d0).set (o+1) d1).set (o+2) d2).set (o+3) d3).set (o+4) d4).set (o+5) d5)∧w.grownBy ((((((w.setCell ⟨g,o,none⟩ d0).setCell ⟨g,o+1,none⟩ d1).setCell ⟨g,o+2,none⟩ d2).setCell ⟨g,o+3,none⟩ d3).setCell ⟨g,o+4,none⟩ d4).setCell ⟨g,o+5,none⟩ d5) (some g):=by
  have s0:=h.stored o d0
  have s1:=s0.1.stored (o+1) d1
  have s2:=s1.1.stored (o+2) d2
  have s3:=s2.1.stored (o+3) d3
  have s4:=s3.1.stored (o+4) d4
  have s5:=s4.1.stored (o+5) d5
  exact ⟨s5.1,grownBy_transR s0.2 (grownBy_transR s1.2 (grownBy_transR s2.2 (grownBy_transR s3.2 (grownBy_transR s4.2 (s5.2)))))⟩
theorem str_ne {a b:ByteArray} (h:¬ a=b):¬ a.toList=b.toList:=fun e=>h (bytes_inj (by rw [← ByteArray.toList_eq,← ByteArray.toList_eq,e]))
theorem str_neB {a b:ByteArray} (h:¬ a=b):(a.toList == b.toList)=false:=by simpa using str_ne h
theorem Blk.lt {w:World} {b:Nat} {cs:Array Value} {t:TypeId} (h:Blk w b cs t):b<w.heap.size:=by
  unfold Blk at h;exact (Array.getElem?_eq_some_iff.1 h).1
theorem Blk.next {w w':World} {b:Nat} {cs:Array Value} {t:TypeId} (h:Blk w b cs t) (hb:Below w.heap.size w w'):Blk w' b cs t:=h.below hb h.lt
theorem cell_next {w w':World} {a:Addr} {v:Value} (hb:Below w.heap.size w w') (h:w.cell? a=some v):w'.cell? a=some v:=by
  refine (hb.cell (p:=a) ?_).trans h
  unfold World.cell? at h
  split at h
  · rename_i heq;exact (Array.getElem?_eq_some_iff.1 heq).1
  · cases h
theorem Blk.same_on {w w':World} {b:Nat} {cs:Array Value} {t:TypeId} (h:Blk w b cs t) (hs:SameOn All w w'):Blk w' b cs t :=
  (hs.2 b trivial (by unfold Blk at h;exact (Array.getElem?_eq_some_iff.1 h).1)).trans h
section
def KeepOn (fp:List Nat) (w w':World):Prop:=∀ a ∈ fp,w'.heap[a]?=w.heap[a]?
theorem KeepOn.sub {fp fp':List Nat} {w w':World} (h:KeepOn fp w w') (hs:∀ a ∈ fp',a ∈ fp):KeepOn fp' w w':=fun a ha=>h a (hs a ha)
theorem KeepOn.below {fp:List Nat} {w w':World} {N:Nat} (h:Below N w w') (hs:∀ a ∈ fp,a<N):KeepOn fp w w':=fun a ha=>h.block a (hs a ha)
structure Off (fp:List Nat) (w w':World):Prop where
  os:w'.os=w.os
  tape:w'.tape=w.tape
  output:w'.output=w.output
  size:w.heap.size≤w'.heap.size
  block:∀ a,a<w.heap.size→a ∉ fp→w'.heap[a]?=w.heap[a]?
theorem Off.refl (fp:List Nat) (w:World):Off fp w w:=⟨rfl,rfl,rfl,Nat.le_refl _,fun _ _ _=>rfl⟩
theorem Off.trans {fp:List Nat} {a b c:World} (h:Off fp a b) (k:Off fp b c):Off fp a c :=
  ⟨k.os.trans h.os,k.tape.trans h.tape,k.output.trans h.output,Nat.le_trans h.size k.size,fun g hg hf=>(k.block g (Nat.lt_of_lt_of_le hg h.size) hf).trans (h.block g hg hf)⟩
theorem Off.sub {fp fp':List Nat} {a b:World} (h:Off fp a b) (hs:∀ g ∈ fp,g ∈ fp'):Off fp' a b :=
  ⟨h.os,h.tape,h.output,h.size,fun g hg hf=>h.block g hg (fun hm=>hf (hs g hm))⟩
theorem Off.of_below {fp:List Nat} {a b:World} (h:Below a.heap.size a b):Off fp a b:=⟨h.os,h.tape,h.output,h.size,fun g hg _=>h.block g hg⟩
theorem Off.of_grown {fp:List Nat} {a b:World} {g:Nat} (h:a.grownBy b (some g)) (hg:g ∈ fp):Off fp a b :=
  ⟨h.os,h.tape,h.output,h.size,fun j hj hf=>h.block j hj (by simp;intro e;exact hf (e ▸ hg))⟩
theorem Off.below {fp:List Nat} {a b:World} {N:Nat} (h:Off fp a b) (hs:∀ g ∈ fp,N≤g) (hN:N≤a.heap.size):Below N a b :=
  ⟨h.os,h.tape,h.output,h.size,fun j hj=>h.block j (Nat.lt_of_lt_of_le hj hN) (fun hm=>by have:=hs j hm;omega)⟩
theorem Off.keep {fp f:List Nat} {a b:World} (h:Off fp a b) (hs:∀ g ∈ f,g<a.heap.size∧g ∉ fp):KeepOn f a b:=fun g hg=>h.block g (hs g hg).1 (hs g hg).2
theorem Off.under {fp:List Nat} {w A B:World} {N:Nat} (h:Off fp w A) (hN:w.heap.size≤N) (hb:Below N A B):Off fp w B :=
  ⟨hb.os.trans h.os,hb.tape.trans h.tape,hb.output.trans h.output,Nat.le_trans h.size hb.size,fun g hg hf=>(hb.block g (by omega)).trans (h.block g hg hf)⟩
def ORows {α:Type} (w:World) (e:TypeId) (c:Nat) (R:List Value→α→List Nat→Prop) (v:Value) (xs:List α) (fp:List Nat):Prop :=
  (xs = []∧fp = []∧∃ p cap,v=.slice p 0 cap∧cap≤maxLen) ∨
    (xs≠[]∧∃ (cells:List Value) (g cap:Nat) (fps:List (List Nat)),w.ownsRow 0 e c v xs.length cells∧v=.slice (some ⟨g,0,none⟩) xs.length cap∧fps.length=xs.length∧fp=g :: fps.flatten ∧
      ∀ (i:Nat) x f,xs[i]?=some x→fps[i]?=some f→∃ cs:List Value,cs.length=c∧(∀ j,j<c→cells[i * c+j]?=cs[j]?)∧R cs x f)
theorem owns_block {w w':World} {e:TypeId} {c g n cap:Nat} {v:Value} {cells:List Value} (h:w.ownsRow 0 e c v n cells) (hv:v=.slice (some ⟨g,0,none⟩) n cap) (hk:w'.heap[g]?=w.heap[g]?):w'.ownsRow 0 e c v n cells:=by
  refine ⟨h.1,?_⟩
  rcases h.2 with hn | ⟨g',cap',cur,hv',hb,hg,hr⟩
  · exact .inl hn
  · have:g'=g:=by rw [hv] at hv';simp at hv';exact hv'.1.symm
    subst this
    exact .inr ⟨g',cap',cur,hv',hb,hk.trans hg,hr⟩
theorem owns_lt {w:World} {e:TypeId} {c g n cap:Nat} {v:Value} {cells:List Value} (h:w.ownsRow 0 e c v n cells) (hv:v=.slice (some ⟨g,0,none⟩) n cap):g<w.heap.size:=by
  rcases h.2 with hn | ⟨g',cap',cur,hv',hb,hg,hr⟩
  · rw [hn.1] at hv;cases hv
  · have:g'=g:=by rw [hv] at hv';simp at hv';exact hv'.1.symm
    subst this
    exact (Array.getElem?_eq_some_iff.1 hg).1
theorem ORows.shape {α:Type} {w:World} {e:TypeId} {c:Nat} {R:List Value→α→List Nat→Prop} {v:Value} {xs:List α} {fp:List Nat} (h:ORows w e c R v xs fp):∃ p cap,v=.slice p xs.length cap∧xs.length≤cap∧cap≤maxLen:=by
  rcases h with ⟨rfl,_,p,cap,hv,hc⟩ | ⟨_,cells,g,cap,fps,ho,hv,_⟩
  · exact ⟨p,cap,hv,Nat.zero_le _,hc⟩
  · rcases ho.2 with hn | ⟨g',cap',cur,hv',hb,hg,hr⟩
    · rw [hn.1] at hv;cases hv
    · exact ⟨_,_,hv',hr.1,hr.2.1⟩
theorem ORows.rows {α:Type} {w:World} {e:TypeId} {c:Nat} {R:List Value→α→List Nat→Prop} {R':List Value→α→Prop} {S:Nat→Prop} {v:Value} {xs:List α} {fp:List Nat} (h:ORows w e c R v xs fp) (hS:∀ a ∈ fp,S a)
    (hR:∀ cs x f,x ∈ xs→(∀ a ∈ f,a ∈ fp)→R cs x f→R' cs x):Rows w S c R' v xs:=by
  obtain ⟨p,cap,hv,h1,h2⟩:=h.shape
  refine ⟨p,cap,hv,h1,h2,fun hne=>?_⟩
  rcases h with h | ⟨_,cells,g,cap',fps,ho,hv',hl,rfl,hat⟩
  · exact absurd h.1 hne
  have hp:p=some ⟨g,0,none⟩:=by rw [hv] at hv';simp at hv';exact hv'.1
  refine ⟨g,0,hp,hS g (by simp),owns_lt ho hv',fun i x hi=>?_⟩
  have hil:i<xs.length:=(List.getElem?_eq_some_iff.1 hi).1
  obtain ⟨f,hf⟩:∃ f,fps[i]?=some f:=⟨fps[i]'(by rw [hl];exact hil),List.getElem?_eq_getElem _⟩
  obtain ⟨cs,hcl,hcs,hr⟩:=hat i x f hi hf
  refine ⟨cs,hcl,fun j hj=>?_,hR cs x f (List.mem_of_getElem? hi) (fun a ha=>?_) hr⟩
  · rw [← hcs j hj,Nat.zero_add]
    rw [hv'] at ho
    refine ho.cellAt (i * c+j) ?_
    have:i * c+c≤xs.length * c:=by rw [← Nat.succ_mul];exact Nat.mul_le_mul_right c hil
    omega
  · exact List.mem_cons_of_mem _ (List.mem_flatten.2 ⟨f,List.mem_of_getElem? hf,ha⟩)
theorem ORows.keep {α:Type} {w w':World} {e:TypeId} {c:Nat} {R R':List Value→α→List Nat→Prop} {v:Value} {xs:List α} {fp:List Nat} (h:ORows w e c R v xs fp) (hk:KeepOn fp w w')
    (hR:∀ cs x f,x ∈ xs→(∀ a ∈ f,a ∈ fp)→R cs x f→R' cs x f):ORows w' e c R' v xs fp:=by
  rcases h with h | ⟨hne,cells,g,cap',fps,ho,hv',hl,rfl,hat⟩
  · exact .inl h
  refine .inr ⟨hne,cells,g,cap',fps,owns_block ho hv' (hk g (by simp)),hv',hl,rfl,fun i x f hi hf=>?_⟩
  obtain ⟨cs,hcl,hcs,hr⟩:=hat i x f hi hf
  exact ⟨cs,hcl,hcs,hR cs x f (List.mem_of_getElem? hi) (fun a ha=>List.mem_cons_of_mem _ (List.mem_flatten.2 ⟨f,List.mem_of_getElem? hf,ha⟩)) hr⟩
theorem ORows.lt {α:Type} {w:World} {e:TypeId} {c:Nat} {R:List Value→α→List Nat→Prop} {v:Value} {xs:List α} {fp:List Nat} (h:ORows w e c R v xs fp) (hR:∀ cs x f,R cs x f→∀ a ∈ f,a<w.heap.size):∀ a ∈ fp,a<w.heap.size:=by
  rcases h with ⟨_,rfl,_⟩ | ⟨hne,cells,g,cap',fps,ho,hv',hl,rfl,hat⟩
  · intro a ha;simp at ha
  · intro a ha
    rcases List.mem_cons.1 ha with rfl | ha
    · exact owns_lt ho hv'
    · obtain ⟨f,hf,ha⟩:=List.mem_flatten.1 ha
      obtain ⟨i,hi,rfl⟩:=List.mem_iff_getElem.1 hf
      obtain ⟨cs,_,_,hr⟩:=hat i (xs[i]'(by rw [← hl];exact hi)) _ (List.getElem?_eq_getElem _) (List.getElem?_eq_getElem hi)
      exact hR _ _ _ hr a ha
theorem ORows.set {α:Type} {w':World} {e:TypeId} {c:Nat} {R R':List Value→α→List Nat→Prop} {v:Value} {xs:List α} {cells cells':List Value} {g cap:Nat} {fps:List (List Nat)} {i:Nat} {x':α} {f:List Nat}
    (hne:xs≠[]) (ho:w'.ownsRow 0 e c v xs.length cells') (hv:v=.slice (some ⟨g,0,none⟩) xs.length cap) (hl:fps.length=xs.length)
    (hat:∀ (i:Nat) x f,xs[i]?=some x→fps[i]?=some f→∃ cs:List Value,cs.length=c∧(∀ j,j<c→cells[i * c+j]?=cs[j]?)∧R cs x f) (hf:fps[i]?=some f)
    (hother:∀ m,(m<i * c∨i * c+c≤m)→cells'[m]?=cells[m]?) (cs':List Value) (hcl:cs'.length=c) (hcs:∀ j,j<c→cells'[i * c+j]?=cs'[j]?) (hr:R' cs' x' f)
    (hk:∀ (j:Nat) y f' cs,j≠i→fps[j]?=some f'→R cs y f'→R' cs y f'):ORows w' e c R' v (xs.set i x') (g :: fps.flatten):=by
  refine .inr ⟨fun h=>hne (by cases xs with | nil=>rfl | cons a l=>cases i <;> simp at h),cells',g,cap,fps,by rw [List.length_set];exact ho,by rw [List.length_set];exact hv,by rw [List.length_set];exact hl,rfl,fun j y f' hj hf'=>?_⟩
  by_cases hji:j=i
  · subst hji
    have hjl:j<xs.length:=by rw [← hl];exact (List.getElem?_eq_some_iff.1 hf).1
    rw [List.getElem?_set_self hjl] at hj
    obtain rfl:=Option.some.inj hj
    obtain rfl:=Option.some.inj (hf.symm.trans hf')
    exact ⟨cs',hcl,hcs,hr⟩
  · rw [List.getElem?_set_ne (fun h=>hji h.symm)] at hj
    obtain ⟨cs,h1,h2,h3⟩:=hat j y f' hj hf'
    refine ⟨cs,h1,fun q hq=>?_,hk j y f' cs hji hf' h3⟩
    rw [hother _ ?_]
    · exact h2 q hq
    · rcases Nat.lt_or_gt_of_ne hji with h | h
      · left;have:j * c+c≤i * c:=by rw [← Nat.succ_mul];exact Nat.mul_le_mul_right c h
        omega
      · right;have:i * c+c≤j * c:=by rw [← Nat.succ_mul];exact Nat.mul_le_mul_right c h
        omega
theorem nodup_parts {g:Nat} {fps:List (List Nat)} (h:(g :: fps.flatten).Nodup) :
    (∀ f ∈ fps,g ∉ f∧f.Nodup)∧∀ (i j:Nat) f f',i≠j→fps[i]?=some f→fps[j]?=some f'→∀ a ∈ f,a ∉ f':=by
  rw [List.nodup_cons] at h
  obtain ⟨hg,hp⟩:=h
  obtain ⟨h1,h2⟩:=List.pairwise_flatten.1 hp
  refine ⟨fun f hf=>⟨fun hm=>hg (List.mem_flatten.2 ⟨f,hf,hm⟩),h1 f hf⟩,fun i j f f' hij hi hj a ha ha'=>?_⟩
  rw [List.pairwise_iff_getElem] at h2
  obtain ⟨hi1,rfl⟩:=List.getElem?_eq_some_iff.1 hi
  obtain ⟨hj1,rfl⟩:=List.getElem?_eq_some_iff.1 hj
  rcases Nat.lt_or_gt_of_ne hij with hlt | hlt
  · exact h2 i j hi1 hj1 hlt a ha a ha' rfl
  · exact h2 j i hj1 hi1 hlt a ha' a ha rfl
def mix {α:Type} (i:Nat) (ys xs:List α):List α:=ys.take i ++ xs.drop i
theorem mix_zero {α:Type} (ys xs:List α):mix 0 ys xs=xs:=by simp [mix]
theorem mix_all {α:Type} {ys xs:List α} {i:Nat} (hl:ys.length=xs.length) (h:xs.length≤i):mix i ys xs=ys:=by
  unfold mix;rw [List.take_of_length_le (by omega),List.drop_of_length_le h,List.append_nil]
theorem mix_length {α:Type} {ys xs:List α} {i:Nat} (hl:ys.length=xs.length):(mix i ys xs).length=xs.length:=by
  unfold mix;rw [List.length_append,List.length_take,List.length_drop];omega
theorem mix_at {α:Type} {ys xs:List α} {i:Nat} (hl:ys.length=xs.length) (hi:i<xs.length):(mix i ys xs)[i]?=xs[i]?:=by
  unfold mix
  rw [List.getElem?_append_right (by rw [List.length_take];omega),List.length_take,List.getElem?_drop]
  congr 1;omega
theorem mix_succ {α:Type} {ys xs:List α} {i:Nat} {y:α} (hl:ys.length=xs.length) (hy:ys[i]?=some y):(mix i ys xs).set i y=mix (i+1) ys xs:=by
  have hi:i<ys.length:=(List.getElem?_eq_some_iff.1 hy).1
  unfold mix
  rw [List.set_append_right (h:=by rw [List.length_take];omega),List.length_take,Nat.min_eq_left (by omega),Nat.sub_self,List.take_add_one,hy,List.append_assoc]
  congr 1
  rw [List.drop_eq_getElem_cons (i:=i) (l:=xs) (by omega)]
  rfl
def markL {α:Type} (f:Nat→α→α) (c:α→Nat):Nat→List α→List α
  | _,[]=>[]
  | k,x :: xs=>f k x :: markL f c (k+c x) xs
theorem markL_length {α:Type} (f:Nat→α→α) (c:α→Nat):∀ (k:Nat) (xs:List α),(markL f c k xs).length=xs.length
  | _,[]=>rfl
  | k,x :: xs=>by simp [markL,markL_length f c (k+c x) xs]
theorem markL_at {α:Type} (f:Nat→α→α) (c:α→Nat):∀ (k:Nat) (xs:List α) (i:Nat) (x:α),xs[i]?=some x→(markL f c k xs)[i]?=some (f (k+((xs.take i).map c).sum) x)
  | _,[],i,x,h=>by simp at h
  | k,y :: xs,0,x,h=>by simp at h;subst h;simp [markL]
  | k,y :: xs,i+1,x,h=>by
    simp at h
    simp only [markL,List.getElem?_cons_succ,markL_at f c (k+c y) xs i x h,List.take_succ_cons,List.map_cons,List.sum_cons,Nat.add_assoc]
structure Made {α:Type} (w wr:World) (G n:Nat) (e:TypeId) (c:Nat) (O:World→List Value→α→List Nat→Prop) (es:List α) (k:Nat) (xs:List Value) (fps:List (List Nat)):Prop where
  own:wr.ownsRow G e c (.slice (some ⟨G,0,none⟩) n n) n xs
  len:fps.length=k
  nd:fps.flatten.Nodup
  rng:∀ a ∈ fps.flatten,G<a∧a<wr.heap.size
  el:∀ (i:Nat) x f,es[i]?=some x→fps[i]?=some f→∃ cs:List Value,cs.length=c∧(∀ j,j<c→xs[i * c+j]?=cs[j]?)∧O wr cs x f
  below:Below G w wr
  sz:G+1≤wr.heap.size
variable {α:Type} {w wr:World} {G n c k:Nat} {e:TypeId} {O:World→List Value→α→List Nat→Prop} {es:List α} {xs:List Value} {fps:List (List Nat)}
theorem Made.start {M:Array Value} (hM:M.size=n * c) (hn:n≤maxLen):Made w (w.alloc (.cells M e)) w.heap.size n e c O es 0 M.toList [] :=
  ⟨World.ownsRow_lit w M n (Nat.le_refl _) hn hM,rfl,by simp,fun a ha=>by simp at ha,fun i x f _ hf=>by simp at hf,(Below.refl _ _).alloc (Nat.le_refl _) _,by rw [alloc_hs];exact Nat.le_refl _⟩
theorem Made.step (hO:∀ w w' cs x f,O w cs x f→KeepOn f w w'→O w' cs x f) (h:Made w wr G n e c O es k xs fps) {w1 w2:World} {x:α} {cs xs':List Value} {f:List Nat} (hx:es[k]?=some x) (hb:Below wr.heap.size wr w1) (ho:O w1 cs x f)
    (hnd:f.Nodup) (hf:∀ a ∈ f,wr.heap.size≤a∧a<w1.heap.size) (hcl:cs.length=c) (hown:w2.ownsRow G e c (.slice (some ⟨G,0,none⟩) n n) n xs') (hgr:w1.grownBy w2 (some G))
    (hlow:∀ m,m<k * c→xs'[m]?=xs[m]?) (hself:∀ j,j<c→xs'[k * c+j]?=cs[j]?):Made w w2 G n e c O es (k+1) xs' (fps ++ [f]):=by
  have h1:=h.sz
  have h2:=hb.size
  have h3:=hgr.size
  refine ⟨hown,by rw [List.length_append,h.len];rfl,?_,?_,?_,?_,by omega⟩
  · rw [List.flatten_append,List.nodup_append]
    refine ⟨h.nd,by simpa using hnd,fun a ha b hb'=>?_⟩
    have:=(h.rng a ha).2
    have:=(hf b (by simpa using hb')).1
    omega
  · intro a ha
    rw [List.flatten_append,List.mem_append] at ha
    rcases ha with ha | ha
    · have:=h.rng a ha;omega
    · have:=hf a (by simpa using ha);omega
  · intro i y f' hy hf'
    by_cases hik:i<k
    · rw [List.getElem?_append_left (by rw [h.len];exact hik)] at hf'
      obtain ⟨cs',g1,g2,g3⟩:=h.el i y f' hy hf'
      refine ⟨cs',g1,fun j hj=>?_,hO _ _ _ _ _ g3 (fun a ha=>?_)⟩
      · rw [hlow]
        · exact g2 j hj
        · have:i * c+c≤k * c:=by rw [← Nat.succ_mul];exact Nat.mul_le_mul_right c hik
          omega
      · have hr:=h.rng a (List.mem_flatten.2 ⟨f',List.mem_of_getElem? hf',ha⟩)
        exact (hgr.block a (by omega) (by simp;omega)).trans (hb.block a hr.2)
    · have hil:i<k+1:=by
        have:=(List.getElem?_eq_some_iff.1 hf').1
        rw [List.length_append,h.len] at this;simpa using this
      obtain rfl:i=k:=by omega
      obtain rfl:x=y:=Option.some.inj (hx.symm.trans hy)
      rw [List.getElem?_append_right (by rw [h.len];exact Nat.le_refl _),h.len,Nat.sub_self] at hf'
      simp at hf'
      subst hf'
      exact ⟨cs,hcl,hself,hO _ _ _ _ _ ho (fun a ha=>by have:=hf a ha;exact hgr.block a (by omega) (by simp;omega))⟩
  · exact h.below.trans ((hb.mono (by omega)).trans ⟨hgr.os,hgr.tape,hgr.output,hgr.size,fun j hj=>hgr.block j (by omega) (by simp;omega)⟩)
theorem Made.done (h:Made w wr G n e c O es n xs fps) (hn:es.length=n) (hm:n≤maxLen):∃ fp,ORows wr e c (O wr) (.slice (some ⟨G,0,none⟩) n n) es fp∧fp.Nodup∧∀ a ∈ fp,G≤a∧a<wr.heap.size:=by
  by_cases hne:es = []
  · subst hne
    exact ⟨[],.inl ⟨rfl,rfl,_,_,by rw [← hn];rfl,hm⟩,by simp,fun a ha=>by simp at ha⟩
  · refine ⟨G :: fps.flatten,.inr ⟨hne,xs,G,n,fps,?_,by rw [hn],by rw [h.len,hn],rfl,h.el⟩,?_,?_⟩
    · rw [hn]
      obtain ⟨h1,h2⟩:=h.own
      refine ⟨h1,h2.imp id ?_⟩
      rintro ⟨g,cap,cur,a1,a2,a3⟩
      exact ⟨g,cap,cur,a1,Nat.zero_le _,a3⟩
    · rw [List.nodup_cons]
      exact ⟨fun hm=>by have:=(h.rng G hm).1;omega,h.nd⟩
    · intro a ha
      have:=h.sz
      rcases List.mem_cons.1 ha with rfl | ha
      · omega
      · have:=h.rng a ha;omega
def ToO {α:Type} (F:FuncId) (H:World→Value→α→Prop) (O:World→Value→α→List Nat→Prop) (wt:α→Nat):Prop :=
  ∀ (w:World) (v:Value) (x:α),H w v x→wt x≤1048576→Calls Tryz.prog F #[v] w fun e w'=>∃ u fp,e=.returned u∧O w' u x fp∧fp.Nodup∧(∀ a ∈ fp,w.heap.size≤a∧a<w'.heap.size)∧Below w.heap.size w w'
end
structure Pb where
  mod:ByteArray
  name:ByteArray
  arity:Int
  code:ByteArray
def HPb (cs:List Value) (q:Pb):Prop:=cs = [.string q.mod,.string q.name,.int .i64 q.arity,.string q.code]∧okS q.mod∧okS q.name∧okI q.arity∧okS q.code
theorem pb_oneCell (cs:List Value) (q:Pb) (h:HPb cs q):∀ u ∈ cs,u.oneCell'=true:=by
  obtain ⟨rfl,-⟩:=h
  intro u hu
  simp only [List.mem_cons,List.not_mem_nil,or_false] at hu
  rcases hu with rfl | rfl | rfl | rfl <;> rfl
theorem HFn.deeper {w:World} {S:Nat→Prop} {d d':Nat} (hd:d≤d') {cs:List Value} {f:Fn'} (h:HFn w S d cs f):HFn w S d' cs f:=by
  have hs:SameOn S w w:=⟨Nat.le_refl _,fun _ _ _=>rfl⟩
  obtain ⟨cv,rfl,h1,h2,hc⟩:=h
  exact ⟨cv,rfl,h1,h2,hc.mono hs (fun _ h=>h) (fun _ _ _ h=>h.mono hs (fun _ h=>h) (fun _ _=>HEx.deeper hd))⟩
theorem HMd.deeper {w:World} {S:Nat→Prop} {d d':Nat} (hd:d≤d') {cs:List Value} {m:Md} (h:HMd w S d cs m):HMd w S d' cs m:=by
  have hs:SameOn S w w:=⟨Nat.le_refl _,fun _ _ _=>rfl⟩
  obtain ⟨ev,fv,rfl,h1,he,hf⟩:=h
  exact ⟨ev,fv,rfl,h1,he.mono hs (fun _ h=>h) (fun _ _ _ h=>h),hf.mono hs (fun _ h=>h) (fun _ _ _ h=>h.deeper hd)⟩
theorem HMd.shape {w:World} {S:Nat→Prop} {d:Nat} {cs:List Value} {m:Md} (h:HMd w S d cs m):∃ s p1 n1 q1 p2 n2 q2,cs = [.string s,.slice p1 n1 q1,.slice p2 n2 q2]:=by
  obtain ⟨ev,fv,rfl,_,⟨p1,c1,rfl,_⟩,⟨p2,c2,rfl,_⟩⟩:=h
  exact ⟨_,_,_,_,_,_,_,rfl⟩
def wtCl (f:Ex→Nat) (c:Cl):Nat:=wtS f c.1+wtS f c.2
def wtEx:Nat→Ex→Nat
  | 0,_=>0
  | d+1,e=>e.text.size+e.mod.size+wtS (wtEx d) e.kids+wtS (wtCl (wtEx d)) e.clauses
def wtRf (r:Rf):Nat:=r.name.size
def wtFn (d:Nat) (f:Fn'):Nat:=f.name.size+wtS (wtCl (wtEx d)) f.clauses
def wtMd (d:Nat) (m:Md):Nat:=m.name.size+wtS wtRf m.exports+wtS (wtFn d) m.funs
section
def preX:Nat→Ex→List Ex
  | 0,_=>[]
  | d+1,x=>x :: (x.kids.flatMap (preX d) ++ x.clauses.flatMap fun c=>c.1.flatMap (preX d) ++ c.2.flatMap (preX d))
structure Mv (M M':Nat→Prop) (w w':World):Prop where
  os:w'.os=w.os
  tape:w'.tape=w.tape
  output:w'.output=w.output
  size:w.heap.size≤w'.heap.size
  block:∀ g,g<w.heap.size→¬ M g→w'.heap[g]?=w.heap[g]?
  more:∀ g,M' g→M g∨w.heap.size≤g
theorem Mv.refl (M:Nat→Prop) (w:World):Mv M M w w:=⟨rfl,rfl,rfl,Nat.le_refl _,fun _ _ _=>rfl,fun _ h=>Or.inl h⟩
theorem Mv.trans {M M' M'':Nat→Prop} {a b c:World} (h:Mv M M' a b) (k:Mv M' M'' b c):Mv M M'' a c :=
  ⟨k.os.trans h.os,k.tape.trans h.tape,k.output.trans h.output,Nat.le_trans h.size k.size,fun g hg hm=>by
    refine (k.block g (Nat.lt_of_lt_of_le hg h.size) (fun e=>?_)).trans (h.block g hg hm)
    rcases h.more g e with e | e
    · exact hm e
    · omega,fun g hg=>by
    rcases k.more g hg with e | e
    · exact h.more g e
    · exact Or.inr (Nat.le_trans h.size e)⟩
theorem Mv.of_below {M:Nat→Prop} {a b:World} (h:Below a.heap.size a b):Mv M M a b:=⟨h.os,h.tape,h.output,h.size,fun g hg _=>h.block g hg,fun _ h=>Or.inl h⟩
theorem Mv.below {M M':Nat→Prop} {a b:World} {N:Nat} (h:Mv M M' a b) (hM:∀ g,M g→N≤g) (hN:N≤a.heap.size):Below N a b :=
  ⟨h.os,h.tape,h.output,h.size,fun g hg=>h.block g (by omega) (fun e=>by have:=hM g e;omega)⟩
theorem Mv.sameOn {M M' S:Nat→Prop} {a b:World} (h:Mv M M' a b) (hS:∀ g,S g→¬ M g):SameOn S a b:=⟨h.size,fun g hs hg=>h.block g hg (hS g hs)⟩
theorem Mv.blk {M M':Nat→Prop} {a b:World} {g:Nat} {cs:Array Value} {t:TypeId} (h:Mv M M' a b) (hb:Blk a g cs t) (hM:¬ M g):Blk b g cs t:=(h.block g hb.lt hM).trans hb
section
variable {σ:Type}
def Runs (ok:σ→Ex→Prop) (st:σ→Ex→σ):σ→List Ex→Prop
  | _,[]=>True
  | s,x :: l=>ok s x∧Runs ok st (st s x) l
theorem Runs.append {ok:σ→Ex→Prop} {st:σ→Ex→σ}:∀ {s:σ} {a b:List Ex},Runs ok st s (a ++ b) ↔ Runs ok st s a∧Runs ok st (a.foldl st s) b
  | s,[],b=>by simp [Runs]
  | s,x :: a,b=>by simp [Runs,Runs.append (s:=st s x) (a:=a) (b:=b),and_assoc]
theorem Runs.take {ok:σ→Ex→Prop} {st:σ→Ex→σ} {s:σ} {α:Type} {f:α→List Ex} {l:List α} (k:Nat) (x:α) (h:Runs ok st s (l.flatMap f)) (hk:l[k]?=some x) :
    Runs ok st (((l.take k).flatMap f).foldl st s) (f x)∧(((l.take (k+1)).flatMap f).foldl st s)=(f x).foldl st (((l.take k).flatMap f).foldl st s):=by
  have e1:(l.take (k+1)).flatMap f=(l.take k).flatMap f ++ f x:=by rw [List.take_add_one,hk];simp
  have e2:l.flatMap f=(l.take (k+1)).flatMap f ++ (l.drop (k+1)).flatMap f:=by rw [← List.flatMap_append,List.take_append_drop]
  rw [e2,e1,List.append_assoc,Runs.append,Runs.append] at h
  exact ⟨h.2.1,by rw [e1,List.foldl_append]⟩
structure Tells (F:FuncId) (tb:Nat) (I:World→(Nat→Prop)→σ→Prop) (ok:σ→Ex→Prop) (st:σ→Ex→σ) (S:Nat→Prop):Prop where
  off:∀ w M s,I w M s→(∀ g,S g→¬ M g)∧(∀ g,M g→g<w.heap.size)∧(∀ g,S g→g<w.heap.size)
  next:∀ w w' M s,I w M s→Below w.heap.size w w'→I w' M s
  call:∀ w M s d cs x,I w M s→HEx w S d cs x→ok s x→Calls Tryz.prog F #[.agg cs.toArray,.pointer (some ⟨tb,0,none⟩)] w fun e w'=>e=.returned (.tuple #[])∧∃ M',I w' M' (st s x)∧Mv M M' w w'
end
end
section
section
variable {σ:Type} {tb:Nat} {I:World→(Nat→Prop)→σ→Prop} {ok:σ→Ex→Prop} {st:σ→Ex→σ} {S:Nat→Prop}
abbrev FVC (tb:Nat):Value:=.func (.func 127) #[] #[.pointer (some ⟨tb,0,none⟩)]
theorem shapeC {w:World} {S:Nat→Prop} {d:Nat} {cs:List Value} {x:Ex} (h:HEx w S d cs x):∃ sk sn st se p1 n1 q1 p2 n2 q2,cs = [.int .i64 sk,.int .i64 sn,.string st,.string se,.slice p1 n1 q1,.slice p2 n2 q2]:=by
  cases d with
  | zero=>exact h.elim
  | succ d =>
    obtain ⟨kv,cv,rfl,_,_,_,_,⟨p1,c1,rfl,_⟩,⟨p2,c2,rfl,_⟩⟩:=h
    exact ⟨_,_,_,_,_,_,_,_,_,_,rfl⟩
def EeTC (tb:Nat) (I:World→(Nat→Prop)→σ→Prop) (ok:σ→Ex→Prop) (st:σ→Ex→σ) (S:Nat→Prop) (d:Nat):Prop:=∀ (w:World) (M:Nat→Prop) (s:σ) (cs:List Value) (x:Ex),HEx w S d cs x→I w M s→Runs ok st s (preX d x) →
    Calls Tryz.prog 153 #[.agg cs.toArray,FVC tb] w fun e w'=>e=.returned (.tuple #[])∧∃ M',I w' M' ((preX d x).foldl st s)∧Mv M M' w w'
def EoTC (tb:Nat) (I:World→(Nat→Prop)→σ→Prop) (ok:σ→Ex→Prop) (st:σ→Ex→σ) (S:Nat→Prop) (d:Nat):Prop:=∀ (w:World) (M:Nat→Prop) (s:σ) (v:Value) (es:List Ex),Rows w S 6 (HEx w S d) v es→I w M s→Runs ok st s (es.flatMap (preX d)) →
    Calls Tryz.prog 126 #[v,FVC tb] w fun e w'=>e=.returned (.tuple #[])∧∃ M',I w' M' ((es.flatMap (preX d)).foldl st s)∧Mv M M' w w'
theorem eachOfC_of (T:Tells 127 tb I ok st S) {d:Nat} (hE:EeTC tb I ok st S d):EoTC tb I ok st S d:=by
  intro w M s v es hr hv hK
  obtain ⟨p,cap,rfl,hcl,hcm,hx⟩:=hr
  have hnb:es.length≤9223372036854775807:=by unfold maxLen at hcm;omega
  have HX:Hid (es≠[]→∃ g off,p=some ⟨g,off,none⟩∧S g∧g<w.heap.size∧∀ i x,es[i]?=some x→∃ cs,cs.length=6∧(∀ j,j<6→w.cell? ⟨g,off+i * 6+j,none⟩=cs[j]?)∧HEx w S d cs x):=hx
  have HV:Hid (I w M s):=hv
  have HK:Hid (Runs ok st s (es.flatMap (preX d))):=hK
  have HOF:Hid (∀ g,S g→¬ M g):=(T.off w M s hv).1
  generalize hn:es.length=n at *
  have HN:Hid (es.length=n):=hn
  clear hx hv hK hn
  go_enter Tryz.func126,Tryz.ntmps126
  go_wp2_with fail
  go_loopw [8] (fun iv wr=>∃ k:Nat,k≤n∧iv=.int .i64 k∧Hid (∃ M',I wr M' (((es.take k).flatMap (preX d)).foldl st s)∧Mv M M' w wr)) (fun iv _=>n - (intOf iv).toNat)
  case atStart=>exact ⟨0,Nat.zero_le _,rfl,⟨M,by simpa using HV.out,Mv.refl _ _⟩⟩
  case round =>
    obtain ⟨k,hk,rfl,HVk⟩:=hrel
    obtain ⟨Mk,ik,mk⟩:=HVk.out
    have IK:Hid (I wr Mk (((es.take k).flatMap (preX d)).foldl st s)):=ik
    have MK:Hid (Mv M Mk w wr):=mk
    clear HVk ik mk
    by_cases hlt:k<n
    · obtain ⟨x,hxk⟩:∃ x,es[k]?=some x:=⟨es[k]'(by rw [HN.out];exact hlt),List.getElem?_eq_getElem _⟩
      obtain ⟨g,off,rfl,hgm,hgl,hat⟩:=HX.out (by intro h;rw [h] at hxk;simp at hxk)
      obtain ⟨cs,hcsl,hcs,r1⟩:=hat k x hxk
      have SK:Hid (SameOn S w wr):=MK.out.sameOn HOF.out
      have E1:Hid (HEx wr S d cs x):=r1.mono SK.out (fun _ h=>h)
      obtain ⟨c0,c1,c2,c3,c4,c5,rfl⟩:=len6 hcsl
      have hge:wr.heap[g]?=w.heap[g]?:=SK.out.2 g hgm hgl
      have a0:=(World.cell?_of_block (a:=⟨g,off+k * 6+0,none⟩) hge).trans (hcs 0 (by omega))
      have a1:=(World.cell?_of_block (a:=⟨g,off+k * 6+1,none⟩) hge).trans (hcs 1 (by omega))
      have a2:=(World.cell?_of_block (a:=⟨g,off+k * 6+2,none⟩) hge).trans (hcs 2 (by omega))
      have a3:=(World.cell?_of_block (a:=⟨g,off+k * 6+3,none⟩) hge).trans (hcs 3 (by omega))
      have a4:=(World.cell?_of_block (a:=⟨g,off+k * 6+4,none⟩) hge).trans (hcs 4 (by omega))
      have a5:=(World.cell?_of_block (a:=⟨g,off+k * 6+5,none⟩) hge).trans (hcs 5 (by omega))
      simp at a0 a1 a2 a3 a4 a5
      obtain ⟨hr1,hj1⟩:=Runs.take k x HK.out hxk
      have HR1:Hid (Runs ok st (((es.take k).flatMap (preX d)).foldl st s) (preX d x)):=hr1
      have HJ1:Hid ((((es.take (k+1)).flatMap (preX d)).foldl st s)=(preX d x).foldl st (((es.take k).flatMap (preX d)).foldl st s)):=hj1
      generalize ((es.take k).flatMap (preX d)).foldl st s=sk at *
      have hki:(k:Int)<(n:Int):=by omega
      have hk0:(0:Int)≤(k:Int):=by omega
      clear hat hcs hcsl r1 hge hr1 hj1
      obtain ⟨sk',sn,st0,se,p1,n1,q1,p2,n2,q2,hsh⟩:=shapeC E1.out
      simp only [List.cons.injEq,and_true] at hsh
      obtain ⟨rfl,rfl,rfl,rfl,rfl,rfl⟩:=hsh
      have HBA:Hid (Below wr.heap.size wr (wr.alloc (.cells #[.int .i64 sk',.int .i64 sn,.string st0,.string se,.slice p1 n1 q1,.slice p2 n2 q2] 79))):=(Below.refl _ _).alloc (Nat.le_refl _) _
      go_wp2_with fail
      refine (hE _ Mk sk _ x (E1.out.mono (SameOn.of_below HBA.out) (fun _ h=>h)) (T.next _ _ _ _ IK.out HBA.out) HR1.out).mono ?_
      rintro e w1 ⟨rfl,M1,i1,m1⟩
      have HI1:Hid (∃ M',I w1 M' (((es.take (k+1)).flatMap (preX d)).foldl st s)∧Mv M M' w w1):=⟨M1,by rw [HJ1.out];exact i1,(MK.out.trans (Mv.of_below HBA.out)).trans m1⟩
      clear i1 m1
      go_wp2_with fail
      exact ⟨⟨k+1,by omega,by go_num,HI1⟩,by simp [intOf];omega⟩
    · have HS:Hid (∃ M',I wr M' ((es.flatMap (preX d)).foldl st s)∧Mv M M' w wr):=⟨Mk,by
        have:=IK.out
        rwa [show es.take k=es from List.take_of_length_le (by rw [HN.out];omega)] at this,MK.out⟩
      go_wp2_with fail
      go_end0
      exact ⟨rfl,HS.out⟩
theorem eachExpC_of (T:Tells 127 tb I ok st S) {d:Nat} (hO:EoTC tb I ok st S d):EeTC tb I ok st S (d+1):=by
  intro w M s cs x h hv hK
  have HEX:Hid (HEx w S (d+1) cs x):=h
  obtain ⟨kv,cv,rfl,-,-,-,-,f0,f1⟩:=h
  have hpre:preX (d+1) x=x :: (x.kids.flatMap (preX d) ++ x.clauses.flatMap fun c=>c.1.flatMap (preX d) ++ c.2.flatMap (preX d)):=rfl
  rw [hpre] at hK ⊢
  simp only [List.foldl_cons,List.foldl_append]
  obtain ⟨hk0,hK⟩:=hK
  rw [Runs.append] at hK
  have HK0:Hid (ok s x):=hk0
  have HK1:Hid (Runs ok st (st s x) (x.kids.flatMap (preX d))):=hK.1
  have HK2:Hid (Runs ok st ((x.kids.flatMap (preX d)).foldl st (st s x)) (x.clauses.flatMap fun c=>c.1.flatMap (preX d) ++ c.2.flatMap (preX d))):=hK.2
  have HX0:Hid (∀ w' d',HEx w' S d' [.int .i64 x.kind,.int .i64 x.n,.string x.text,.string x.mod,kv,cv] x→True):=fun _ _ _=>trivial
  have HOF:Hid ((∀ g,S g→¬ M g)∧(∀ g,M g→g<w.heap.size)):=⟨(T.off w M s hv).1,(T.off w M s hv).2.1⟩
  have F0:Hid (Rows w S 6 (HEx w S d) kv x.kids):=f0
  obtain ⟨p,cap,rfl,-⟩:=id f0
  obtain ⟨pc,capc,rfl,hcl',hcm',hxc⟩:=f1
  have hnc:x.clauses.length≤9223372036854775807:=by unfold maxLen at hcm';omega
  have HXC:Hid (x.clauses≠[]→∃ g off,pc=some ⟨g,off,none⟩∧S g∧g<w.heap.size∧∀ i c,x.clauses[i]?=some c→∃ cs,cs.length=2∧(∀ j,j<2→w.cell? ⟨g,off+i * 2+j,none⟩=cs[j]?)∧HCl w S (HEx w S d) cs c):=hxc
  generalize hx1:x.kind=kx at *
  generalize hx2:x.n=nx at *
  generalize hx3:x.text=tx at *
  generalize hx4:x.mod=mx at *
  generalize hx5:x.kids=ks at *
  generalize hx6:x.clauses=cl at *
  clear hx1 hx2 hx3 hx4 hx5 hx6 HX0
  generalize hm:cl.length=nc at *
  have HNC:Hid (cl.length=nc):=hm
  have HBA:Hid (Below w.heap.size w (w.alloc (.cells #[.int .i64 kx,.int .i64 nx,.string tx,.string mx,.slice p ks.length cap,.slice pc nc capc] 79))):=(Below.refl _ _).alloc (Nat.le_refl _) _
  have HV:Hid (I (w.alloc (.cells #[.int .i64 kx,.int .i64 nx,.string tx,.string mx,.slice p ks.length cap,.slice pc nc capc] 79)) M s):=T.next _ _ _ _ hv HBA.out
  have bA:Hid (Blk (w.alloc (.cells #[.int .i64 kx,.int .i64 nx,.string tx,.string mx,.slice p ks.length cap,.slice pc nc capc] 79)) w.heap.size #[.int .i64 kx,.int .i64 nx,.string tx,.string mx,.slice p ks.length cap,.slice pc nc capc] 79):=Blk.new
  have nA:Hid (¬ M w.heap.size):=fun e=>by have:=HOF.out.2 _ e;omega
  clear f0 hxc hm hpre hv hK hk0
  go_enter Tryz.func153,Tryz.ntmps153
  go_wp2_with fail
  refine (T.call _ M s (d+1) _ x HV.out (HEX.out.mono (SameOn.of_below HBA.out) (fun _ h=>h)) HK0.out).mono ?_
  rintro e w1 ⟨rfl,M1,i1,m1⟩
  have HV1:Hid (I w1 M1 (st s x)):=i1
  have HM1:Hid (Mv M M1 w w1):=(Mv.of_below HBA.out).trans m1
  have b1:Hid (Blk w1 w.heap.size #[.int .i64 kx,.int .i64 nx,.string tx,.string mx,.slice p ks.length cap,.slice pc nc capc] 79):=m1.blk bA.out nA.out
  have n1':Hid (¬ M1 w.heap.size):=fun e=>by
    rcases m1.more _ e with e | e
    · exact nA.out e
    · rw [alloc_hs] at e;omega
  have x4:=b1.out.cell 4 _ rfl
  clear i1 m1 HV bA
  go_wp2_with fail
  refine (hO _ M1 (st s x) _ ks (Rows.mono F0.out (HM1.out.sameOn HOF.out.1) (fun _ h=>h) (fun _ _ _ h=>h.mono (HM1.out.sameOn HOF.out.1) (fun _ h=>h))) HV1.out HK1.out).mono ?_
  rintro e w2 ⟨rfl,M2,i2,m2⟩
  have HV2:Hid (I w2 M2 ((ks.flatMap (preX d)).foldl st (st s x))):=i2
  have HM2:Hid (Mv M M2 w w2):=HM1.out.trans m2
  have b2:Hid (Blk w2 w.heap.size #[.int .i64 kx,.int .i64 nx,.string tx,.string mx,.slice p ks.length cap,.slice pc nc capc] 79):=m2.blk b1.out n1'.out
  have x5:=b2.out.cell 5 _ rfl
  clear i2 m2 x4 b1 HV1 HM1 n1'
  generalize hs2:(ks.flatMap (preX d)).foldl st (st s x)=s2 at *
  have HS2:Hid ((ks.flatMap (preX d)).foldl st (st s x)=s2):=hs2
  clear hs2
  go_wp2_with fail
  go_loopw [16] (fun iv wr=>∃ k:Nat,k≤nc∧iv=.int .i64 k∧Hid (∃ M',I wr M' (((cl.take k).flatMap fun c=>c.1.flatMap (preX d) ++ c.2.flatMap (preX d)).foldl st s2)∧Mv M M' w wr)) (fun iv _=>nc - (intOf iv).toNat)
  case atStart=>exact ⟨0,Nat.zero_le _,rfl,⟨M2,by simpa using HV2.out,HM2.out⟩⟩
  case round =>
    obtain ⟨k,hk,rfl,HVk⟩:=hrel
    obtain ⟨Mk,ik,mk⟩:=HVk.out
    have IK:Hid (I wr Mk (((cl.take k).flatMap fun c=>c.1.flatMap (preX d) ++ c.2.flatMap (preX d)).foldl st s2)):=ik
    have MK:Hid (Mv M Mk w wr):=mk
    clear x5 HV2 HM2 b2 HVk ik mk
    by_cases hlt:k<nc
    · obtain ⟨c,hck⟩:∃ c,cl[k]?=some c:=⟨cl[k]'(by rw [HNC.out];exact hlt),List.getElem?_eq_getElem _⟩
      obtain ⟨g,off,rfl,hgm,hgl,hat⟩:=HXC.out (by intro h;rw [h] at hck;simp at hck)
      obtain ⟨cs,hcsl,hcs,pv,bv,rfl,rp,rb⟩:=hat k c hck
      have SK:Hid (SameOn S w wr):=MK.out.sameOn HOF.out.1
      have RP:Hid (Rows wr S 6 (HEx wr S d) pv c.1):=Rows.mono rp SK.out (fun _ h=>h) (fun _ _ _ h=>h.mono SK.out (fun _ h=>h))
      have RB:Hid (Rows wr S 6 (HEx wr S d) bv c.2):=Rows.mono rb SK.out (fun _ h=>h) (fun _ _ _ h=>h.mono SK.out (fun _ h=>h))
      obtain ⟨pp,capp,rfl,-⟩:=rp
      obtain ⟨pb,capb,rfl,-⟩:=rb
      have hge:wr.heap[g]?=w.heap[g]?:=SK.out.2 g hgm hgl
      have a0:=(World.cell?_of_block (a:=⟨g,off+k * 2+0,none⟩) hge).trans (hcs 0 (by omega))
      have a1:=(World.cell?_of_block (a:=⟨g,off+k * 2+1,none⟩) hge).trans (hcs 1 (by omega))
      simp at a0 a1
      obtain ⟨hr1,hj1⟩:=Runs.take k c HK2.out hck
      rw [Runs.append] at hr1
      rw [List.foldl_append] at hj1
      generalize ((cl.take k).flatMap fun c=>c.1.flatMap (preX d) ++ c.2.flatMap (preX d)).foldl st s2=sk at *
      have HR1:Hid (Runs ok st sk (c.1.flatMap (preX d))):=hr1.1
      have HR2:Hid (Runs ok st ((c.1.flatMap (preX d)).foldl st sk) (c.2.flatMap (preX d))):=hr1.2
      have HJ1:Hid (((cl.take (k+1)).flatMap fun c=>c.1.flatMap (preX d) ++ c.2.flatMap (preX d)).foldl st s2=(c.2.flatMap (preX d)).foldl st ((c.1.flatMap (preX d)).foldl st sk)):=hj1
      have hki:(k:Int)<(nc:Int):=by omega
      have hk0:(0:Int)≤(k:Int):=by omega
      have HOK:Hid ((∀ g,S g→¬ Mk g)∧¬ Mk wr.heap.size):=⟨(T.off wr Mk sk IK.out).1,fun e=>by have:=(T.off wr Mk sk IK.out).2.1 _ e;omega⟩
      have HBC:Hid (Below wr.heap.size wr (wr.alloc (.cells #[.slice pp c.1.length capp,.slice pb c.2.length capb] 127))):=(Below.refl _ _).alloc (Nat.le_refl _) _
      have bC:Hid (Blk (wr.alloc (.cells #[.slice pp c.1.length capp,.slice pb c.2.length capb] 127)) wr.heap.size #[.slice pp c.1.length capp,.slice pb c.2.length capb] 127):=Blk.new
      clear hat hcs hcsl hge hr1 hj1
      go_wp2_with fail
      refine (hO _ Mk sk _ c.1 (Rows.mono RP.out (SameOn.of_below HBC.out) (fun _ h=>h) (fun _ _ _ h=>h.mono (SameOn.of_below HBC.out) (fun _ h=>h))) (T.next _ _ _ _ IK.out HBC.out) HR1.out).mono ?_
      rintro e w3 ⟨rfl,M3,i3,m3⟩
      have HV3:Hid (I w3 M3 ((c.1.flatMap (preX d)).foldl st sk)):=i3
      have HM3:Hid (Mv Mk M3 wr w3):=(Mv.of_below HBC.out).trans m3
      have b3:Blk w3 wr.heap.size #[.slice pp c.1.length capp,.slice pb c.2.length capb] 127:=m3.blk bC.out HOK.out.2
      have y1:=b3.cell 1 _ rfl
      clear i3 m3 bC b3 a0 a1
      go_wp2_with fail
      refine (hO _ M3 ((c.1.flatMap (preX d)).foldl st sk) _ c.2 (Rows.mono RB.out (HM3.out.sameOn HOK.out.1) (fun _ h=>h) (fun _ _ _ h=>h.mono (HM3.out.sameOn HOK.out.1) (fun _ h=>h))) HV3.out HR2.out).mono ?_
      rintro e w4 ⟨rfl,M4,i4,m4⟩
      have HI4:Hid (∃ M',I w4 M' (((cl.take (k+1)).flatMap fun c=>c.1.flatMap (preX d) ++ c.2.flatMap (preX d)).foldl st s2)∧Mv M M' w w4):=⟨M4,by rw [HJ1.out];exact i4,(MK.out.trans HM3.out).trans m4⟩
      clear i4 m4
      go_wp2_with fail
      exact ⟨⟨k+1,by omega,by go_num,HI4⟩,by simp [intOf];omega⟩
    · have HS:Hid (∃ M',I wr M' ((cl.flatMap fun c=>c.1.flatMap (preX d) ++ c.2.flatMap (preX d)).foldl st s2)∧Mv M M' w wr):=⟨Mk,by
        have:=IK.out
        rwa [show cl.take k=cl from List.take_of_length_le (by rw [HNC.out];omega)] at this,MK.out⟩
      go_wp2_with fail
      go_end0
      exact ⟨rfl,by rw [HS2.out];exact HS.out⟩
theorem eachExpC_all (T:Tells 127 tb I ok st S):∀ d,EeTC tb I ok st S d
  | 0=>fun w M s cs x h _ _=>h.elim
  | d+1=>eachExpC_of T (eachOfC_of T (eachExpC_all T d))
theorem eachOfC_all (T:Tells 127 tb I ok st S) (d:Nat):EoTC tb I ok st S d:=eachOfC_of T (eachExpC_all T d)
end
end
def OCl (w:World) (O:List Value→Ex→List Nat→Prop) (cs:List Value) (c:Cl) (fp:List Nat):Prop :=
  ∃ pv bv f1 f2,cs = [pv,bv]∧fp=f1 ++ f2∧ORows w 79 6 O pv c.1 f1∧ORows w 79 6 O bv c.2 f2
def OEx (w:World):Nat→List Value→Ex→List Nat→Prop
  | 0,_,_,_=>False
  | d+1,cs,e,fp=>∃ kv cv f1 f2,cs = [.int .i64 e.kind,.int .i64 e.n,.string e.text,.string e.mod,kv,cv]∧fp=f1 ++ f2∧okI e.kind∧okI e.n∧okS e.text∧okS e.mod ∧
      ORows w 79 6 (OEx w d) kv e.kids f1∧ORows w 127 2 (OCl w (OEx w d)) cv e.clauses f2
abbrev OCls (w:World) (d:Nat):List Value→Cl→List Nat→Prop:=OCl w (OEx w d)
theorem OCl.keep' {w w':World} {O O':List Value→Ex→List Nat→Prop} {cs:List Value} {c:Cl} {fp:List Nat} (h:OCl w O cs c fp) (hk:KeepOn fp w w') (hO:∀ cs x f,(∀ a ∈ f,a ∈ fp)→O cs x f→O' cs x f):OCl w' O' cs c fp:=by
  obtain ⟨pv,bv,f1,f2,rfl,rfl,h1,h2⟩:=h
  refine ⟨pv,bv,f1,f2,rfl,rfl,h1.keep (hk.sub (fun a ha=>by simp [ha])) (fun cs x f _ hs=>hO cs x f (fun a ha=>by simp [hs a ha])),h2.keep (hk.sub (fun a ha=>by simp [ha])) (fun cs x f _ hs=>hO cs x f (fun a ha=>by simp [hs a ha]))⟩
theorem OEx.keep {w w':World}:∀ {d:Nat} {cs:List Value} {e:Ex} {fp:List Nat},OEx w d cs e fp→KeepOn fp w w'→OEx w' d cs e fp
  | 0,_,_,_,h,_=>h.elim
  | d+1,cs,e,fp,h,hk=>by
    obtain ⟨kv,cv,f1,f2,rfl,rfl,h1,h2,h3,h4,hr,hc⟩:=h
    refine ⟨kv,cv,f1,f2,rfl,rfl,h1,h2,h3,h4,hr.keep (hk.sub (fun a ha=>by simp [ha])) (fun cs x f _ hs h=>h.keep (hk.sub (fun a ha=>by simp [hs a ha]))),hc.keep (hk.sub (fun a ha=>by simp [ha])) (fun cs x f _ hs h=>?_)⟩
    exact h.keep' (hk.sub (fun a ha=>by simp [hs a ha])) (fun cs x g hg h=>h.keep (hk.sub (fun a ha=>by simp [hs a (hg a ha)])))
theorem OCls.keep {w w':World} {d:Nat} {cs:List Value} {c:Cl} {fp:List Nat} (h:OCl w (OEx w d) cs c fp) (hk:KeepOn fp w w'):OCl w' (OEx w' d) cs c fp :=
  h.keep' hk (fun cs x g hg h=>h.keep (hk.sub hg))
theorem OCl.tree' {w:World} {S:Nat→Prop} {O:List Value→Ex→List Nat→Prop} {R:List Value→Ex→Prop} {cs:List Value} {c:Cl} {fp:List Nat} (h:OCl w O cs c fp) (hS:∀ a ∈ fp,S a) (hO:∀ cs x f,(∀ a ∈ f,a ∈ fp)→O cs x f→R cs x):HCl w S R cs c:=by
  obtain ⟨pv,bv,f1,f2,rfl,rfl,h1,h2⟩:=h
  exact ⟨pv,bv,rfl,h1.rows (fun a ha=>hS a (by simp [ha])) (fun cs x f _ hs=>hO cs x f (fun a ha=>by simp [hs a ha])),h2.rows (fun a ha=>hS a (by simp [ha])) (fun cs x f _ hs=>hO cs x f (fun a ha=>by simp [hs a ha]))⟩
theorem OEx.tree {w:World} {S:Nat→Prop}:∀ {d:Nat} {cs:List Value} {e:Ex} {fp:List Nat},OEx w d cs e fp→(∀ a ∈ fp,S a)→HEx w S d cs e
  | 0,_,_,_,h,_=>h.elim
  | d+1,cs,e,fp,h,hS=>by
    obtain ⟨kv,cv,f1,f2,rfl,rfl,h1,h2,h3,h4,hr,hc⟩:=h
    refine ⟨kv,cv,rfl,h1,h2,h3,h4,hr.rows (fun a ha=>hS a (by simp [ha])) (fun cs x f _ hs h=>h.tree (fun a ha=>hS a (by simp [hs a ha]))),hc.rows (fun a ha=>hS a (by simp [ha])) (fun cs x f _ hs h=>?_)⟩
    exact h.tree' (fun a ha=>hS a (by simp [hs a ha])) (fun cs x g hg h=>h.tree (fun a ha=>hS a (by simp [hs a (hg a ha)])))
theorem OCls.tree {w:World} {S:Nat→Prop} {d:Nat} {cs:List Value} {c:Cl} {fp:List Nat} (h:OCl w (OEx w d) cs c fp) (hS:∀ a ∈ fp,S a):HCl w S (HEx w S d) cs c :=
  h.tree' hS (fun cs x g hg h=>h.tree (fun a ha=>hS a (hg a ha)))
theorem OCl.lt' {w:World} {O:List Value→Ex→List Nat→Prop} {cs:List Value} {c:Cl} {fp:List Nat} (h:OCl w O cs c fp) (hO:∀ cs x f,O cs x f→∀ a ∈ f,a<w.heap.size):∀ a ∈ fp,a<w.heap.size:=by
  obtain ⟨pv,bv,f1,f2,rfl,rfl,h1,h2⟩:=h
  intro a ha
  rcases List.mem_append.1 ha with ha | ha
  · exact h1.lt hO a ha
  · exact h2.lt hO a ha
theorem OEx.lt {w:World}:∀ {d:Nat} {cs:List Value} {e:Ex} {fp:List Nat},OEx w d cs e fp→∀ a ∈ fp,a<w.heap.size
  | 0,_,_,_,h=>h.elim
  | d+1,cs,e,fp,h=>by
    obtain ⟨kv,cv,f1,f2,rfl,rfl,h1,h2,h3,h4,hr,hc⟩:=h
    intro a ha
    rcases List.mem_append.1 ha with ha | ha
    · exact hr.lt (fun cs x f h=>h.lt) a ha
    · exact hc.lt (fun cs x f h=>h.lt' (fun cs x f h=>h.lt)) a ha
theorem OEx.shape {w:World} {d:Nat} {cs:List Value} {x:Ex} {fp:List Nat} (h:OEx w d cs x fp):∃ sk sn st se p1 n1 q1 p2 n2 q2,cs = [.int .i64 sk,.int .i64 sn,.string st,.string se,.slice p1 n1 q1,.slice p2 n2 q2]:=by
  cases d with
  | zero=>exact h.elim
  | succ d =>
    obtain ⟨kv,cv,f1,f2,rfl,rfl,_,_,_,_,hr,hc⟩:=h
    obtain ⟨p1,c1,rfl,_⟩:=hr.shape
    obtain ⟨p2,c2,rfl,_⟩:=hc.shape
    exact ⟨_,_,_,_,_,_,_,_,_,_,rfl⟩
theorem OCl.shape {w:World} {O:List Value→Ex→List Nat→Prop} {cs:List Value} {x:Cl} {fp:List Nat} (h:OCl w O cs x fp):∃ p1 n1 q1 p2 n2 q2,cs = [.slice p1 n1 q1,.slice p2 n2 q2]:=by
  obtain ⟨pv,bv,f1,f2,rfl,rfl,h1,h2⟩:=h
  obtain ⟨p1,c1,rfl,_⟩:=h1.shape
  obtain ⟨p2,c2,rfl,_⟩:=h2.shape
  exact ⟨_,_,_,_,_,_,rfl⟩
def ORf (_:World) (_:Nat) (cs:List Value) (r:Rf) (fp:List Nat):Prop:=HRf cs r∧fp = []
def OFn (w:World) (d:Nat) (cs:List Value) (f:Fn') (fp:List Nat):Prop :=
  ∃ cv,cs = [.string f.name,.int .i64 f.arity,cv]∧okS f.name∧okI f.arity∧ORows w 127 2 (OCl w (OEx w d)) cv f.clauses fp
def OMd (w:World) (d:Nat) (cs:List Value) (m:Md) (fp:List Nat):Prop :=
  ∃ ev fv f1 f2,cs = [.string m.name,ev,fv]∧fp=f1 ++ f2∧okS m.name∧ORows w 89 2 (ORf w d) ev m.exports f1∧ORows w 91 3 (OFn w d) fv m.funs f2
theorem ORf.lt {w:World} {d:Nat} {cs:List Value} {r:Rf} {fp:List Nat} (h:ORf w d cs r fp):∀ a ∈ fp,a<w.heap.size:=by rw [h.2];simp
theorem ORf.shape {w:World} {d:Nat} {cs:List Value} {x:Rf} {fp:List Nat} (h:ORf w d cs x fp):∃ st sk,cs = [.string st,.int .i64 sk]:=by
  obtain ⟨⟨rfl,_⟩,_⟩:=h
  exact ⟨_,_,rfl⟩
theorem OFn.keep {w w':World} {d:Nat} {cs:List Value} {f:Fn'} {fp:List Nat} (h:OFn w d cs f fp) (hk:KeepOn fp w w'):OFn w' d cs f fp:=by
  obtain ⟨cv,rfl,h1,h2,h3⟩:=h
  exact ⟨cv,rfl,h1,h2,h3.keep hk (fun cs x f _ hs h=>OCls.keep h (hk.sub hs))⟩
theorem OFn.tree {w:World} {S:Nat→Prop} {d:Nat} {cs:List Value} {f:Fn'} {fp:List Nat} (h:OFn w d cs f fp) (hS:∀ a ∈ fp,S a):HFn w S d cs f:=by
  obtain ⟨cv,rfl,h1,h2,h3⟩:=h
  exact ⟨cv,rfl,h1,h2,h3.rows hS (fun cs x f _ hs h=>OCls.tree h (fun a ha=>hS a (hs a ha)))⟩
theorem OFn.lt {w:World} {d:Nat} {cs:List Value} {f:Fn'} {fp:List Nat} (h:OFn w d cs f fp):∀ a ∈ fp,a<w.heap.size:=by
  obtain ⟨cv,rfl,h1,h2,h3⟩:=h
  exact h3.lt (fun cs x f h=>h.lt' (fun cs x f h=>h.lt))
theorem OFn.shape {w:World} {d:Nat} {cs:List Value} {x:Fn'} {fp:List Nat} (h:OFn w d cs x fp):∃ st sk p1 n1 q1,cs = [.string st,.int .i64 sk,.slice p1 n1 q1]:=by
  obtain ⟨cv,rfl,h1,h2,h3⟩:=h
  obtain ⟨p1,c1,rfl,_⟩:=h3.shape
  exact ⟨_,_,_,_,_,rfl⟩
theorem OMd.keep {w w':World} {d:Nat} {cs:List Value} {m:Md} {fp:List Nat} (h:OMd w d cs m fp) (hk:KeepOn fp w w'):OMd w' d cs m fp:=by
  obtain ⟨ev,fv,f1,f2,rfl,rfl,h1,h2,h3⟩:=h
  exact ⟨ev,fv,f1,f2,rfl,rfl,h1,h2.keep (hk.sub (fun a ha=>by simp [ha])) (fun cs x f _ hs h=>h),h3.keep (hk.sub (fun a ha=>by simp [ha])) (fun cs x f _ hs h=>h.keep (hk.sub (fun a ha=>by simp [hs a ha])))⟩
theorem OMd.tree {w:World} {S:Nat→Prop} {d:Nat} {cs:List Value} {m:Md} {fp:List Nat} (h:OMd w d cs m fp) (hS:∀ a ∈ fp,S a):HMd w S d cs m:=by
  obtain ⟨ev,fv,f1,f2,rfl,rfl,h1,h2,h3⟩:=h
  exact ⟨ev,fv,rfl,h1,h2.rows (fun a ha=>hS a (by simp [ha])) (fun cs x f _ hs h=>h.1),h3.rows (fun a ha=>hS a (by simp [ha])) (fun cs x f _ hs h=>h.tree (fun a ha=>hS a (by simp [hs a ha])))⟩
theorem OMd.lt {w:World} {d:Nat} {cs:List Value} {m:Md} {fp:List Nat} (h:OMd w d cs m fp):∀ a ∈ fp,a<w.heap.size:=by
  obtain ⟨ev,fv,f1,f2,rfl,rfl,h1,h2,h3⟩:=h
  intro a ha
  rcases List.mem_append.1 ha with ha | ha
  · exact h2.lt (fun cs x f h=>h.lt) a ha
  · exact h3.lt (fun cs x f h=>h.lt) a ha
theorem OMd.shape {w:World} {d:Nat} {cs:List Value} {x:Md} {fp:List Nat} (h:OMd w d cs x fp):∃ st p1 n1 q1 p2 n2 q2,cs = [.string st,.slice p1 n1 q1,.slice p2 n2 q2]:=by
  obtain ⟨ev,fv,f1,f2,rfl,rfl,h1,h2,h3⟩:=h
  obtain ⟨p1,c1,rfl,_⟩:=h2.shape
  obtain ⟨p2,c2,rfl,_⟩:=h3.shape
  exact ⟨_,_,_,_,_,_,_,rfl⟩
end Go.Proofs.YtefpgpbbgclemaaGreatDoor
