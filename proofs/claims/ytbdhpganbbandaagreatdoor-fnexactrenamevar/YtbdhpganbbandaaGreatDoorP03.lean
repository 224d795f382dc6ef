/-
  Gen Sq Own Wt RemMath MadeOff ExOwn ModOwn Enters PlBase Pb 
-/
import Derived.Test.YtbdhpganbbandaaGreatDoorP02
import Derived.Deep.RegionHeld3
import Derived.WalkSmall
import Derived.Deep.DeepMust
set_option maxHeartbeats 16000000
set_option linter.unusedVariables false
set_option maxRecDepth 100000
namespace Go.Proofs.YtbdhpganbbandaaGreatDoor
open Go.ChangeShapes Go.WideShapes Go.ChangeAt Go.RowKit
def wtS {α:Type} (f:α→Nat) (xs:List α):Nat:=xs.length+(xs.map f).sum
def leftOf (left wt:Nat):Int:=if left<wt then -1 else ((left - wt:Nat):Int)
theorem leftOf_lt {left wt:Nat} (h:left<wt):leftOf left wt = -1:=if_pos h
theorem leftOf_ge {left wt:Nat} (h:wt≤left):leftOf left wt=((left - wt:Nat):Int):=if_neg (by omega)
theorem sum_take_succ {α:Type} (f:α→Nat) (xs:List α) (k:Nat) (x:α) (h:xs[k]?=some x):((xs.take (k+1)).map f).sum=((xs.take k).map f).sum+f x:=by
  rw [List.take_add_one,h];simp
theorem sum_take_le {α:Type} (f:α→Nat) (xs:List α) (k:Nat):((xs.take k).map f).sum≤(xs.map f).sum:=by
  conv=>rhs;rw [← List.take_append_drop k xs]
  rw [List.map_append,List.sum_append];omega
def SzC {α:Type} (F:FuncId) (H:World→Value→α→Prop) (wt:α→Nat):Prop :=
  ∀ (w:World) (v:Value) (x:α) (left:Nat),H w v x→left≤16777216→Calls Tryz.prog F #[v,.int .i64 left] w fun e w'=>e=.returned (.int .i64 (leftOf left (wt x)))∧Below w.heap.size w w'
theorem SzC.at {α:Type} {F:FuncId} {H:World→Value→α→Prop} {wt:α→Nat} (h:SzC F H wt) {w:World} {v:Value} (x:α) (l:Int) (left:Nat) (hl:l=left) (hx:H w v x) (hb:left≤16777216) :
    Calls Tryz.prog F #[v,.int .i64 l] w fun e w'=>e=.returned (.int .i64 (leftOf left (wt x)))∧Below w.heap.size w w':=by
  subst hl;exact h w v x left hx hb
def EqC {α:Type} (F:FuncId) (H:World→Value→α→Prop):Prop :=
  ∀ (w:World) (v1 v2:Value) (x:α),H w v1 x→H w v2 x→Calls Tryz.prog F #[v1,v2] w fun e w'=>e=.returned (.bool true)∧Below w.heap.size w w'
theorem grownBy_transR {a b c:World} {r:Option Nat} (h:a.grownBy b r) (k:b.grownBy c r):a.grownBy c r :=
  ⟨k.os.trans h.os,k.tape.trans h.tape,k.output.trans h.output,Nat.le_trans h.size k.size,fun j hj hr=>(k.block j (Nat.lt_of_lt_of_le hj h.size) hr).trans (h.block j hj hr)⟩
theorem grownBy_belowR {a b:World} {r:Option Nat} (h:Below a.heap.size a b):a.grownBy b r:=⟨h.os,h.tape,h.output,h.size,fun j hj _=>h.block j hj⟩
theorem own_someR {w:World} {B g n cap c:Nat} {e:TypeId} {xs:List Value} (h:w.ownsRow B e c (.slice (some ⟨g,0,none⟩) n cap) n xs) (j:Nat) (hj:j<n * c):∃ u,w.cell? ⟨g,j,none⟩=some u :=
  ⟨_,(h.cellAt j hj).trans (List.getElem?_eq_getElem (by rw [h.1];exact hj))⟩
theorem make_row {t e:TypeId} {c:Nat} (ht:Tryz.prog.underlying t=some (.slice e)) (hi:((Tryz.prog.info? e).any fun i=>i.zero.isSome && (i.size == c && decide (i.bytes≤1000)))=true) (w:World) (n:Nat) (hn:n≤16777216) :
    ∃ M:Array Value,M.size=n * c∧(Instr.makeSlice t (.int .i64 n) (.int .i64 n)).run Tryz.prog w=.ok (.slice (some ⟨w.heap.size,0,none⟩) n n) (w.alloc (.cells M e)):=by
  cases h:Tryz.prog.info? e with
  | none=>rw [h] at hi;cases hi
  | some i =>
    rw [h] at hi;simp only [Option.any_some,Bool.and_eq_true,beq_iff_eq,decide_eq_true_eq] at hi;obtain ⟨hz,hs,hb⟩:=hi;obtain ⟨z,hz⟩:=Option.isSome_iff_exists.1 hz
    have:=run_make (P:=Tryz.prog) w t e i z ht h hz .i64 .i64 n n (by omega) (Int.le_refl _) (by
      have h1:i.bytes * n≤1000 * 16777216:=Nat.mul_le_mul hb hn;have h2:((i.bytes * n:Nat):Int)≤((1000 * 16777216:Nat):Int):=(by exact_mod_cast h1);rw [Int.natCast_mul] at h2
      omega) (by omega)
    exact ⟨_,by rw [size_madeCells,hs];simp,this⟩
def Blk (w:World) (b:Nat) (cs:Array Value) (t:TypeId):Prop:=w.heap[b]?=some (.cells cs t)
theorem Blk.cell {w:World} {b:Nat} {cs:Array Value} {t:TypeId} (h:Blk w b cs t) (j:Nat) (v:Value) (hv:cs[j]?=some v):w.cell? ⟨b,j,none⟩=some v:=by
  unfold Blk at h;unfold World.cell?;rw [h];simpa using hv
theorem Blk.frozen {w:World} {b:Nat} {cs:Array Value} {t:TypeId} (h:Blk w b cs t) (j:Nat):w.frozen? ⟨b,j,none⟩=false:=by
  unfold Blk at h;unfold World.frozen?;rw [h];simp
theorem Blk.below {w w':World} {N b:Nat} {cs:Array Value} {t:TypeId} (h:Blk w b cs t) (hb:Below N w w') (hN:b<N):Blk w' b cs t:=(hb.block b hN).trans h
theorem Blk.new {w:World} {cs:Array Value} {t:TypeId}:Blk (w.alloc (.cells cs t)) w.heap.size cs t:=by
  show (w.heap.push _)[w.heap.size]?=_;simp
theorem Blk.alloc {w:World} {b:Nat} {cs:Array Value} {t:TypeId} {o:Obj} (h:Blk w b cs t):Blk (w.alloc o) b cs t :=
  (Below.heap_alloc _ _ _ (by unfold Blk at h;exact (Array.getElem?_eq_some_iff.1 h).1)).trans h
theorem Blk.same {w:World} {b j:Nat} {cs cs':Array Value} {t:TypeId} {v:Value} (h:Blk w b cs t) (hc:cs.setIfInBounds j v=cs'):Blk (w.setCell ⟨b,j,none⟩ v) b cs' t:=by
  subst hc;exact heap_setCell_same w b j cs t v h
theorem Blk.other {w:World} {b:Nat} {p:Addr} {cs:Array Value} {t:TypeId} {v:Value} (h:Blk w b cs t) (hp:b≠p.block):Blk (w.setCell p v) b cs t:=(Below.heap_setCell _ _ _ _ hp).trans h
theorem SameOn.setCell {S:Nat→Prop} {a b:World} (h:SameOn S a b) {p:Addr} (hp:¬ S p.block) (v:Value):SameOn S a (b.setCell p v) :=
  ⟨by simpa [World.setCell] using h.1,fun g hg hl=>(Below.heap_setCell _ _ _ _ (by intro e;exact hp (e ▸ hg))).trans (h.2 g hg hl)⟩
theorem setCell_hs (w:World) (p:Addr) (v:Value):(w.setCell p v).heap.size=w.heap.size:=by simp [World.setCell]
theorem set2_other {xs:List Value} {d0 d1:Value} {m o:Nat} (h:m<o):((xs.set o d0).set (o+1) d1)[m]?=xs[m]?:=by
  rw [List.getElem?_set_ne (by omega),List.getElem?_set_ne (by omega)]
theorem set2_self {xs:List Value} {d0 d1:Value} {o:Nat} (h:o+1<xs.length) (j:Nat) (hj:j<2):((xs.set o d0).set (o+1) d1)[o+j]? = [d0,d1][j]?:=by
  match j,hj with
  | 0,_=>rw [List.getElem?_set_ne (by omega)];exact List.getElem?_set_self (by omega)
  | 1,_=>rw [List.getElem?_set_self (by simp only [List.length_set];omega)];rfl
theorem stored2 {w:World} {B g n cap:Nat} {e:TypeId} {xs:List Value} (h:w.ownsRow B e 2 (.slice (some ⟨g,0,none⟩) n cap) n xs) (o:Nat) (d0 d1:Value) :
    ((w.setCell ⟨g,o,none⟩ d0).setCell ⟨g,o+1,none⟩ d1).ownsRow B e 2 (.slice (some ⟨g,0,none⟩) n cap) n ((xs.set o d0).set (o+1) d1)∧w.grownBy ((w.setCell ⟨g,o,none⟩ d0).setCell ⟨g,o+1,none⟩ d1) (some g):=by
  have s0:=h.stored o d0;have s1:=s0.1.stored (o+1) d1;exact ⟨s1.1,grownBy_transR s0.2 (s1.2)⟩
theorem set3_other {xs:List Value} {d0 d1 d2:Value} {m o:Nat} (h:m<o):(((xs.set o d0).set (o+1) d1).set (o+2) d2)[m]?=xs[m]?:=by
  rw [List.getElem?_set_ne (by omega),List.getElem?_set_ne (by omega),List.getElem?_set_ne (by omega)]
theorem set3_self {xs:List Value} {d0 d1 d2:Value} {o:Nat} (h:o+2<xs.length) (j:Nat) (hj:j<3):(((xs.set o d0).set (o+1) d1).set (o+2) d2)[o+j]? = [d0,d1,d2][j]?:=by
  match j,hj with
  | 0,_=>rw [List.getElem?_set_ne (by omega),List.getElem?_set_ne (by omega)];exact List.getElem?_set_self (by omega)
  | 1,_=>rw [List.getElem?_set_ne (by omega),List.getElem?_set_self (by simp only [List.length_set];omega)];rfl
  | 2,_=>rw [List.getElem?_set_self (by simp only [List.length_set];omega)];rfl
theorem stored3 {w:World} {B g n cap:Nat} {e:TypeId} {xs:List Value} (h:w.ownsRow B e 3 (.slice (some ⟨g,0,none⟩) n cap) n xs) (o:Nat) (d0 d1 d2:Value) :
    (((w.setCell ⟨g,o,none⟩ d0).setCell ⟨g,o+1,none⟩ d1).setCell ⟨g,o+2,none⟩ d2).ownsRow B e 3 (.slice (some ⟨g,0,none⟩) n cap) n (((xs.set o d0).set (o+1) d1).set (o+2) d2)∧w.grownBy (((w.setCell ⟨g,o,none⟩ d0).setCell ⟨g,o+1,none⟩ d1).setCell ⟨g,o+2,none⟩ d2) (some g):=by
  have s0:=h.stored o d0;have s1:=s0.1.stored (o+1) d1;have s2:=s1.1.stored (o+2) d2;exact ⟨s2.1,grownBy_transR s0.2 (grownBy_transR s1.2 (s2.2))⟩
theorem set6_other {xs:List Value} {d0 d1 d2 d3 d4 d5:Value} {m o:Nat} (h:m<o):((((((xs.set o d0).set (o+1) d1).set (o+2) d2).set (o+3) d3).set (o+4) d4).set (o+5) d5)[m]?=xs[m]?:=by
  rw [List.getElem?_set_ne (by omega),List.getElem?_set_ne (by omega),List.getElem?_set_ne (by omega),List.getElem?_set_ne (by omega),List.getElem?_set_ne (by omega),List.getElem?_set_ne (by omega)]
theorem set6_self {xs:List Value} {d0 d1 d2 d3 d4 d5:Value} {o:Nat} (h:o+5<xs.length) (j:Nat) (hj:j<6):((((((xs.set o d0).set (o+1) d1).set (o+2) d2).set (o+3) d3).set (o+4) d4).set (o+5) d5)[o+j]? = [d0,d1,d2,d3,d4,d5][j]?:=by
  match j,hj with
  | 0,_=>rw [List.getElem?_set_ne (by omega),List.getElem?_set_ne (by omega),List.getElem?_set_ne (by omega),List.getElem?_set_ne (by omega),List.getElem?_set_ne (by omega)];exact List.getElem?_set_self (by omega)
  | 1,_=>rw [List.getElem?_set_ne (by omega),List.getElem?_set_ne (by omega),List.getElem?_set_ne (by omega),List.getElem?_set_ne (by omega),List.getElem?_set_self (by simp only [List.length_set];omega)];rfl
  | 2,_=>rw [List.getElem?_set_ne (by omega),List.getElem?_set_ne (by omega),List.getElem?_set_ne (by omega),List.getElem?_set_self (by simp only [List.length_set];omega)];rfl
  | 3,_=>rw [List.getElem?_set_ne (by omega),List.getElem?_set_ne (by omega),List.getElem?_set_self (by simp only [List.length_set];omega)];rfl
  | 4,_=>rw [List.getElem?_set_ne (by omega),List.getElem?_set_self (by simp only [List.length_set];omega)];rfl
  | 5,_=>rw [List.getElem?_set_self (by simp only [List.length_set];omega)];rfl
theorem stored6 {w:World} {B g n cap:Nat} {e:TypeId} {xs:List Value} (h:w.ownsRow B e 6 (.slice (some ⟨g,0,none⟩) n cap) n xs) (o:Nat) (d0 d1 d2 d3 d4 d5:Value) :
    ((((((w.setCell ⟨g,o,none⟩ d0).setCell ⟨g,o+1,none⟩ d1).setCell ⟨g,o+2,none⟩ d2).setCell ⟨g,o+3,none⟩ d3).setCell ⟨g,o+4,none⟩ d4).setCell ⟨g,o+5,none⟩ d5).ownsRow B e 6 (.slice (some ⟨g,0,none⟩) n cap) n ((((((xs.set o d0).set (o+1) d1).set (o+2) d2).set (o+3) d3).set (o+4) d4).set (o+5) d5)∧w.grownBy ((((((w.setCell ⟨g,o,none⟩ d0).setCell ⟨g,o+1,none⟩ d1).setCell ⟨g,o+2,none⟩ d2).setCell ⟨g,o+3,none⟩ d3).setCell ⟨g,o+4,none⟩ d4).setCell ⟨g,o+5,none⟩ d5) (some g):=by
  have s0:=h.stored o d0;have s1:=s0.1.stored (o+1) d1;have s2:=s1.1.stored (o+2) d2;have s3:=s2.1.stored (o+3) d3;have s4:=s3.1.stored (o+4) d4;have s5:=s4.1.stored (o+5) d5;exact ⟨s5.1,grownBy_transR s0.2 (grownBy_transR s1.2 (grownBy_transR s2.2 (grownBy_transR s3.2 (grownBy_transR s4.2 (s5.2)))))⟩
theorem str_ne {a b:ByteArray} (h:¬ a=b):¬ a.toList=b.toList:=fun e=>h (bytes_inj (by rw [← ByteArray.toList_eq,← ByteArray.toList_eq,e]))
theorem str_neB {a b:ByteArray} (h:¬ a=b):(a.toList == b.toList)=false:=by simpa using str_ne h
theorem Blk.lt {w:World} {b:Nat} {cs:Array Value} {t:TypeId} (h:Blk w b cs t):b<w.heap.size:=by
  unfold Blk at h;exact (Array.getElem?_eq_some_iff.1 h).1
theorem Blk.next {w w':World} {b:Nat} {cs:Array Value} {t:TypeId} (h:Blk w b cs t) (hb:Below w.heap.size w w'):Blk w' b cs t:=h.below hb h.lt
theorem cell_next {w w':World} {a:Addr} {v:Value} (hb:Below w.heap.size w w') (h:w.cell? a=some v):w'.cell? a=some v:=by
  refine (hb.cell (p:=a) ?_).trans h;unfold World.cell? at h
  split at h
  · rename_i heq;exact (Array.getElem?_eq_some_iff.1 heq).1
  · cases h
theorem agg_of_cells {v:Value} {cs:List Value} (h:v.cells.toList=cs) (hl:cs.length≠1):v=.agg cs.toArray:=by
  subst h
  cases v <;> first | (exfalso;exact hl rfl) | rfl
theorem Blk.same_on {w w':World} {b:Nat} {cs:Array Value} {t:TypeId} (h:Blk w b cs t) (hs:SameOn All w w'):Blk w' b cs t :=
  (hs.2 b trivial (by unfold Blk at h;exact (Array.getElem?_eq_some_iff.1 h).1)).trans h
theorem hid {p:Prop} (h:p):Hid p:=h
theorem sqR (n:Nat):n≤n:=Nat.le_refl n
theorem sqN (w:World) (o:Obj):Below w.heap.size w (w.alloc o):=(Below.refl _ _).alloc (Nat.le_refl _) _
theorem sqA {α:Type} {l:List α} {n k:Nat} (h:l.length=n) (hk:k<n):∃ x,l[k]?=some x:=⟨l[k]'(by omega),List.getElem?_eq_getElem _⟩
theorem sqT {α:Type} {l:List α} {n:Nat} (h:l.length=n):l.take n=l:=List.take_of_length_le (by omega)
theorem sqI (k:Nat):(0:Int)≤(k:Int):=by omega
theorem sqL {k n:Nat} (h:k<n):(k:Int)<(n:Int):=by omega
theorem sqB2 {w:World} {b:Nat} {a0 a1:Value} {t:TypeId} (h:Blk w b #[a0,a1] t):w.cell? ⟨b,0,none⟩=some a0∧w.cell? ⟨b,1,none⟩=some a1:=⟨h.cell 0 _ rfl,h.cell 1 _ rfl⟩
theorem sqB3 {w:World} {b:Nat} {a0 a1 a2:Value} {t:TypeId} (h:Blk w b #[a0,a1,a2] t):w.cell? ⟨b,0,none⟩=some a0∧w.cell? ⟨b,1,none⟩=some a1∧w.cell? ⟨b,2,none⟩=some a2:=⟨h.cell 0 _ rfl,h.cell 1 _ rfl,h.cell 2 _ rfl⟩
theorem sqB4 {w:World} {b:Nat} {a0 a1 a2 a3:Value} {t:TypeId} (h:Blk w b #[a0,a1,a2,a3] t):w.cell? ⟨b,0,none⟩=some a0∧w.cell? ⟨b,1,none⟩=some a1∧w.cell? ⟨b,2,none⟩=some a2∧w.cell? ⟨b,3,none⟩=some a3:=⟨h.cell 0 _ rfl,h.cell 1 _ rfl,h.cell 2 _ rfl,h.cell 3 _ rfl⟩
theorem sqB6 {w:World} {b:Nat} {a0 a1 a2 a3 a4 a5:Value} {t:TypeId} (h:Blk w b #[a0,a1,a2,a3,a4,a5] t):w.cell? ⟨b,0,none⟩=some a0∧w.cell? ⟨b,1,none⟩=some a1∧w.cell? ⟨b,2,none⟩=some a2∧w.cell? ⟨b,3,none⟩=some a3∧w.cell? ⟨b,4,none⟩=some a4∧w.cell? ⟨b,5,none⟩=some a5:=⟨h.cell 0 _ rfl,h.cell 1 _ rfl,h.cell 2 _ rfl,h.cell 3 _ rfl,h.cell 4 _ rfl,h.cell 5 _ rfl⟩
theorem sqF2 {w:World} {b:Nat} {cs:Array Value} {t:TypeId} (h:Blk w b cs t):w.frozen? ⟨b,0,none⟩=false∧w.frozen? ⟨b,1,none⟩=false:=⟨h.frozen 0,h.frozen 1⟩
theorem sqF3 {w:World} {b:Nat} {cs:Array Value} {t:TypeId} (h:Blk w b cs t):w.frozen? ⟨b,0,none⟩=false∧w.frozen? ⟨b,1,none⟩=false∧w.frozen? ⟨b,2,none⟩=false:=⟨h.frozen 0,h.frozen 1,h.frozen 2⟩
theorem sqF4 {w:World} {b:Nat} {cs:Array Value} {t:TypeId} (h:Blk w b cs t):w.frozen? ⟨b,0,none⟩=false∧w.frozen? ⟨b,1,none⟩=false∧w.frozen? ⟨b,2,none⟩=false∧w.frozen? ⟨b,3,none⟩=false:=⟨h.frozen 0,h.frozen 1,h.frozen 2,h.frozen 3⟩
theorem sqF6 {w:World} {b:Nat} {cs:Array Value} {t:TypeId} (h:Blk w b cs t):w.frozen? ⟨b,0,none⟩=false∧w.frozen? ⟨b,1,none⟩=false∧w.frozen? ⟨b,2,none⟩=false∧w.frozen? ⟨b,3,none⟩=false∧w.frozen? ⟨b,4,none⟩=false∧w.frozen? ⟨b,5,none⟩=false:=⟨h.frozen 0,h.frozen 1,h.frozen 2,h.frozen 3,h.frozen 4,h.frozen 5⟩
theorem sqC2 {w:World} {g o c:Nat} {cs:List Value} (h:∀ j,j<c→w.cell? ⟨g,o+j,none⟩=cs[j]?) (k:2≤c):w.cell? ⟨g,o+0,none⟩=cs[0]?∧w.cell? ⟨g,o+1,none⟩=cs[1]?:=⟨h 0 (by omega),h 1 (by omega)⟩
theorem sqC3 {w:World} {g o c:Nat} {cs:List Value} (h:∀ j,j<c→w.cell? ⟨g,o+j,none⟩=cs[j]?) (k:3≤c):w.cell? ⟨g,o+0,none⟩=cs[0]?∧w.cell? ⟨g,o+1,none⟩=cs[1]?∧w.cell? ⟨g,o+2,none⟩=cs[2]?:=⟨h 0 (by omega),h 1 (by omega),h 2 (by omega)⟩
theorem sqC4 {w:World} {g o c:Nat} {cs:List Value} (h:∀ j,j<c→w.cell? ⟨g,o+j,none⟩=cs[j]?) (k:4≤c):w.cell? ⟨g,o+0,none⟩=cs[0]?∧w.cell? ⟨g,o+1,none⟩=cs[1]?∧w.cell? ⟨g,o+2,none⟩=cs[2]?∧w.cell? ⟨g,o+3,none⟩=cs[3]?:=⟨h 0 (by omega),h 1 (by omega),h 2 (by omega),h 3 (by omega)⟩
theorem sqC5 {w:World} {g o c:Nat} {cs:List Value} (h:∀ j,j<c→w.cell? ⟨g,o+j,none⟩=cs[j]?) (k:5≤c):w.cell? ⟨g,o+0,none⟩=cs[0]?∧w.cell? ⟨g,o+1,none⟩=cs[1]?∧w.cell? ⟨g,o+2,none⟩=cs[2]?∧w.cell? ⟨g,o+3,none⟩=cs[3]?∧w.cell? ⟨g,o+4,none⟩=cs[4]?:=⟨h 0 (by omega),h 1 (by omega),h 2 (by omega),h 3 (by omega),h 4 (by omega)⟩
theorem sqC6 {w:World} {g o c:Nat} {cs:List Value} (h:∀ j,j<c→w.cell? ⟨g,o+j,none⟩=cs[j]?) (k:6≤c):w.cell? ⟨g,o+0,none⟩=cs[0]?∧w.cell? ⟨g,o+1,none⟩=cs[1]?∧w.cell? ⟨g,o+2,none⟩=cs[2]?∧w.cell? ⟨g,o+3,none⟩=cs[3]?∧w.cell? ⟨g,o+4,none⟩=cs[4]?∧w.cell? ⟨g,o+5,none⟩=cs[5]?:=⟨h 0 (by omega),h 1 (by omega),h 2 (by omega),h 3 (by omega),h 4 (by omega),h 5 (by omega)⟩
theorem sqE {α:Type} {l:List α} {k:Nat} {x:α} (h:l[k]?=some x):l≠[]:=by rintro rfl;simp at h
theorem sqM {n c:Nat} (h:n≤c) (k:c≤maxLen):n≤9223372036854775807:=by unfold maxLen at k;omega
theorem sqO {S:Nat→Prop} {w w':World} (h:Below w.heap.size w w'):SameOn S w w':=SameOn.of_below h
theorem sqK {w w':World} {a:Addr} (h:w'.heap[a.block]?=w.heap[a.block]?):w'.cell? a=w.cell? a:=World.cell?_of_block h
theorem sqS {S:Nat→Prop} {w:World}:SameOn S w w:=⟨Nat.le_refl _,fun _ _ _=>rfl⟩
theorem sqj {S:Nat→Prop} (g:Nat) (h:S g):S g:=h
abbrev Bz (w w':World):Prop:=Below w.heap.size w w'
section
def KeepOn (fp:List Nat) (w w':World):Prop:=∀ a ∈ fp,w'.heap[a]?=w.heap[a]?
theorem KeepOn.sub {fp fp':List Nat} {w w':World} (h:KeepOn fp w w') (hs:∀ a ∈ fp',a ∈ fp):KeepOn fp' w w':=λa ha=>h a (hs a ha)
theorem KeepOn.below {fp:List Nat} {w w':World} {N:Nat} (h:Below N w w') (hs:∀ a ∈ fp,a<N):KeepOn fp w w':=λa ha=>h.block a (hs a ha)
structure Off (fp:List Nat) (w w':World):Prop where
 os:w'.os=w.os
 tape:w'.tape=w.tape
 output:w'.output=w.output
 size:w.heap.size<=w'.heap.size
 block:∀ a,a<w.heap.size->a ∉ fp->w'.heap[a]?=w.heap[a]?
theorem Off.refl (fp:List Nat) (w:World):Off fp w w:=⟨rfl,rfl,rfl,Nat.le_refl _,λ_ _ _=>rfl⟩
theorem Off.trans {fp:List Nat} {a b c:World} (h:Off fp a b) (k:Off fp b c):Off fp a c :=
 ⟨k.os.trans h.os,k.tape.trans h.tape,k.output.trans h.output,Nat.le_trans h.size k.size,λg hg hf=>(k.block g (Nat.lt_of_lt_of_le hg h.size) hf).trans (h.block g hg hf)⟩
theorem Off.sub {fp fp':List Nat} {a b:World} (h:Off fp a b) (hs:∀ g ∈ fp,g ∈ fp'):Off fp' a b :=
 ⟨h.os,h.tape,h.output,h.size,λg hg hf=>h.block g hg (λhm=>hf (hs g hm))⟩
theorem Off.of_below {fp:List Nat} {a b:World} (h:Bz a b):Off fp a b:=⟨h.os,h.tape,h.output,h.size,λg hg _=>h.block g hg⟩
theorem Off.of_grown {fp:List Nat} {a b:World} {g:Nat} (h:a.grownBy b (some g)) (hg:g ∈ fp):Off fp a b :=
 ⟨h.os,h.tape,h.output,h.size,λj hj hf=>h.block j hj (by simp;intro e;exact hf (e ▸ hg))⟩
theorem Off.below {fp:List Nat} {a b:World} {N:Nat} (h:Off fp a b) (hs:∀ g ∈ fp,N<=g) (hN:N<=a.heap.size):Below N a b :=
 ⟨h.os,h.tape,h.output,h.size,λj hj=>h.block j (Nat.lt_of_lt_of_le hj hN) (λhm=>by have:=hs j hm;omega)⟩
theorem Off.keep {fp f:List Nat} {a b:World} (h:Off fp a b) (hs:∀ g ∈ f,g<a.heap.size/\g ∉ fp):KeepOn f a b:=λg hg=>h.block g (hs g hg).1 (hs g hg).2
theorem Off.under {fp:List Nat} {w A B:World} {N:Nat} (h:Off fp w A) (hN:w.heap.size<=N) (hb:Below N A B):Off fp w B :=
 ⟨hb.os.trans h.os,hb.tape.trans h.tape,hb.output.trans h.output,Nat.le_trans h.size hb.size,λg hg hf=>(hb.block g (by omega)).trans (h.block g hg hf)⟩
def ORows {α:Type} (w:World) (e:TypeId) (c:Nat) (R:List Value->α->List Nat->Prop) (v:Value) (xs:List α) (fp:List Nat):Prop :=
 (xs = []/\fp = []/\∃ p cap,v=.slice p 0 cap/\cap<=maxLen) \/
  (xs≠[]/\∃ (cells:List Value) (g cap:Nat) (fps:List (List Nat)),w.ownsRow 0 e c v xs.length cells/\v=.slice (some ⟨g,0,none⟩) xs.length cap/\fps.length=xs.length/\fp=g :: fps.flatten /\
   ∀ (i:Nat) x f,xs[i]?=some x->fps[i]?=some f->∃ cs:List Value,cs.length=c/\(∀ j,j<c->cells[i * c+j]?=cs[j]?)/\R cs x f)
theorem owns_block {w w':World} {e:TypeId} {c g n cap:Nat} {v:Value} {cells:List Value} (h:w.ownsRow 0 e c v n cells) (hv:v=.slice (some ⟨g,0,none⟩) n cap) (hk:w'.heap[g]?=w.heap[g]?):w'.ownsRow 0 e c v n cells:=by
 refine ⟨h.1,?_⟩
 rcases h.2 with hn | ⟨g',cap',cur,hv',hb,hg,hr⟩
 . exact .inl hn
 . have:g'=g:=by rw [hv] at hv';simp at hv';exact hv'.1.symm
   subst this;exact .inr ⟨g',cap',cur,hv',hb,hk.trans hg,hr⟩
theorem owns_lt {w:World} {e:TypeId} {c g n cap:Nat} {v:Value} {cells:List Value} (h:w.ownsRow 0 e c v n cells) (hv:v=.slice (some ⟨g,0,none⟩) n cap):g<w.heap.size:=by
 rcases h.2 with hn | ⟨g',cap',cur,hv',hb,hg,hr⟩
 . rw [hn.1] at hv;cases hv
 . have:g'=g:=by rw [hv] at hv';simp at hv';exact hv'.1.symm
   subst this;exact (Array.getElem?_eq_some_iff.1 hg).1
theorem ORows.shape {α:Type} {w:World} {e:TypeId} {c:Nat} {R:List Value->α->List Nat->Prop} {v:Value} {xs:List α} {fp:List Nat} (h:ORows w e c R v xs fp):∃ p cap,v=.slice p xs.length cap/\xs.length<=cap/\cap<=maxLen:=by
 rcases h with ⟨rfl,_,p,cap,hv,hc⟩ | ⟨_,cells,g,cap,fps,ho,hv,_⟩
 . exact ⟨p,cap,hv,Nat.zero_le _,hc⟩
 . rcases ho.2 with hn | ⟨g',cap',cur,hv',hb,hg,hr⟩
   . rw [hn.1] at hv;cases hv
   . exact ⟨_,_,hv',hr.1,hr.2.1⟩
theorem ORows.rows {α:Type} {w:World} {e:TypeId} {c:Nat} {R:List Value->α->List Nat->Prop} {R':List Value->α->Prop} {S:Nat->Prop} {v:Value} {xs:List α} {fp:List Nat} (h:ORows w e c R v xs fp) (hS:∀ a ∈ fp,S a)
 (hR:∀ cs x f,x ∈ xs->(∀ a ∈ f,a ∈ fp)->R cs x f->R' cs x):Rows w S c R' v xs:=by
 obtain ⟨p,cap,hv,h1,h2⟩:=h.shape;refine ⟨p,cap,hv,h1,h2,λhne=>?_⟩
 rcases h with h | ⟨_,cells,g,cap',fps,ho,hv',hl,rfl,hat⟩
 . exact absurd h.1 hne
 have hp:p=some ⟨g,0,none⟩:=(by rw [hv] at hv';simp at hv';exact hv'.1);refine ⟨g,0,hp,hS g (by simp),owns_lt ho hv',λi x hi=>?_⟩;have hil:i<xs.length:=(List.getElem?_eq_some_iff.1 hi).1;obtain ⟨f,hf⟩:∃ f,fps[i]?=some f:=⟨fps[i]'(by rw [hl];exact hil),List.getElem?_eq_getElem _⟩;obtain ⟨cs,hcl,hcs,hr⟩:=hat i x f hi hf;refine ⟨cs,hcl,λj hj=>?_,hR cs x f (List.mem_of_getElem? hi) (λa ha=>?_) hr⟩
 . rw [<-hcs j hj,Nat.zero_add]
   rw [hv'] at ho;refine ho.cellAt (i * c+j) ?_;have:i * c+c<=xs.length * c:=(by rw [<-Nat.succ_mul];exact Nat.mul_le_mul_right c hil);omega
 . exact List.mem_cons_of_mem _ (List.mem_flatten.2 ⟨f,List.mem_of_getElem? hf,ha⟩)
theorem ORows.keep {α:Type} {w w':World} {e:TypeId} {c:Nat} {R R':List Value->α->List Nat->Prop} {v:Value} {xs:List α} {fp:List Nat} (h:ORows w e c R v xs fp) (hk:KeepOn fp w w')
 (hR:∀ cs x f,x ∈ xs->(∀ a ∈ f,a ∈ fp)->R cs x f->R' cs x f):ORows w' e c R' v xs fp:=by
 rcases h with h | ⟨hne,cells,g,cap',fps,ho,hv',hl,rfl,hat⟩
 . exact .inl h
 refine .inr ⟨hne,cells,g,cap',fps,owns_block ho hv' (hk g (by simp)),hv',hl,rfl,λi x f hi hf=>?_⟩;obtain ⟨cs,hcl,hcs,hr⟩:=hat i x f hi hf;exact ⟨cs,hcl,hcs,hR cs x f (List.mem_of_getElem? hi) (λa ha=>List.mem_cons_of_mem _ (List.mem_flatten.2 ⟨f,List.mem_of_getElem? hf,ha⟩)) hr⟩
theorem ORows.lt {α:Type} {w:World} {e:TypeId} {c:Nat} {R:List Value->α->List Nat->Prop} {v:Value} {xs:List α} {fp:List Nat} (h:ORows w e c R v xs fp) (hR:∀ cs x f,R cs x f->∀ a ∈ f,a<w.heap.size):∀ a ∈ fp,a<w.heap.size:=by
 rcases h with ⟨_,rfl,_⟩ | ⟨hne,cells,g,cap',fps,ho,hv',hl,rfl,hat⟩
 . intro a ha;simp at ha
 . intro a ha
   rcases List.mem_cons.1 ha with rfl | ha
   . exact owns_lt ho hv'
   . obtain ⟨f,hf,ha⟩:=List.mem_flatten.1 ha
     obtain ⟨i,hi,rfl⟩:=List.mem_iff_getElem.1 hf;obtain ⟨cs,_,_,hr⟩:=hat i (xs[i]'(by rw [<-hl];exact hi)) _ (List.getElem?_eq_getElem _) (List.getElem?_eq_getElem hi);exact hR _ _ _ hr a ha
theorem ORows.set {α:Type} {w':World} {e:TypeId} {c:Nat} {R R':List Value->α->List Nat->Prop} {v:Value} {xs:List α} {cells cells':List Value} {g cap:Nat} {fps:List (List Nat)} {i:Nat} {x':α} {f:List Nat}
 (hne:xs≠[]) (ho:w'.ownsRow 0 e c v xs.length cells') (hv:v=.slice (some ⟨g,0,none⟩) xs.length cap) (hl:fps.length=xs.length)
 (hat:∀ (i:Nat) x f,xs[i]?=some x->fps[i]?=some f->∃ cs:List Value,cs.length=c/\(∀ j,j<c->cells[i * c+j]?=cs[j]?)/\R cs x f) (hf:fps[i]?=some f)
 (hother:∀ m,(m<i * c\/i * c+c<=m)->cells'[m]?=cells[m]?) (cs':List Value) (hcl:cs'.length=c) (hcs:∀ j,j<c->cells'[i * c+j]?=cs'[j]?) (hr:R' cs' x' f)
 (hk:∀ (j:Nat) y f' cs,j≠i->fps[j]?=some f'->R cs y f'->R' cs y f'):ORows w' e c R' v (xs.set i x') (g :: fps.flatten):=by
 refine .inr ⟨λh=>hne (by cases xs with | nil=>rfl | cons a l=>cases i <;> simp at h),cells',g,cap,fps,by rw [List.length_set];exact ho,by rw [List.length_set];exact hv,by rw [List.length_set];exact hl,rfl,λj y f' hj hf'=>?_⟩;by_cases hji:j=i
 . subst hji
   have hjl:j<xs.length:=(by rw [<-hl];exact (List.getElem?_eq_some_iff.1 hf).1);rw [List.getElem?_set_self hjl] at hj;obtain rfl:=Option.some.inj hj;obtain rfl:=Option.some.inj (hf.symm.trans hf');exact ⟨cs',hcl,hcs,hr⟩
 . rw [List.getElem?_set_ne (λh=>hji h.symm)] at hj
   obtain ⟨cs,h1,h2,h3⟩:=hat j y f' hj hf';refine ⟨cs,h1,λq hq=>?_,hk j y f' cs hji hf' h3⟩;rw [hother _ ?_]
   . exact h2 q hq
   . rcases Nat.lt_or_gt_of_ne hji with h | h
     . left;have:j * c+c<=i * c:=by rw [<-Nat.succ_mul];exact Nat.mul_le_mul_right c h
       omega
     . right;have:i * c+c<=j * c:=by rw [<-Nat.succ_mul];exact Nat.mul_le_mul_right c h
       omega
theorem nodup_parts {g:Nat} {fps:List (List Nat)} (h:(g :: fps.flatten).Nodup) :
 (∀ f ∈ fps,g ∉ f/\f.Nodup)/\∀ (i j:Nat) f f',i≠j->fps[i]?=some f->fps[j]?=some f'->∀ a ∈ f,a ∉ f':=by
 rw [List.nodup_cons] at h;obtain ⟨hg,hp⟩:=h;obtain ⟨h1,h2⟩:=List.pairwise_flatten.1 hp;refine ⟨λf hf=>⟨λhm=>hg (List.mem_flatten.2 ⟨f,hf,hm⟩),h1 f hf⟩,λi j f f' hij hi hj a ha ha'=>?_⟩;rw [List.pairwise_iff_getElem] at h2;obtain ⟨hi1,rfl⟩:=List.getElem?_eq_some_iff.1 hi;obtain ⟨hj1,rfl⟩:=List.getElem?_eq_some_iff.1 hj
 rcases Nat.lt_or_gt_of_ne hij with hlt | hlt
 . exact h2 i j hi1 hj1 hlt a ha a ha' rfl
 . exact h2 j i hj1 hi1 hlt a ha' a ha rfl
def mix {α:Type} (i:Nat) (ys xs:List α):List α:=ys.take i ++ xs.drop i
theorem mix_zero {α:Type} (ys xs:List α):mix 0 ys xs=xs:=by simp [mix]
theorem mix_all {α:Type} {ys xs:List α} {i:Nat} (hl:ys.length=xs.length) (h:xs.length<=i):mix i ys xs=ys:=by
 unfold mix;rw [List.take_of_length_le (by omega),List.drop_of_length_le h,List.append_nil]
theorem mix_length {α:Type} {ys xs:List α} {i:Nat} (hl:ys.length=xs.length):(mix i ys xs).length=xs.length:=by
 unfold mix;rw [List.length_append,List.length_take,List.length_drop];omega
theorem mix_at {α:Type} {ys xs:List α} {i:Nat} (hl:ys.length=xs.length) (hi:i<xs.length):(mix i ys xs)[i]?=xs[i]?:=by
 unfold mix;rw [List.getElem?_append_right (by rw [List.length_take];omega),List.length_take,List.getElem?_drop]
 congr 1;omega
theorem mix_succ {α:Type} {ys xs:List α} {i:Nat} {y:α} (hl:ys.length=xs.length) (hy:ys[i]?=some y):(mix i ys xs).set i y=mix (i+1) ys xs:=by
 have hi:i<ys.length:=(List.getElem?_eq_some_iff.1 hy).1;unfold mix;rw [List.set_append_right (h:=by rw [List.length_take];omega),List.length_take,Nat.min_eq_left (by omega),Nat.sub_self,List.take_add_one,hy,List.append_assoc]
 congr 1
 rw [List.drop_eq_getElem_cons (i:=i) (l:=xs) (by omega)]
 rfl
def markL {α:Type} (f:Nat->α->α) (c:α->Nat):Nat->List α->List α
 | _,[]=>[]
 | k,x :: xs=>f k x :: markL f c (k+c x) xs
theorem markL_length {α:Type} (f:Nat->α->α) (c:α->Nat):∀ (k:Nat) (xs:List α),(markL f c k xs).length=xs.length
 | _,[]=>rfl
 | k,x :: xs=>by simp [markL,markL_length f c (k+c x) xs]
theorem markL_at {α:Type} (f:Nat->α->α) (c:α->Nat):∀ (k:Nat) (xs:List α) (i:Nat) (x:α),xs[i]?=some x->(markL f c k xs)[i]?=some (f (k+((xs.take i).map c).sum) x)
 | _,[],i,x,h=>by simp at h
 | k,y :: xs,0,x,h=>by simp at h;subst h;simp [markL]
 | k,y :: xs,i+1,x,h=>by
  simp at h;simp only [markL,List.getElem?_cons_succ,markL_at f c (k+c y) xs i x h,List.take_succ_cons,List.map_cons,List.sum_cons,Nat.add_assoc]
structure Made {α:Type} (w wr:World) (G n:Nat) (e:TypeId) (c:Nat) (O:World->List Value->α->List Nat->Prop) (es:List α) (k:Nat) (xs:List Value) (fps:List (List Nat)):Prop where
 own:wr.ownsRow G e c (.slice (some ⟨G,0,none⟩) n n) n xs
 len:fps.length=k
 nd:fps.flatten.Nodup
 rng:∀ a ∈ fps.flatten,G<a/\a<wr.heap.size
 el:∀ (i:Nat) x f,es[i]?=some x->fps[i]?=some f->∃ cs:List Value,cs.length=c/\(∀ j,j<c->xs[i * c+j]?=cs[j]?)/\O wr cs x f
 below:Below G w wr
 sz:G+1<=wr.heap.size
variable {α:Type} {w wr:World} {G n c k:Nat} {e:TypeId} {O:World->List Value->α->List Nat->Prop} {es:List α} {xs:List Value} {fps:List (List Nat)}
theorem Made.start {M:Array Value} (hM:M.size=n * c) (hn:n<=maxLen):Made w (w.alloc (.cells M e)) w.heap.size n e c O es 0 M.toList [] :=
 ⟨World.ownsRow_lit w M n (sqR _) hn hM,rfl,by simp,λa ha=>by simp at ha,λi x f _ hf=>by simp at hf,(sqN _ _),by rw [alloc_hs];exact Nat.le_refl _⟩
theorem Made.step (hO:∀ w w' cs x f,O w cs x f->KeepOn f w w'->O w' cs x f) (h:Made w wr G n e c O es k xs fps) {w1 w2:World} {x:α} {cs xs':List Value} {f:List Nat} (hx:es[k]?=some x) (hb:Bz wr w1) (ho:O w1 cs x f)
 (hnd:f.Nodup) (hf:∀ a ∈ f,wr.heap.size<=a/\a<w1.heap.size) (hcl:cs.length=c) (hown:w2.ownsRow G e c (.slice (some ⟨G,0,none⟩) n n) n xs') (hgr:w1.grownBy w2 (some G))
 (hlow:∀ m,m<k * c->xs'[m]?=xs[m]?) (hself:∀ j,j<c->xs'[k * c+j]?=cs[j]?):Made w w2 G n e c O es (k+1) xs' (fps ++ [f]):=by
 have h1:=h.sz;have h2:=hb.size;have h3:=hgr.size;refine ⟨hown,by rw [List.length_append,h.len];rfl,?_,?_,?_,?_,by omega⟩
 . rw [List.flatten_append,List.nodup_append]
   refine ⟨h.nd,by simpa using hnd,λa ha b hb'=>?_⟩;have:=(h.rng a ha).2;have:=(hf b (by simpa using hb')).1;omega
 . intro a ha
   rw [List.flatten_append,List.mem_append] at ha
   rcases ha with ha | ha
   . have:=h.rng a ha;omega
   . have:=hf a (by simpa using ha);omega
 . intro i y f' hy hf'
   by_cases hik:i<k
   . rw [List.getElem?_append_left (by rw [h.len];exact hik)] at hf'
     obtain ⟨cs',g1,g2,g3⟩:=h.el i y f' hy hf';refine ⟨cs',g1,λj hj=>?_,hO _ _ _ _ _ g3 (λa ha=>?_)⟩
     . rw [hlow]
       . exact g2 j hj
       . have:i * c+c<=k * c:=by rw [<-Nat.succ_mul];exact Nat.mul_le_mul_right c hik
         omega
     . have hr:=h.rng a (List.mem_flatten.2 ⟨f',List.mem_of_getElem? hf',ha⟩)
       exact (hgr.block a (by omega) (by simp;omega)).trans (hb.block a hr.2)
   . have hil:i<k+1:=by
      have:=(List.getElem?_eq_some_iff.1 hf').1;rw [List.length_append,h.len] at this;simpa using this
     obtain rfl:i=k:=(by omega);obtain rfl:x=y:=Option.some.inj (hx.symm.trans hy);rw [List.getElem?_append_right (by rw [h.len];exact Nat.le_refl _),h.len,Nat.sub_self] at hf';simp at hf';subst hf';exact ⟨cs,hcl,hself,hO _ _ _ _ _ ho (λa ha=>by have:=hf a ha;exact hgr.block a (by omega) (by simp;omega))⟩
 . exact h.below.trans ((hb.mono (by omega)).trans ⟨hgr.os,hgr.tape,hgr.output,hgr.size,λj hj=>hgr.block j (by omega) (by simp;omega)⟩)
theorem Made.done (h:Made w wr G n e c O es n xs fps) (hn:es.length=n) (hm:n<=maxLen):∃ fp,ORows wr e c (O wr) (.slice (some ⟨G,0,none⟩) n n) es fp/\fp.Nodup/\∀ a ∈ fp,G<=a/\a<wr.heap.size:=by
 by_cases hne:es = []
 . subst hne
   exact ⟨[],.inl ⟨rfl,rfl,_,_,by rw [<-hn];rfl,hm⟩,by simp,λa ha=>by simp at ha⟩
 . refine ⟨G :: fps.flatten,.inr ⟨hne,xs,G,n,fps,?_,by rw [hn],by rw [h.len,hn],rfl,h.el⟩,?_,?_⟩
   . rw [hn]
     obtain ⟨h1,h2⟩:=h.own;refine ⟨h1,h2.imp id ?_⟩;rintro ⟨g,cap,cur,a1,a2,a3⟩;exact ⟨g,cap,cur,a1,Nat.zero_le _,a3⟩
   . rw [List.nodup_cons]
     exact ⟨λhm=>by have:=(h.rng G hm).1;omega,h.nd⟩
   . intro a ha
     have:=h.sz
     rcases List.mem_cons.1 ha with rfl | ha
     . omega
     . have:=h.rng a ha;omega
def ToO {α:Type} (F:FuncId) (H:World->Value->α->Prop) (O:World->Value->α->List Nat->Prop) (wt:α->Nat):Prop :=
 ∀ (w:World) (v:Value) (x:α),H w v x->wt x<=16777216->Calls Tryz.prog F #[v] w λe w'=>∃ u fp,e=.returned u/\O w' u x fp/\fp.Nodup/\(∀ a ∈ fp,w.heap.size<=a/\a<w'.heap.size)/\Bz w w'
end
def wtCl (f:Ex->Nat) (c:Cl):Nat:=wtS f c.1+wtS f c.2
def wtEx:Nat->Ex->Nat
 | 0,_=>0
 | d+1,e=>e.text.size+e.mod.size+wtS (wtEx d) e.kids+wtS (wtCl (wtEx d)) e.clauses
def wtRf (r:Rf):Nat:=r.name.size
def wtFn (d:Nat) (f:Fn'):Nat:=f.name.size+wtS (wtCl (wtEx d)) f.clauses
def wtMd (d:Nat) (m:Md):Nat:=m.name.size+wtS wtRf m.exports+wtS (wtFn d) m.funs
def mapX (f:Ex->Ex):Nat->Ex->Ex
 | 0,x=>x
 | d+1,.mk k n t m ks cs=>f (.mk k n t m (ks.map (mapX f d)) (cs.map λc=>(c.1.map (mapX f d),c.2.map (mapX f d))))
def mapC (f:Ex->Ex) (d:Nat) (c:Cl):Cl:=(c.1.map (mapX f d),c.2.map (mapX f d))
def mapF (f:Ex->Ex) (d:Nat) (x:Fn'):Fn':=⟨x.name,x.arity,x.clauses.map (mapC f d)⟩
def mapM (f:Ex->Ex) (d:Nat) (m:Md):Md:=⟨m.name,m.exports,m.funs.map (mapF f d)⟩
theorem mapX_id:∀ (d:Nat) (x:Ex),mapX id d x=x
 | 0,_=>rfl
 | d+1,.mk k n t m ks cs=>by
  have h1:∀ l:List Ex,l.map (mapX id d)=l:=λl=>by
   rw [List.map_congr_left (g:=id) (λy _=>mapX_id d y)];simp
  show id (Ex.mk k n t m (ks.map (mapX id d)) (cs.map λc=>(c.1.map (mapX id d),c.2.map (mapX id d))))=_
  have h2:(λc:Cl=>(c.1.map (mapX id d),c.2.map (mapX id d)))=id:=funext λc=>by rw [h1,h1];rfl
  rw [h1,h2];simp
theorem mapC_id (d:Nat) (c:Cl):mapC id d c=c:=by
 have h1:∀ l:List Ex,l.map (mapX id d)=l:=λl=>by
  rw [List.map_congr_left (g:=id) (λy _=>mapX_id d y)];simp
 unfold mapC;rw [h1,h1]
theorem mapF_id (d:Nat) (x:Fn'):mapF id d x=x:=by
 have:x.clauses.map (mapC id d)=x.clauses:=(by rw [List.map_congr_left (g:=id) (λy _=>mapC_id d y)];simp);unfold mapF;rw [this]
theorem mapM_id (d:Nat) (m:Md):mapM id d m=m:=by
 have:m.funs.map (mapF id d)=m.funs:=(by rw [List.map_congr_left (g:=id) (λy _=>mapF_id d y)];simp);unfold mapM;rw [this]
theorem mapMs_id (d:Nat) (ms:List Md):ms.map (mapM id d)=ms:=by rw [List.map_congr_left (g:=id) (λy _=>mapM_id d y)];simp
def fT (ft:Int->ByteArray->ByteArray->Nat->ByteArray) (x:Ex):Ex:=.mk x.kind x.n (ft x.kind x.text x.mod x.kids.length) x.mod x.kids x.clauses
def ftU (_:Int) (t _:ByteArray) (_:Nat):ByteArray:=t
theorem fT_U:fT ftU=id:=funext λx=>by cases x;rfl
def ftV (sf st:ByteArray) (k:Int) (t _:ByteArray) (_:Nat):ByteArray:=if k=2/\(t.toList == sf.toList)=true then st else t
theorem ftV_ok {sf st:ByteArray} (h:okS st) {k:Int} {t m:ByteArray} {n:Nat} (ht:okS t):okS (ftV sf st k t m n):=by
 unfold ftV;split
 . exact h
 . exact ht
theorem rows_uniq {α:Type} {w:World} {S S':Nat->Prop} {c:Nat} {R R':List Value->α->Prop} {p:Option Addr} {n q q':Nat} {xs xs':List α}
 (hu:∀ cs x x',R cs x->R' cs x'->x=x') (h:Rows w S c R (.slice p n q) xs) (h':Rows w S' c R' (.slice p n q') xs'):xs=xs':=by
 obtain ⟨p1,c1,e1,-,-,h3⟩:=h;obtain ⟨p2,c2,e2,-,-,h3'⟩:=h';simp only [Value.slice.injEq] at e1 e2;obtain ⟨rfl,hn1,-⟩:=e1;obtain ⟨rfl,hn2,-⟩:=e2
 apply List.ext_getElem?
 intro i;by_cases hi:i<n
 . have k1:i<xs.length:=by omega
   have k2:i<xs'.length:=(by omega);obtain ⟨g,off,hp,-,-,hat⟩:=h3 (by intro e;rw [e] at k1;simp at k1);obtain ⟨g',off',hp',-,-,hat'⟩:=h3' (by intro e;rw [e] at k2;simp at k2);rw [hp] at hp';simp only [Option.some.injEq,Addr.mk.injEq,and_true] at hp';obtain ⟨rfl,rfl⟩:=hp';obtain ⟨cs,l1,a1,r1⟩:=hat i _ (List.getElem?_eq_getElem k1);obtain ⟨cs',l2,a2,r2⟩:=hat' i _ (List.getElem?_eq_getElem k2)
   have hcs:cs=cs':=by
    apply List.ext_getElem?
    intro j;by_cases hj:j<c
    . exact (a1 j hj).symm.trans (a2 j hj)
    . rw [List.getElem?_eq_none (by omega),List.getElem?_eq_none (by omega)]
   subst hcs;rw [List.getElem?_eq_getElem k1,List.getElem?_eq_getElem k2,hu cs _ _ r1 r2]
 . rw [List.getElem?_eq_none (by omega),List.getElem?_eq_none (by omega)]
theorem HCl.uniq {w:World} {S S':Nat->Prop} {R R':List Value->Ex->Prop} (hu:∀ cs x x',R cs x->R' cs x'->x=x') (cs:List Value) (c c':Cl) (h:HCl w S R cs c) (h':HCl w S' R' cs c'):c=c':=by
 obtain ⟨p,b,rfl,h1,h2⟩:=h;obtain ⟨p',b',e,h1',h2'⟩:=h';simp only [List.cons.injEq,and_true] at e;obtain ⟨rfl,rfl⟩:=e;obtain ⟨pa,ca,hp,-⟩:=id h1;obtain ⟨pb,cb,hb,-⟩:=id h2;rw [hp] at h1 h1';rw [hb] at h2 h2';exact Prod.ext (rows_uniq hu h1 h1') (rows_uniq hu h2 h2')
theorem HEx.uniq {w:World} {S S':Nat->Prop}:∀ {d d':Nat} (cs:List Value) (x x':Ex),HEx w S d cs x->HEx w S' d' cs x'->x=x'
 | 0,_,_,_,_,h,_=>h.elim
 | _+1,0,_,_,_,_,h=>h.elim
 | d+1,d'+1,cs,x,x',h,h'=>by
  obtain ⟨kv,cv,rfl,-,-,-,-,hk,hc⟩:=h;obtain ⟨kv',cv',e,-,-,-,-,hk',hc'⟩:=h';simp only [List.cons.injEq,Value.int.injEq,true_and,Value.string.injEq,and_true] at e;obtain ⟨e1,e2,e3,e4,rfl,rfl⟩:=e;obtain ⟨pa,ca,hp,-⟩:=id hk;obtain ⟨pb,cb,hb,-⟩:=id hc;rw [hp] at hk hk';rw [hb] at hc hc';rw [Ex.eq_iff];exact ⟨e1,e2,e3,e4,rows_uniq (λcs x x' h h'=>HEx.uniq cs x x' h h') hk hk',rows_uniq (λcs c c' h h'=>HCl.uniq (λcs x x' h h'=>HEx.uniq cs x x' h h') cs c c' h h') hc hc'⟩
theorem size_mem {α:Type} [SizeOf α] {l:List α} {x:α} (h:x ∈ l):SizeOf.sizeOf x<SizeOf.sizeOf l:=List.sizeOf_lt_of_mem h
theorem size_memC {l:List Cl} {x:Cl} (h:x ∈ l):SizeOf.sizeOf x<SizeOf.sizeOf l:=List.sizeOf_lt_of_mem h
theorem size_pos (l:List Ex):1<=SizeOf.sizeOf l:=by cases l <;> simp <;> omega
theorem size_kids (x:Ex):SizeOf.sizeOf x.kids<SizeOf.sizeOf x:=by
 obtain ⟨k,n,t,m,ks,cs⟩:=x;simp only [Ex.kids,Ex.mk.sizeOf_spec];omega
theorem size_clauses (x:Ex):SizeOf.sizeOf x.clauses<SizeOf.sizeOf x:=by
 obtain ⟨k,n,t,m,ks,cs⟩:=x;simp only [Ex.clauses,Ex.mk.sizeOf_spec];omega
theorem size_pats (c:Cl):SizeOf.sizeOf c.1<SizeOf.sizeOf c/\SizeOf.sizeOf c.2<SizeOf.sizeOf c:=by
 obtain ⟨a,b⟩:=c;simp only [Prod.mk.sizeOf_spec];omega
section
structure OffB (b N:Nat) (w w':World):Prop where
 os:w'.os=w.os
 tape:w'.tape=w.tape
 output:w'.output=w.output
 size:w.heap.size<=w'.heap.size
 block:∀ k,k<N->k≠b->w'.heap[k]?=w.heap[k]?
theorem OffB.refl (b N:Nat) (w:World):OffB b N w w:=⟨rfl,rfl,rfl,Nat.le_refl _,λ_ _ _=>rfl⟩
theorem OffB.trans {b N:Nat} {u v w:World} (h:OffB b N u v) (k:OffB b N v w):OffB b N u w :=
 ⟨k.os.trans h.os,k.tape.trans h.tape,k.output.trans h.output,Nat.le_trans h.size k.size,λi hi hb=>(k.block i hi hb).trans (h.block i hi hb)⟩
theorem OffB.mono {b N N':Nat} {u v:World} (h:OffB b N u v) (hN:N'<=N):OffB b N' u v:=⟨h.os,h.tape,h.output,h.size,λk hk hb=>h.block k (Nat.lt_of_lt_of_le hk hN) hb⟩
theorem OffB.of_below {b N:Nat} {u v:World} (h:Below N u v):OffB b N u v:=⟨h.os,h.tape,h.output,h.size,λk hk _=>h.block k hk⟩
theorem OffB.drew {b N:Nat} {u v:World} (h:OffB b N u v):OffB b N u v.drew:=⟨h.os,h.tape,h.output,h.size,h.block⟩
theorem OffB.setCell {b N:Nat} {u v:World} (h:OffB b N u v) {p:Addr} (hp:N<=p.block) (x:Value):OffB b N u (v.setCell p x) :=
 h.trans ⟨rfl,rfl,rfl,by simp [World.setCell],λk hk _=>Below.heap_setCell _ _ _ _ (by omega)⟩
theorem OffB.same {b N:Nat} {u v:World} (h:OffB b N u v) {S:Nat->Prop} (hS:∀ g,S g->g<N/\g≠b):SameOn S u v:=⟨h.size,λg hg _=>h.block g (hS g hg).1 (hS g hg).2⟩
theorem OffB.blk {b N g:Nat} {u v:World} {cs:Array Value} {t:TypeId} (h:OffB b N u v) (hb:Blk u g cs t) (hg:g<N) (hne:g≠b):Blk v g cs t:=(h.block g hg hne).trans hb
theorem OffB.below {b N:Nat} {u v:World} (h:OffB b N u v) {M:Nat} (hM:M<=N) (hb:M<=b):Below M u v:=⟨h.os,h.tape,h.output,h.size,λk hk=>h.block k (by omega) (by omega)⟩
structure MadeB {α:Type} (b:Nat) (w wr:World) (G n:Nat) (e:TypeId) (c:Nat) (O:World->List Value->α->List Nat->Prop) (es:List α) (k:Nat) (xs:List Value) (fps:List (List Nat)):Prop where
 own:wr.ownsRow G e c (.slice (some ⟨G,0,none⟩) n n) n xs
 len:fps.length=k
 nd:fps.flatten.Nodup
 rng:∀ a ∈ fps.flatten,G<a/\a<wr.heap.size
 el:∀ (i:Nat) x f,es[i]?=some x->fps[i]?=some f->∃ cs:List Value,cs.length=c/\(∀ j,j<c->xs[i * c+j]?=cs[j]?)/\O wr cs x f
 off:OffB b G w wr
 sz:G+1<=wr.heap.size
 lt:b<G
variable {α:Type} {b:Nat} {w wr:World} {G n c k:Nat} {e:TypeId} {O:World->List Value->α->List Nat->Prop} {es:List α} {xs:List Value} {fps:List (List Nat)}
theorem MadeB.start {M:Array Value} (hM:M.size=n * c) (hn:n<=maxLen) (hb:b<w.heap.size):MadeB b w (w.alloc (.cells M e)) w.heap.size n e c O es 0 M.toList [] :=
 ⟨World.ownsRow_lit w M n (sqR _) hn hM,rfl,by simp,λa ha=>by simp at ha,λi x f _ hf=>by simp at hf,OffB.of_below ((sqN _ _)),by rw [alloc_hs];exact Nat.le_refl _,hb⟩
theorem MadeB.step (hO:∀ w w' cs x f,O w cs x f->KeepOn f w w'->O w' cs x f) (h:MadeB b w wr G n e c O es k xs fps) {w1 w2:World} {x:α} {cs xs':List Value} {f:List Nat} (hx:es[k]?=some x) (hb:OffB b wr.heap.size wr w1) (ho:O w1 cs x f)
 (hnd:f.Nodup) (hf:∀ a ∈ f,wr.heap.size<=a/\a<w1.heap.size) (hcl:cs.length=c) (hown:w2.ownsRow G e c (.slice (some ⟨G,0,none⟩) n n) n xs') (hgr:w1.grownBy w2 (some G))
 (hlow:∀ m,m<k * c->xs'[m]?=xs[m]?) (hself:∀ j,j<c->xs'[k * c+j]?=cs[j]?):MadeB b w w2 G n e c O es (k+1) xs' (fps ++ [f]):=by
 have h1:=h.sz;have h2:=hb.size;have h3:=hgr.size;have h4:=h.lt;refine ⟨hown,by rw [List.length_append,h.len];rfl,?_,?_,?_,?_,by omega,h4⟩
 . rw [List.flatten_append,List.nodup_append]
   refine ⟨h.nd,by simpa using hnd,λa ha b hb'=>?_⟩;have:=(h.rng a ha).2;have:=(hf b (by simpa using hb')).1;omega
 . intro a ha
   rw [List.flatten_append,List.mem_append] at ha
   rcases ha with ha | ha
   . have:=h.rng a ha;omega
   . have:=hf a (by simpa using ha);omega
 . intro i y f' hy hf'
   by_cases hik:i<k
   . rw [List.getElem?_append_left (by rw [h.len];exact hik)] at hf'
     obtain ⟨cs',g1,g2,g3⟩:=h.el i y f' hy hf';refine ⟨cs',g1,λj hj=>?_,hO _ _ _ _ _ g3 (λa ha=>?_)⟩
     . rw [hlow]
       . exact g2 j hj
       . have:i * c+c<=k * c:=by rw [<-Nat.succ_mul];exact Nat.mul_le_mul_right c hik
         omega
     . have hr:=h.rng a (List.mem_flatten.2 ⟨f',List.mem_of_getElem? hf',ha⟩)
       exact (hgr.block a (by omega) (by simp;omega)).trans (hb.block a hr.2 (by omega))
   . have hil:i<k+1:=by
      have:=(List.getElem?_eq_some_iff.1 hf').1;rw [List.length_append,h.len] at this;simpa using this
     obtain rfl:i=k:=(by omega);obtain rfl:x=y:=Option.some.inj (hx.symm.trans hy);rw [List.getElem?_append_right (by rw [h.len];exact Nat.le_refl _),h.len,Nat.sub_self] at hf';simp at hf';subst hf';exact ⟨cs,hcl,hself,hO _ _ _ _ _ ho (λa ha=>by have:=hf a ha;exact hgr.block a (by omega) (by simp;omega))⟩
 . exact h.off.trans ((hb.mono (by omega)).trans ⟨hgr.os,hgr.tape,hgr.output,hgr.size,λj hj _=>hgr.block j (by omega) (by simp;omega)⟩)
theorem MadeB.done (h:MadeB b w wr G n e c O es n xs fps) (hn:es.length=n) (hm:n<=maxLen):∃ fp,ORows wr e c (O wr) (.slice (some ⟨G,0,none⟩) n n) es fp/\fp.Nodup/\∀ a ∈ fp,G<=a/\a<wr.heap.size:=by
 by_cases hne:es = []
 . subst hne
   exact ⟨[],.inl ⟨rfl,rfl,_,_,by rw [<-hn];rfl,hm⟩,by simp,λa ha=>by simp at ha⟩
 . refine ⟨G :: fps.flatten,.inr ⟨hne,xs,G,n,fps,?_,by rw [hn],by rw [h.len,hn],rfl,h.el⟩,?_,?_⟩
   . rw [hn]
     obtain ⟨h1,h2⟩:=h.own;refine ⟨h1,h2.imp id ?_⟩;rintro ⟨g,cap,cur,a1,a2,a3⟩;exact ⟨g,cap,cur,a1,Nat.zero_le _,a3⟩
   . rw [List.nodup_cons]
     exact ⟨λhm=>by have:=(h.rng G hm).1;omega,h.nd⟩
   . intro a ha
     have:=h.sz
     rcases List.mem_cons.1 ha with rfl | ha
     . omega
     . have:=h.rng a ha;omega
end
def OCl (w:World) (O:List Value->Ex->List Nat->Prop) (cs:List Value) (c:Cl) (fp:List Nat):Prop :=
 ∃ pv bv f1 f2,cs = [pv,bv]/\fp=f1 ++ f2/\ORows w 74 6 O pv c.1 f1/\ORows w 74 6 O bv c.2 f2
def OEx (w:World):Nat->List Value->Ex->List Nat->Prop
 | 0,_,_,_=>False
 | d+1,cs,e,fp=>∃ kv cv f1 f2,cs = [.int .i64 e.kind,.int .i64 e.n,.string e.text,.string e.mod,kv,cv]/\fp=f1 ++ f2/\okI e.kind/\okI e.n/\okS e.text/\okS e.mod /\
  ORows w 74 6 (OEx w d) kv e.kids f1/\ORows w 44 2 (OCl w (OEx w d)) cv e.clauses f2
abbrev OCls (w:World) (d:Nat):List Value->Cl->List Nat->Prop:=OCl w (OEx w d)
theorem OCl.keep' {w w':World} {O O':List Value->Ex->List Nat->Prop} {cs:List Value} {c:Cl} {fp:List Nat} (h:OCl w O cs c fp) (hk:KeepOn fp w w') (hO:∀ cs x f,(∀ a ∈ f,a ∈ fp)->O cs x f->O' cs x f):OCl w' O' cs c fp:=by
 obtain ⟨pv,bv,f1,f2,rfl,rfl,h1,h2⟩:=h;refine ⟨pv,bv,f1,f2,rfl,rfl,h1.keep (hk.sub (λa ha=>by simp [ha])) (λcs x f _ hs=>hO cs x f (λa ha=>by simp [hs a ha])),h2.keep (hk.sub (λa ha=>by simp [ha])) (λcs x f _ hs=>hO cs x f (λa ha=>by simp [hs a ha]))⟩
theorem OEx.keep {w w':World}:∀ {d:Nat} {cs:List Value} {e:Ex} {fp:List Nat},OEx w d cs e fp->KeepOn fp w w'->OEx w' d cs e fp
 | 0,_,_,_,h,_=>h.elim
 | d+1,cs,e,fp,h,hk=>by
  obtain ⟨kv,cv,f1,f2,rfl,rfl,h1,h2,h3,h4,hr,hc⟩:=h;refine ⟨kv,cv,f1,f2,rfl,rfl,h1,h2,h3,h4,hr.keep (hk.sub (λa ha=>by simp [ha])) (λcs x f _ hs h=>h.keep (hk.sub (λa ha=>by simp [hs a ha]))),hc.keep (hk.sub (λa ha=>by simp [ha])) (λcs x f _ hs h=>?_)⟩;exact h.keep' (hk.sub (λa ha=>by simp [hs a ha])) (λcs x g hg h=>h.keep (hk.sub (λa ha=>by simp [hs a (hg a ha)])))
theorem OCls.keep {w w':World} {d:Nat} {cs:List Value} {c:Cl} {fp:List Nat} (h:OCl w (OEx w d) cs c fp) (hk:KeepOn fp w w'):OCl w' (OEx w' d) cs c fp :=
 h.keep' hk (λcs x g hg h=>h.keep (hk.sub hg))
theorem OCl.tree' {w:World} {S:Nat->Prop} {O:List Value->Ex->List Nat->Prop} {R:List Value->Ex->Prop} {cs:List Value} {c:Cl} {fp:List Nat} (h:OCl w O cs c fp) (hS:∀ a ∈ fp,S a) (hO:∀ cs x f,(∀ a ∈ f,a ∈ fp)->O cs x f->R cs x):HCl w S R cs c:=by
 obtain ⟨pv,bv,f1,f2,rfl,rfl,h1,h2⟩:=h;exact ⟨pv,bv,rfl,h1.rows (λa ha=>hS a (by simp [ha])) (λcs x f _ hs=>hO cs x f (λa ha=>by simp [hs a ha])),h2.rows (λa ha=>hS a (by simp [ha])) (λcs x f _ hs=>hO cs x f (λa ha=>by simp [hs a ha]))⟩
theorem OEx.tree {w:World} {S:Nat->Prop}:∀ {d:Nat} {cs:List Value} {e:Ex} {fp:List Nat},OEx w d cs e fp->(∀ a ∈ fp,S a)->HEx w S d cs e
 | 0,_,_,_,h,_=>h.elim
 | d+1,cs,e,fp,h,hS=>by
  obtain ⟨kv,cv,f1,f2,rfl,rfl,h1,h2,h3,h4,hr,hc⟩:=h;refine ⟨kv,cv,rfl,h1,h2,h3,h4,hr.rows (λa ha=>hS a (by simp [ha])) (λcs x f _ hs h=>h.tree (λa ha=>hS a (by simp [hs a ha]))),hc.rows (λa ha=>hS a (by simp [ha])) (λcs x f _ hs h=>?_)⟩;exact h.tree' (λa ha=>hS a (by simp [hs a ha])) (λcs x g hg h=>h.tree (λa ha=>hS a (by simp [hs a (hg a ha)])))
theorem OCls.tree {w:World} {S:Nat->Prop} {d:Nat} {cs:List Value} {c:Cl} {fp:List Nat} (h:OCl w (OEx w d) cs c fp) (hS:∀ a ∈ fp,S a):HCl w S (HEx w S d) cs c :=
 h.tree' hS (λcs x g hg h=>h.tree (λa ha=>hS a (hg a ha)))
theorem OCl.lt' {w:World} {O:List Value->Ex->List Nat->Prop} {cs:List Value} {c:Cl} {fp:List Nat} (h:OCl w O cs c fp) (hO:∀ cs x f,O cs x f->∀ a ∈ f,a<w.heap.size):∀ a ∈ fp,a<w.heap.size:=by
 obtain ⟨pv,bv,f1,f2,rfl,rfl,h1,h2⟩:=h;intro a ha
 rcases List.mem_append.1 ha with ha | ha
 . exact h1.lt hO a ha
 . exact h2.lt hO a ha
theorem OEx.lt {w:World}:∀ {d:Nat} {cs:List Value} {e:Ex} {fp:List Nat},OEx w d cs e fp->∀ a ∈ fp,a<w.heap.size
 | 0,_,_,_,h=>h.elim
 | d+1,cs,e,fp,h=>by
  obtain ⟨kv,cv,f1,f2,rfl,rfl,h1,h2,h3,h4,hr,hc⟩:=h;intro a ha
  rcases List.mem_append.1 ha with ha | ha
  . exact hr.lt (λcs x f h=>h.lt) a ha
  . exact hc.lt (λcs x f h=>h.lt' (λcs x f h=>h.lt)) a ha
theorem OEx.shape {w:World} {d:Nat} {cs:List Value} {x:Ex} {fp:List Nat} (h:OEx w d cs x fp):∃ sk sn st se p1 n1 q1 p2 n2 q2,cs = [.int .i64 sk,.int .i64 sn,.string st,.string se,.slice p1 n1 q1,.slice p2 n2 q2]:=by
 cases d with
 | zero=>exact h.elim
 | succ d =>
  obtain ⟨kv,cv,f1,f2,rfl,rfl,_,_,_,_,hr,hc⟩:=h;obtain ⟨p1,c1,rfl,_⟩:=hr.shape;obtain ⟨p2,c2,rfl,_⟩:=hc.shape;exact ⟨_,_,_,_,_,_,_,_,_,_,rfl⟩
theorem OCl.shape {w:World} {O:List Value->Ex->List Nat->Prop} {cs:List Value} {x:Cl} {fp:List Nat} (h:OCl w O cs x fp):∃ p1 n1 q1 p2 n2 q2,cs = [.slice p1 n1 q1,.slice p2 n2 q2]:=by
 obtain ⟨pv,bv,f1,f2,rfl,rfl,h1,h2⟩:=h;obtain ⟨p1,c1,rfl,_⟩:=h1.shape;obtain ⟨p2,c2,rfl,_⟩:=h2.shape;exact ⟨_,_,_,_,_,_,rfl⟩
def ORf (_:World) (_:Nat) (cs:List Value) (r:Rf) (fp:List Nat):Prop:=HRf cs r/\fp = []
def OFn (w:World) (d:Nat) (cs:List Value) (f:Fn') (fp:List Nat):Prop :=
 ∃ cv,cs = [.string f.name,.int .i64 f.arity,cv]/\okS f.name/\okI f.arity/\ORows w 44 2 (OCl w (OEx w d)) cv f.clauses fp
def OMd (w:World) (d:Nat) (cs:List Value) (m:Md) (fp:List Nat):Prop :=
 ∃ ev fv f1 f2,cs = [.string m.name,ev,fv]/\fp=f1 ++ f2/\okS m.name/\ORows w 110 2 (ORf w d) ev m.exports f1/\ORows w 57 3 (OFn w d) fv m.funs f2
theorem ORf.lt {w:World} {d:Nat} {cs:List Value} {r:Rf} {fp:List Nat} (h:ORf w d cs r fp):∀ a ∈ fp,a<w.heap.size:=by rw [h.2];simp
theorem ORf.shape {w:World} {d:Nat} {cs:List Value} {x:Rf} {fp:List Nat} (h:ORf w d cs x fp):∃ st sk,cs = [.string st,.int .i64 sk]:=by
 obtain ⟨⟨rfl,_⟩,_⟩:=h;exact ⟨_,_,rfl⟩
theorem OFn.keep {w w':World} {d:Nat} {cs:List Value} {f:Fn'} {fp:List Nat} (h:OFn w d cs f fp) (hk:KeepOn fp w w'):OFn w' d cs f fp:=by
 obtain ⟨cv,rfl,h1,h2,h3⟩:=h;exact ⟨cv,rfl,h1,h2,h3.keep hk (λcs x f _ hs h=>OCls.keep h (hk.sub hs))⟩
theorem OFn.tree {w:World} {S:Nat->Prop} {d:Nat} {cs:List Value} {f:Fn'} {fp:List Nat} (h:OFn w d cs f fp) (hS:∀ a ∈ fp,S a):HFn w S d cs f:=by
 obtain ⟨cv,rfl,h1,h2,h3⟩:=h;exact ⟨cv,rfl,h1,h2,h3.rows hS (λcs x f _ hs h=>OCls.tree h (λa ha=>hS a (hs a ha)))⟩
theorem OFn.lt {w:World} {d:Nat} {cs:List Value} {f:Fn'} {fp:List Nat} (h:OFn w d cs f fp):∀ a ∈ fp,a<w.heap.size:=by
 obtain ⟨cv,rfl,h1,h2,h3⟩:=h;exact h3.lt (λcs x f h=>h.lt' (λcs x f h=>h.lt))
theorem OFn.shape {w:World} {d:Nat} {cs:List Value} {x:Fn'} {fp:List Nat} (h:OFn w d cs x fp):∃ st sk p1 n1 q1,cs = [.string st,.int .i64 sk,.slice p1 n1 q1]:=by
 obtain ⟨cv,rfl,h1,h2,h3⟩:=h;obtain ⟨p1,c1,rfl,_⟩:=h3.shape;exact ⟨_,_,_,_,_,rfl⟩
theorem OMd.keep {w w':World} {d:Nat} {cs:List Value} {m:Md} {fp:List Nat} (h:OMd w d cs m fp) (hk:KeepOn fp w w'):OMd w' d cs m fp:=by
 obtain ⟨ev,fv,f1,f2,rfl,rfl,h1,h2,h3⟩:=h;exact ⟨ev,fv,f1,f2,rfl,rfl,h1,h2.keep (hk.sub (λa ha=>by simp [ha])) (λcs x f _ hs h=>h),h3.keep (hk.sub (λa ha=>by simp [ha])) (λcs x f _ hs h=>h.keep (hk.sub (λa ha=>by simp [hs a ha])))⟩
theorem OMd.tree {w:World} {S:Nat->Prop} {d:Nat} {cs:List Value} {m:Md} {fp:List Nat} (h:OMd w d cs m fp) (hS:∀ a ∈ fp,S a):HMd w S d cs m:=by
 obtain ⟨ev,fv,f1,f2,rfl,rfl,h1,h2,h3⟩:=h;exact ⟨ev,fv,rfl,h1,h2.rows (λa ha=>hS a (by simp [ha])) (λcs x f _ hs h=>h.1),h3.rows (λa ha=>hS a (by simp [ha])) (λcs x f _ hs h=>h.tree (λa ha=>hS a (by simp [hs a ha])))⟩
theorem OMd.lt {w:World} {d:Nat} {cs:List Value} {m:Md} {fp:List Nat} (h:OMd w d cs m fp):∀ a ∈ fp,a<w.heap.size:=by
 obtain ⟨ev,fv,f1,f2,rfl,rfl,h1,h2,h3⟩:=h;intro a ha
 rcases List.mem_append.1 ha with ha | ha
 . exact h2.lt (λcs x f h=>h.lt) a ha
 . exact h3.lt (λcs x f h=>h.lt) a ha
theorem OMd.shape {w:World} {d:Nat} {cs:List Value} {x:Md} {fp:List Nat} (h:OMd w d cs x fp):∃ st p1 n1 q1 p2 n2 q2,cs = [.string st,.slice p1 n1 q1,.slice p2 n2 q2]:=by
 obtain ⟨ev,fv,f1,f2,rfl,rfl,h1,h2,h3⟩:=h;obtain ⟨p1,c1,rfl,_⟩:=h2.shape;obtain ⟨p2,c2,rfl,_⟩:=h3.shape;exact ⟨_,_,_,_,_,_,_,rfl⟩
theorem enters {f:FuncId} {fn:Func} {c:Code} (hf:Tryz.prog.funcs[f]?=some fn) (hn:(fn.name == "runtime.NumGoroutine")=false) (hb:fn.body=some c) (args:Array Value) (w:World) :
 Sem.run Tryz.prog (callFunc f args) w=.ok (.enter f args) w:=by
 have h:¬ fn.name = "runtime.NumGoroutine" := by simpa using hn
 simp [callFunc,hf,h,hb]
section
open Go.Proofs.Tryz
structure Pl where
 mod:ByteArray
 name:ByteArray
 arity:Int
 clause:Int
def wtPl (q:Pl):Nat:=q.mod.size+q.name.size
theorem szPlace_any (w:World) (q:Pl) (r:Nat) (hr:r<=16777216) (h0:okS q.mod) (h1:okS q.name) :
 Calls prog 5 #[.agg #[.string q.mod,.string q.name,.int .i64 q.arity,.int .i64 q.clause],.int .i64 r] w λe w'=>e=.returned (.int .i64 (leftOf r (wtPl q)))/\Bz w w':=by
 obtain ⟨m,s,n,c⟩:=q;simp only [okS,maxLen] at h0 h1;have HW:Hid (wtPl ⟨m,s,n,c⟩=m.size+s.size):=rfl;generalize wtPl ⟨m,s,n,c⟩=W at *;have BL:Hid (∀ (cs:Array Value) (t:TypeId),Bz w (w.alloc (.cells cs t))):=λcs t=>(sqN _ _);by_cases t0:r<m.size
 . have HR:Hid (leftOf r W = -1):=leftOf_lt (by rw [HW.out];omega)
   go_enter func5,ntmps5;go_wp2;go_ret;exact ⟨by rw [HR.out];rfl,BL.out _ _⟩
 . by_cases t1:r<m.size+s.size
   . have HR:Hid (leftOf r W = -1):=leftOf_lt (by rw [HW.out];omega)
     go_enter func5,ntmps5;go_wp2;go_ret;exact ⟨by rw [HR.out];rfl,BL.out _ _⟩
   . have HR:Hid (leftOf r W=r - m.size - s.size):=by
      show leftOf r W=_;rw [leftOf_ge (by rw [HW.out];omega),HW.out];omega
     go_enter func5,ntmps5;go_wp2;go_ret;exact ⟨by rw [HR.out];rfl,BL.out _ _⟩
theorem toPlace_any (w:World) (q:Pl) :
 Calls prog 8 #[.agg #[.string q.mod,.string q.name,.int .i64 q.arity,.int .i64 q.clause]] w λe w'=>e=.returned (.agg #[.string q.mod,.string q.name,.int .i64 q.arity,.int .i64 q.clause])/\Bz w w':=by
 obtain ⟨m,s,n,c⟩:=q;have BL:Hid (∀ (cs cs':Array Value) (t t':TypeId),Bz w ((w.alloc (.cells cs t)).alloc (.cells cs' t'))):=λcs cs' t t'=>((sqN _ _)).alloc (by simp) _
 have RB:Hid (∀ (cs cs':Array Value) (t t':TypeId),Blk (((w.alloc (.cells cs t)).alloc (.cells #[.string m,.string s,.int .i64 n,.int .i64 c] 31)).alloc (.cells cs' t')) (w.heap.size+1) #[.string m,.string s,.int .i64 n,.int .i64 c] 31):=λcs cs' t t'=>by
  have:=Blk.new (w:=w.alloc (.cells cs t)) (cs:=#[.string m,.string s,.int .i64 n,.int .i64 c]) (t:=31);rw [alloc_hs] at this;exact this.alloc
 have BL3:Hid (∀ (cs cs' cs'':Array Value) (t t' t'':TypeId),Bz w (((w.alloc (.cells cs t)).alloc (.cells cs' t')).alloc (.cells cs'' t''))):=λcs cs' cs'' t t' t''=>(((sqN _ _)).alloc (by simp only [alloc_hs];omega) _).alloc (by simp only [alloc_hs];omega) _;go_enter func8,ntmps8;go_wp2_with fail;have q:=RB.out #[.string m,.string s,.int .i64 n,.int .i64 c] #[.string m,.string s,.int .i64 n,.int .i64 c] 24 31;obtain ⟨q0,q1,q2,q3⟩:=sqB4 q;exact bodyPost_ret (v:=.agg #[.string m,.string s,.int .i64 n,.int .i64 c]) (by simp [results,results8,go_sem,q0,q1,q2,q3]) rfl ⟨rfl,BL3.out _ _ _ _ _ _⟩
end
structure Pb where
 mod:ByteArray
 name:ByteArray
 arity:Int
 code:ByteArray
def HPb (cs:List Value) (q:Pb):Prop:=cs = [.string q.mod,.string q.name,.int .i64 q.arity,.string q.code]/\okS q.mod/\okS q.name/\okI q.arity/\okS q.code
theorem pb_oneCell (cs:List Value) (q:Pb) (h:HPb cs q):∀ u ∈ cs,u.oneCell'=true:=by
 obtain ⟨rfl,-⟩:=h;intro u hu;simp only [List.mem_cons,List.not_mem_nil,or_false] at hu
 rcases hu with rfl | rfl | rfl | rfl <;> rfl
theorem HFn.deeper {w:World} {S:Nat->Prop} {d d':Nat} (hd:d<=d') {cs:List Value} {f:Fn'} (h:HFn w S d cs f):HFn w S d' cs f:=by
 have hs:SameOn S w w:=sqS;obtain ⟨cv,rfl,h1,h2,hc⟩:=h;exact ⟨cv,rfl,h1,h2,hc.mono hs sqj (λ_ _ _ h=>h.mono hs sqj (λ_ _=>HEx.deeper hd))⟩
theorem HMd.deeper {w:World} {S:Nat->Prop} {d d':Nat} (hd:d<=d') {cs:List Value} {m:Md} (h:HMd w S d cs m):HMd w S d' cs m:=by
 have hs:SameOn S w w:=sqS;obtain ⟨ev,fv,rfl,h1,he,hf⟩:=h;exact ⟨ev,fv,rfl,h1,he.mono hs sqj (λ_ _ _ h=>h),hf.mono hs sqj (λ_ _ _ h=>h.deeper hd)⟩
theorem HMd.shape {w:World} {S:Nat->Prop} {d:Nat} {cs:List Value} {m:Md} (h:HMd w S d cs m):∃ s p1 n1 q1 p2 n2 q2,cs = [.string s,.slice p1 n1 q1,.slice p2 n2 q2]:=by
 obtain ⟨ev,fv,rfl,_,⟨p1,c1,rfl,_⟩,⟨p2,c2,rfl,_⟩⟩:=h;exact ⟨_,_,_,_,_,_,_,rfl⟩
end Go.Proofs.YtbdhpganbbandaaGreatDoor
