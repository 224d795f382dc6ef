/-
  Gen Sq Own OwnSet OwnSet2 MadeOff Wt RemMath ExOwn ModOwn Pl
-/
import Derived.Test.YtdhlonogmnkemaaGreatDoorP02
import Derived.Deep.RegionHeld3
import Derived.WalkSmall
import Derived.Deep.DeepMust
set_option maxHeartbeats 16000000
set_option linter.unusedVariables false
set_option maxRecDepth 100000
namespace Go.Proofs.YtdhlonogmnkemaaGreatDoor
open Go.ChangeShapes Go.WideShapes Go.ChangeAt Go.RowKit
def wtS {α:Type} (f:α→Nat) (xs:List α):Nat:=xs.length+(xs.map f).sum
def leftOf (left wt:Nat):Int:=if left<wt then -1 else ((left - wt:Nat):Int)
theorem Zo {left wt:Nat} (h:left<wt):leftOf left wt = -1:=if_pos h
theorem Zz {left wt:Nat} (h:wt≤left):leftOf left wt=((left - wt:Nat):Int):=if_neg (by omega)
theorem Ze {α:Type} (f:α→Nat) (xs:List α) (k:Nat) (x:α) (h:xs[k]?=some x):((xs.take (k+1)).map f).sum=((xs.take k).map f).sum+f x:=by
  rw [List.take_add_one,h];simp
theorem Zf {α:Type} (f:α→Nat) (xs:List α) (k:Nat):((xs.take k).map f).sum≤(xs.map f).sum:=by
  conv=>rhs;rw [← List.take_append_drop k xs]
  rw [List.map_append,List.sum_append];omega
def SzC {α:Type} (F:FuncId) (H:World→Value→α→Prop) (wt:α→Nat):Prop :=
  ∀ (w:World) (v:Value) (x:α) (left:Nat),H w v x→left≤16777216→Calls Tryz.prog F #[v,.int .i64 left] w fun e w'=>e=.returned (.int .i64 (leftOf left (wt x)))∧Below w.heap.size w w'
theorem SzC.at {α:Type} {F:FuncId} {H:World→Value→α→Prop} {wt:α→Nat} (h:SzC F H wt) {w:World} {v:Value} (x:α) (l:Int) (left:Nat) (hl:l=left) (hx:H w v x) (hb:left≤16777216) :
    Calls Tryz.prog F #[v,.int .i64 l] w fun e w'=>e=.returned (.int .i64 (leftOf left (wt x)))∧Below w.heap.size w w':=by
  subst hl;exact h w v x left hx hb
def EqC {α:Type} (F:FuncId) (H:World→Value→α→Prop):Prop :=
  ∀ (w:World) (v1 v2:Value) (x:α),H w v1 x→H w v2 x→Calls Tryz.prog F #[v1,v2] w fun e w'=>e=.returned (.bool true)∧Below w.heap.size w w'
theorem ZW {a b c:World} {r:Option Nat} (h:a.grownBy b r) (k:b.grownBy c r):a.grownBy c r :=
  ⟨k.os.trans h.os,k.tape.trans h.tape,k.output.trans h.output,Nat.le_trans h.size k.size,fun j hj hr=>(k.block j (Nat.lt_of_lt_of_le hj h.size) hr).trans (h.block j hj hr)⟩
theorem ZQ {a b:World} {r:Option Nat} (h:Below a.heap.size a b):a.grownBy b r:=⟨h.os,h.tape,h.output,h.size,fun j hj _=>h.block j hj⟩
theorem Zl {w:World} {B g n cap c:Nat} {e:TypeId} {xs:List Value} (h:w.ownsRow B e c (.slice (some ⟨g,0,none⟩) n cap) n xs) (j:Nat) (hj:j<n * c):∃ u,w.cell? ⟨g,j,none⟩=some u :=
  ⟨_,(h.cellAt j hj).trans (List.getElem?_eq_getElem (by rw [h.1];exact hj))⟩
theorem Za0 {t e:TypeId} {c:Nat} (ht:Tryz.prog.underlying t=some (.slice e)) (hi:((Tryz.prog.info? e).any fun i=>i.zero.isSome && (i.size == c && decide (i.bytes≤1000)))=true) (w:World) (n:Nat) (hn:n≤16777216) :
    ∃ M:Array Value,M.size=n * c∧(Instr.makeSlice t (.int .i64 n) (.int .i64 n)).run Tryz.prog w=.ok (.slice (some ⟨w.heap.size,0,none⟩) n n) (w.alloc (.cells M e)):=by
  cases h:Tryz.prog.info? e with
  | none=>rw [h] at hi;cases hi
  | some i =>
    rw [h] at hi;simp only [Option.any_some,Bool.and_eq_true,beq_iff_eq,decide_eq_true_eq] at hi;obtain ⟨hz,hs,hb⟩:=hi;obtain ⟨z,hz⟩:=Option.isSome_iff_exists.1 hz
    have:=run_make (P:=Tryz.prog) w t e i z ht h hz .i64 .i64 n n (by omega) (Int.le_refl _) (by
      have h1:i.bytes * n≤1000 * 16777216:=Nat.mul_le_mul hb hn;have h2:((i.bytes * n:Nat):Int)≤((1000 * 16777216:Nat):Int):=(by exact_mod_cast h1);rw [Int.natCast_mul] at h2
      omega) (by omega)
    exact ⟨_,by rw [size_madeCells,hs];simp,this⟩
def Blk (w:World) (b:Nat) (cs:Array Value) (t:TypeId):Prop:=w.heap[b]?=some (.cells cs t)
theorem Blk.cell {w:World} {b:Nat} {cs:Array Value} {t:TypeId} (h:Blk w b cs t) (j:Nat) (v:Value) (hv:cs[j]?=some v):w.cell? ⟨b,j,none⟩=some v:=by
  unfold Blk at h;unfold World.cell?;rw [h];simpa using hv
theorem Blk.frozen {w:World} {b:Nat} {cs:Array Value} {t:TypeId} (h:Blk w b cs t) (j:Nat):w.frozen? ⟨b,j,none⟩=false:=by
  unfold Blk at h;unfold World.frozen?;rw [h];simp
theorem Blk.below {w w':World} {N b:Nat} {cs:Array Value} {t:TypeId} (h:Blk w b cs t) (hb:Below N w w') (hN:b<N):Blk w' b cs t:=(hb.block b hN).trans h
theorem Blk.new {w:World} {cs:Array Value} {t:TypeId}:Blk (w.alloc (.cells cs t)) w.heap.size cs t:=by
  show (w.heap.push _)[w.heap.size]?=_;simp
theorem Blk.alloc {w:World} {b:Nat} {cs:Array Value} {t:TypeId} {o:Obj} (h:Blk w b cs t):Blk (w.alloc o) b cs t :=
  (Below.heap_alloc _ _ _ (by unfold Blk at h;exact (Array.getElem?_eq_some_iff.1 h).1)).trans h
theorem Blk.same {w:World} {b j:Nat} {cs cs':Array Value} {t:TypeId} {v:Value} (h:Blk w b cs t) (hc:cs.setIfInBounds j v=cs'):Blk (w.setCell ⟨b,j,none⟩ v) b cs' t:=by
  subst hc;exact heap_setCell_same w b j cs t v h
theorem Blk.other {w:World} {b:Nat} {p:Addr} {cs:Array Value} {t:TypeId} {v:Value} (h:Blk w b cs t) (hp:b≠p.block):Blk (w.setCell p v) b cs t:=(Below.heap_setCell _ _ _ _ hp).trans h
theorem Za.setCell {S:Nat→Prop} {a b:World} (h:Za S a b) {p:Addr} (hp:¬ S p.block) (v:Value):Za S a (b.setCell p v) :=
  ⟨by simpa [World.setCell] using h.1,fun g hg hl=>(Below.heap_setCell _ _ _ _ (by intro e;exact hp (e ▸ hg))).trans (h.2 g hg hl)⟩
theorem ZL (w:World) (p:Addr) (v:Value):(w.setCell p v).heap.size=w.heap.size:=by simp [World.setCell]
theorem ZbK {xs:List Value} {d0 d1:Value} {m o:Nat} (h:m<o):((xs.set o d0).set (o+1) d1)[m]?=xs[m]?:=by
  rw [List.getElem?_set_ne (by omega),List.getElem?_set_ne (by omega)]
theorem Zcj {xs:List Value} {d0 d1:Value} {o:Nat} (h:o+1<xs.length) (j:Nat) (hj:j<2):((xs.set o d0).set (o+1) d1)[o+j]? = [d0,d1][j]?:=by
  match j,hj with
  | 0,_=>rw [List.getElem?_set_ne (by omega)];exact List.getElem?_set_self (by omega)
  | 1,_=>rw [List.getElem?_set_self (by simp only [List.length_set];omega)];rfl
theorem Zeo {w:World} {B g n cap:Nat} {e:TypeId} {xs:List Value} (h:w.ownsRow B e 2 (.slice (some ⟨g,0,none⟩) n cap) n xs) (o:Nat) (d0 d1:Value) :
    ((w.setCell ⟨g,o,none⟩ d0).setCell ⟨g,o+1,none⟩ d1).ownsRow B e 2 (.slice (some ⟨g,0,none⟩) n cap) n ((xs.set o d0).set (o+1) d1)∧w.grownBy ((w.setCell ⟨g,o,none⟩ d0).setCell ⟨g,o+1,none⟩ d1) (some g):=by
  have s0:=h.stored o d0;have s1:=s0.1.stored (o+1) d1;exact ⟨s1.1,ZW s0.2 (s1.2)⟩
theorem Zbe {xs:List Value} {d0 d1 d2:Value} {m o:Nat} (h:m<o):(((xs.set o d0).set (o+1) d1).set (o+2) d2)[m]?=xs[m]?:=by
  rw [List.getElem?_set_ne (by omega),List.getElem?_set_ne (by omega),List.getElem?_set_ne (by omega)]
theorem ZbL {xs:List Value} {d0 d1 d2:Value} {o:Nat} (h:o+2<xs.length) (j:Nat) (hj:j<3):(((xs.set o d0).set (o+1) d1).set (o+2) d2)[o+j]? = [d0,d1,d2][j]?:=by
  match j,hj with
  | 0,_=>rw [List.getElem?_set_ne (by omega),List.getElem?_set_ne (by omega)];exact List.getElem?_set_self (by omega)
  | 1,_=>rw [List.getElem?_set_ne (by omega),List.getElem?_set_self (by simp only [List.length_set];omega)];rfl
  | 2,_=>rw [List.getElem?_set_self (by simp only [List.length_set];omega)];rfl
theorem Zdx {w:World} {B g n cap:Nat} {e:TypeId} {xs:List Value} (h:w.ownsRow B e 3 (.slice (some ⟨g,0,none⟩) n cap) n xs) (o:Nat) (d0 d1 d2:Value) :
    (((w.setCell ⟨g,o,none⟩ d0).setCell ⟨g,o+1,none⟩ d1).setCell ⟨g,o+2,none⟩ d2).ownsRow B e 3 (.slice (some ⟨g,0,none⟩) n cap) n (((xs.set o d0).set (o+1) d1).set (o+2) d2)∧w.grownBy (((w.setCell ⟨g,o,none⟩ d0).setCell ⟨g,o+1,none⟩ d1).setCell ⟨g,o+2,none⟩ d2) (some g):=by
  have s0:=h.stored o d0;have s1:=s0.1.stored (o+1) d1;have s2:=s1.1.stored (o+2) d2;exact ⟨s2.1,ZW s0.2 (ZW s1.2 (s2.2))⟩
theorem Ze3 {xs:List Value} {d0 d1 d2 d3 d4 d5:Value} {m o:Nat} (h:m<o):((((((xs.set o d0).set (o+1) d1).set (o+2) d2).set (o+3) d3).set (o+4) d4).set (o+5) d5)[m]?=xs[m]?:=by
  rw [List.getElem?_set_ne (by omega),List.getElem?_set_ne (by omega),List.getElem?_set_ne (by omega),List.getElem?_set_ne (by omega),List.getElem?_set_ne (by omega),List.getElem?_set_ne (by omega)]
theorem Zgi {xs:List Value} {d0 d1 d2 d3 d4 d5:Value} {o:Nat} (h:o+5<xs.length) (j:Nat) (hj:j<6):((((((xs.set o d0).set (o+1) d1).set (o+2) d2).set (o+3) d3).set (o+4) d4).set (o+5) d5)[o+j]? = [d0,d1,d2,d3,d4,d5][j]?:=by
  match j,hj with
  | 0,_=>rw [List.getElem?_set_ne (by omega),List.getElem?_set_ne (by omega),List.getElem?_set_ne (by omega),List.getElem?_set_ne (by omega),List.getElem?_set_ne (by omega)];exact List.getElem?_set_self (by omega)
  | 1,_=>rw [List.getElem?_set_ne (by omega),List.getElem?_set_ne (by omega),List.getElem?_set_ne (by omega),List.getElem?_set_ne (by omega),List.getElem?_set_self (by simp only [List.length_set];omega)];rfl
  | 2,_=>rw [List.getElem?_set_ne (by omega),List.getElem?_set_ne (by omega),List.getElem?_set_ne (by omega),List.getElem?_set_self (by simp only [List.length_set];omega)];rfl
  | 3,_=>rw [List.getElem?_set_ne (by omega),List.getElem?_set_ne (by omega),List.getElem?_set_self (by simp only [List.length_set];omega)];rfl
  | 4,_=>rw [List.getElem?_set_ne (by omega),List.getElem?_set_self (by simp only [List.length_set];omega)];rfl
  | 5,_=>rw [List.getElem?_set_self (by simp only [List.length_set];omega)];rfl
theorem Zi4 {w:World} {B g n cap:Nat} {e:TypeId} {xs:List Value} (h:w.ownsRow B e 6 (.slice (some ⟨g,0,none⟩) n cap) n xs) (o:Nat) (d0 d1 d2 d3 d4 d5:Value) :
    ((((((w.setCell ⟨g,o,none⟩ d0).setCell ⟨g,o+1,none⟩ d1).setCell ⟨g,o+2,none⟩ d2).setCell ⟨g,o+3,none⟩ d3).setCell ⟨g,o+4,none⟩ d4).setCell ⟨g,o+5,none⟩ d5).ownsRow B e 6 (.slice (some ⟨g,0,none⟩) n cap) n ((((((xs.set o d0).set (o+1) d1).set (o+2) d2).set (o+3) d3).set (o+4) d4).set (o+5) d5)∧w.grownBy ((((((w.setCell ⟨g,o,none⟩ d0).setCell ⟨g,o+1,none⟩ d1).setCell ⟨g,o+2,none⟩ d2).setCell ⟨g,o+3,none⟩ d3).setCell ⟨g,o+4,none⟩ d4).setCell ⟨g,o+5,none⟩ d5) (some g):=by
  have s0:=h.stored o d0;have s1:=s0.1.stored (o+1) d1;have s2:=s1.1.stored (o+2) d2;have s3:=s2.1.stored (o+3) d3;have s4:=s3.1.stored (o+4) d4;have s5:=s4.1.stored (o+5) d5;exact ⟨s5.1,ZW s0.2 (ZW s1.2 (ZW s2.2 (ZW s3.2 (ZW s4.2 (s5.2)))))⟩
theorem Zi5 {a b:ByteArray} (h:¬ a=b):¬ a.toList=b.toList:=fun e=>h (bytes_inj (by rw [← ByteArray.toList_eq,← ByteArray.toList_eq,e]))
theorem ZfC {a b:ByteArray} (h:¬ a=b):(a.toList == b.toList)=false:=by simpa using Zi5 h
theorem Blk.lt {w:World} {b:Nat} {cs:Array Value} {t:TypeId} (h:Blk w b cs t):b<w.heap.size:=by
  unfold Blk at h;exact (Array.getElem?_eq_some_iff.1 h).1
theorem Blk.next {w w':World} {b:Nat} {cs:Array Value} {t:TypeId} (h:Blk w b cs t) (hb:Below w.heap.size w w'):Blk w' b cs t:=h.below hb h.lt
theorem Zd {w w':World} {a:Addr} {v:Value} (hb:Below w.heap.size w w') (h:w.cell? a=some v):w'.cell? a=some v:=by
  refine (hb.cell (p:=a) ?_).trans h;unfold World.cell? at h
  split at h
  · rename_i heq;exact (Array.getElem?_eq_some_iff.1 heq).1
  · cases h
theorem Zgj {v:Value} {cs:List Value} (h:v.cells.toList=cs) (hl:cs.length≠1):v=.agg cs.toArray:=by
  subst h
  cases v <;> first | (exfalso;exact hl rfl) | rfl
theorem Blk.same_on {w w':World} {b:Nat} {cs:Array Value} {t:TypeId} (h:Blk w b cs t) (hs:Za All w w'):Blk w' b cs t :=
  (hs.2 b trivial (by unfold Blk at h;exact (Array.getElem?_eq_some_iff.1 h).1)).trans h
theorem hid {p:Prop} (h:p):Hid p:=h
theorem sqR (n:Nat):n≤n:=Nat.le_refl n
theorem sqN (w:World) (o:Obj):Below w.heap.size w (w.alloc o):=(Below.refl _ _).alloc (Nat.le_refl _) _
theorem sqA {α:Type} {l:List α} {n k:Nat} (h:l.length=n) (hk:k<n):∃ x,l[k]?=some x:=⟨l[k]'(by omega),List.getElem?_eq_getElem _⟩
theorem sqT {α:Type} {l:List α} {n:Nat} (h:l.length=n):l.take n=l:=List.take_of_length_le (by omega)
theorem sqI (k:Nat):(0:Int)≤(k:Int):=by omega
theorem sqL {k n:Nat} (h:k<n):(k:Int)<(n:Int):=by omega
theorem sqB2 {w:World} {b:Nat} {a0 a1:Value} {t:TypeId} (h:Blk w b #[a0,a1] t):w.cell? ⟨b,0,none⟩=some a0∧w.cell? ⟨b,1,none⟩=some a1:=⟨h.cell 0 _ rfl,h.cell 1 _ rfl⟩
theorem sqB3 {w:World} {b:Nat} {a0 a1 a2:Value} {t:TypeId} (h:Blk w b #[a0,a1,a2] t):w.cell? ⟨b,0,none⟩=some a0∧w.cell? ⟨b,1,none⟩=some a1∧w.cell? ⟨b,2,none⟩=some a2:=⟨h.cell 0 _ rfl,h.cell 1 _ rfl,h.cell 2 _ rfl⟩
theorem sqB4 {w:World} {b:Nat} {a0 a1 a2 a3:Value} {t:TypeId} (h:Blk w b #[a0,a1,a2,a3] t):w.cell? ⟨b,0,none⟩=some a0∧w.cell? ⟨b,1,none⟩=some a1∧w.cell? ⟨b,2,none⟩=some a2∧w.cell? ⟨b,3,none⟩=some a3:=⟨h.cell 0 _ rfl,h.cell 1 _ rfl,h.cell 2 _ rfl,h.cell 3 _ rfl⟩
theorem sqB6 {w:World} {b:Nat} {a0 a1 a2 a3 a4 a5:Value} {t:TypeId} (h:Blk w b #[a0,a1,a2,a3,a4,a5] t):w.cell? ⟨b,0,none⟩=some a0∧w.cell? ⟨b,1,none⟩=some a1∧w.cell? ⟨b,2,none⟩=some a2∧w.cell? ⟨b,3,none⟩=some a3∧w.cell? ⟨b,4,none⟩=some a4∧w.cell? ⟨b,5,none⟩=some a5:=⟨h.cell 0 _ rfl,h.cell 1 _ rfl,h.cell 2 _ rfl,h.cell 3 _ rfl,h.cell 4 _ rfl,h.cell 5 _ rfl⟩
theorem sqF2 {w:World} {b:Nat} {cs:Array Value} {t:TypeId} (h:Blk w b cs t):w.frozen? ⟨b,0,none⟩=false∧w.frozen? ⟨b,1,none⟩=false:=⟨h.frozen 0,h.frozen 1⟩
theorem sqF3 {w:World} {b:Nat} {cs:Array Value} {t:TypeId} (h:Blk w b cs t):w.frozen? ⟨b,0,none⟩=false∧w.frozen? ⟨b,1,none⟩=false∧w.frozen? ⟨b,2,none⟩=false:=⟨h.frozen 0,h.frozen 1,h.frozen 2⟩
theorem sqF4 {w:World} {b:Nat} {cs:Array Value} {t:TypeId} (h:Blk w b cs t):w.frozen? ⟨b,0,none⟩=false∧w.frozen? ⟨b,1,none⟩=false∧w.frozen? ⟨b,2,none⟩=false∧w.frozen? ⟨b,3,none⟩=false:=⟨h.frozen 0,h.frozen 1,h.frozen 2,h.frozen 3⟩
theorem sqF6 {w:World} {b:Nat} {cs:Array Value} {t:TypeId} (h:Blk w b cs t):w.frozen? ⟨b,0,none⟩=false∧w.frozen? ⟨b,1,none⟩=false∧w.frozen? ⟨b,2,none⟩=false∧w.frozen? ⟨b,3,none⟩=false∧w.frozen? ⟨b,4,none⟩=false∧w.frozen? ⟨b,5,none⟩=false:=⟨h.frozen 0,h.frozen 1,h.frozen 2,h.frozen 3,h.frozen 4,h.frozen 5⟩
theorem sqC2 {w:World} {g o c:Nat} {cs:List Value} (h:∀ j,j<c→w.cell? ⟨g,o+j,none⟩=cs[j]?) (k:2≤c):w.cell? ⟨g,o+0,none⟩=cs[0]?∧w.cell? ⟨g,o+1,none⟩=cs[1]?:=⟨h 0 (by omega),h 1 (by omega)⟩
theorem sqC3 {w:World} {g o c:Nat} {cs:List Value} (h:∀ j,j<c→w.cell? ⟨g,o+j,none⟩=cs[j]?) (k:3≤c):w.cell? ⟨g,o+0,none⟩=cs[0]?∧w.cell? ⟨g,o+1,none⟩=cs[1]?∧w.cell? ⟨g,o+2,none⟩=cs[2]?:=⟨h 0 (by omega),h 1 (by omega),h 2 (by omega)⟩
theorem sqC4 {w:World} {g o c:Nat} {cs:List Value} (h:∀ j,j<c→w.cell? ⟨g,o+j,none⟩=cs[j]?) (k:4≤c):w.cell? ⟨g,o+0,none⟩=cs[0]?∧w.cell? ⟨g,o+1,none⟩=cs[1]?∧w.cell? ⟨g,o+2,none⟩=cs[2]?∧w.cell? ⟨g,o+3,none⟩=cs[3]?:=⟨h 0 (by omega),h 1 (by omega),h 2 (by omega),h 3 (by omega)⟩
theorem sqC5 {w:World} {g o c:Nat} {cs:List Value} (h:∀ j,j<c→w.cell? ⟨g,o+j,none⟩=cs[j]?) (k:5≤c):w.cell? ⟨g,o+0,none⟩=cs[0]?∧w.cell? ⟨g,o+1,none⟩=cs[1]?∧w.cell? ⟨g,o+2,none⟩=cs[2]?∧w.cell? ⟨g,o+3,none⟩=cs[3]?∧w.cell? ⟨g,o+4,none⟩=cs[4]?:=⟨h 0 (by omega),h 1 (by omega),h 2 (by omega),h 3 (by omega),h 4 (by omega)⟩
theorem sqC6 {w:World} {g o c:Nat} {cs:List Value} (h:∀ j,j<c→w.cell? ⟨g,o+j,none⟩=cs[j]?) (k:6≤c):w.cell? ⟨g,o+0,none⟩=cs[0]?∧w.cell? ⟨g,o+1,none⟩=cs[1]?∧w.cell? ⟨g,o+2,none⟩=cs[2]?∧w.cell? ⟨g,o+3,none⟩=cs[3]?∧w.cell? ⟨g,o+4,none⟩=cs[4]?∧w.cell? ⟨g,o+5,none⟩=cs[5]?:=⟨h 0 (by omega),h 1 (by omega),h 2 (by omega),h 3 (by omega),h 4 (by omega),h 5 (by omega)⟩
theorem sqE {α:Type} {l:List α} {k:Nat} {x:α} (h:l[k]?=some x):l≠[]:=by rintro rfl;simp at h
theorem sqM {n c:Nat} (h:n≤c) (k:c≤maxLen):n≤9223372036854775807:=by unfold maxLen at k;omega
theorem sqO {S:Nat→Prop} {w w':World} (h:Below w.heap.size w w'):Za S w w':=Za.of_below h
theorem sqK {w w':World} {a:Addr} (h:w'.heap[a.block]?=w.heap[a.block]?):w'.cell? a=w.cell? a:=World.cell?_of_block h
theorem sqS {S:Nat→Prop} {w:World}:Za S w w:=⟨Nat.le_refl _,fun _ _ _=>rfl⟩
theorem sqj {S:Nat→Prop} (g:Nat) (h:S g):S g:=h
abbrev Bz (w w':World):Prop:=Below w.heap.size w w'
section
def Zj (fp:List Nat) (w w':World):Prop:=∀ a ∈ fp,w'.heap[a]?=w.heap[a]?
theorem Zj.sub {fp fp':List Nat} {w w':World} (h:Zj fp w w') (hs:∀ a ∈ fp',a ∈ fp):Zj fp' w w':=λa ha=>h a (hs a ha)
theorem Zj.below {fp:List Nat} {w w':World} {N:Nat} (h:Below N w w') (hs:∀ a ∈ fp,a<N):Zj fp w w':=λa ha=>h.block a (hs a ha)
structure Off (fp:List Nat) (w w':World):Prop where
 os:w'.os=w.os
 tape:w'.tape=w.tape
 output:w'.output=w.output
 size:w.heap.size<=w'.heap.size
 block:∀ a,a<w.heap.size->a ∉ fp->w'.heap[a]?=w.heap[a]?
theorem Off.refl (fp:List Nat) (w:World):Off fp w w:=⟨rfl,rfl,rfl,Nat.le_refl _,λ_ _ _=>rfl⟩
theorem Off.trans {fp:List Nat} {a b c:World} (h:Off fp a b) (k:Off fp b c):Off fp a c :=
 ⟨k.os.trans h.os,k.tape.trans h.tape,k.output.trans h.output,Nat.le_trans h.size k.size,λg hg hf=>(k.block g (Nat.lt_of_lt_of_le hg h.size) hf).trans (h.block g hg hf)⟩
theorem Off.sub {fp fp':List Nat} {a b:World} (h:Off fp a b) (hs:∀ g ∈ fp,g ∈ fp'):Off fp' a b :=
 ⟨h.os,h.tape,h.output,h.size,λg hg hf=>h.block g hg (λhm=>hf (hs g hm))⟩
theorem Off.of_below {fp:List Nat} {a b:World} (h:Bz a b):Off fp a b:=⟨h.os,h.tape,h.output,h.size,λg hg _=>h.block g hg⟩
theorem Off.of_grown {fp:List Nat} {a b:World} {g:Nat} (h:a.grownBy b (some g)) (hg:g ∈ fp):Off fp a b :=
 ⟨h.os,h.tape,h.output,h.size,λj hj hf=>h.block j hj (by simp;intro e;exact hf (e ▸ hg))⟩
theorem Off.below {fp:List Nat} {a b:World} {N:Nat} (h:Off fp a b) (hs:∀ g ∈ fp,N<=g) (hN:N<=a.heap.size):Below N a b :=
 ⟨h.os,h.tape,h.output,h.size,λj hj=>h.block j (Nat.lt_of_lt_of_le hj hN) (λhm=>by have:=hs j hm;omega)⟩
theorem Off.keep {fp f:List Nat} {a b:World} (h:Off fp a b) (hs:∀ g ∈ f,g<a.heap.size/\g ∉ fp):Zj f a b:=λg hg=>h.block g (hs g hg).1 (hs g hg).2
theorem Off.under {fp:List Nat} {w A B:World} {N:Nat} (h:Off fp w A) (hN:w.heap.size<=N) (hb:Below N A B):Off fp w B :=
 ⟨hb.os.trans h.os,hb.tape.trans h.tape,hb.output.trans h.output,Nat.le_trans h.size hb.size,λg hg hf=>(hb.block g (by omega)).trans (h.block g hg hf)⟩
def Zg {α:Type} (w:World) (e:TypeId) (c:Nat) (R:List Value->α->List Nat->Prop) (v:Value) (xs:List α) (fp:List Nat):Prop :=
 (xs = []/\fp = []/\∃ p cap,v=.slice p 0 cap/\cap<=maxLen) \/
  (xs≠[]/\∃ (cells:List Value) (g cap:Nat) (fps:List (List Nat)),w.ownsRow 0 e c v xs.length cells/\v=.slice (some ⟨g,0,none⟩) xs.length cap/\fps.length=xs.length/\fp=g :: fps.flatten /\
   ∀ (i:Nat) x f,xs[i]?=some x->fps[i]?=some f->∃ cs:List Value,cs.length=c/\(∀ j,j<c->cells[i * c+j]?=cs[j]?)/\R cs x f)
theorem ZaB {w w':World} {e:TypeId} {c g n cap:Nat} {v:Value} {cells:List Value} (h:w.ownsRow 0 e c v n cells) (hv:v=.slice (some ⟨g,0,none⟩) n cap) (hk:w'.heap[g]?=w.heap[g]?):w'.ownsRow 0 e c v n cells:=by
 refine ⟨h.1,?_⟩
 rcases h.2 with hn | ⟨g',cap',cur,hv',hb,hg,hr⟩
 . exact .inl hn
 . have:g'=g:=by rw [hv] at hv';simp at hv';exact hv'.1.symm
   subst this;exact .inr ⟨g',cap',cur,hv',hb,hk.trans hg,hr⟩
theorem Za6 {w:World} {e:TypeId} {c g n cap:Nat} {v:Value} {cells:List Value} (h:w.ownsRow 0 e c v n cells) (hv:v=.slice (some ⟨g,0,none⟩) n cap):g<w.heap.size:=by
 rcases h.2 with hn | ⟨g',cap',cur,hv',hb,hg,hr⟩
 . rw [hn.1] at hv;cases hv
 . have:g'=g:=by rw [hv] at hv';simp at hv';exact hv'.1.symm
   subst this;exact (Array.getElem?_eq_some_iff.1 hg).1
theorem Zg.shape {α:Type} {w:World} {e:TypeId} {c:Nat} {R:List Value->α->List Nat->Prop} {v:Value} {xs:List α} {fp:List Nat} (h:Zg w e c R v xs fp):∃ p cap,v=.slice p xs.length cap/\xs.length<=cap/\cap<=maxLen:=by
 rcases h with ⟨rfl,_,p,cap,hv,hc⟩ | ⟨_,cells,g,cap,fps,ho,hv,_⟩
 . exact ⟨p,cap,hv,Nat.zero_le _,hc⟩
 . rcases ho.2 with hn | ⟨g',cap',cur,hv',hb,hg,hr⟩
   . rw [hn.1] at hv;cases hv
   . exact ⟨_,_,hv',hr.1,hr.2.1⟩
theorem Zg.rows {α:Type} {w:World} {e:TypeId} {c:Nat} {R:List Value->α->List Nat->Prop} {R':List Value->α->Prop} {S:Nat->Prop} {v:Value} {xs:List α} {fp:List Nat} (h:Zg w e c R v xs fp) (hS:∀ a ∈ fp,S a)
 (hR:∀ cs x f,x ∈ xs->(∀ a ∈ f,a ∈ fp)->R cs x f->R' cs x):Rows w S c R' v xs:=by
 obtain ⟨p,cap,hv,h1,h2⟩:=h.shape;refine ⟨p,cap,hv,h1,h2,λhne=>?_⟩
 rcases h with h | ⟨_,cells,g,cap',fps,ho,hv',hl,rfl,hat⟩
 . exact absurd h.1 hne
 have hp:p=some ⟨g,0,none⟩:=(by rw [hv] at hv';simp at hv';exact hv'.1);refine ⟨g,0,hp,hS g (by simp),Za6 ho hv',λi x hi=>?_⟩;have hil:i<xs.length:=(List.getElem?_eq_some_iff.1 hi).1;obtain ⟨f,hf⟩:∃ f,fps[i]?=some f:=⟨fps[i]'(by rw [hl];exact hil),List.getElem?_eq_getElem _⟩;obtain ⟨cs,hcl,hcs,hr⟩:=hat i x f hi hf;refine ⟨cs,hcl,λj hj=>?_,hR cs x f (List.mem_of_getElem? hi) (λa ha=>?_) hr⟩
 . rw [<-hcs j hj,Nat.zero_add]
   rw [hv'] at ho;refine ho.cellAt (i * c+j) ?_;have:i * c+c<=xs.length * c:=(by rw [<-Nat.succ_mul];exact Nat.mul_le_mul_right c hil);omega
 . exact List.mem_cons_of_mem _ (List.mem_flatten.2 ⟨f,List.mem_of_getElem? hf,ha⟩)
theorem Zg.keep {α:Type} {w w':World} {e:TypeId} {c:Nat} {R R':List Value->α->List Nat->Prop} {v:Value} {xs:List α} {fp:List Nat} (h:Zg w e c R v xs fp) (hk:Zj fp w w')
 (hR:∀ cs x f,x ∈ xs->(∀ a ∈ f,a ∈ fp)->R cs x f->R' cs x f):Zg w' e c R' v xs fp:=by
 rcases h with h | ⟨hne,cells,g,cap',fps,ho,hv',hl,rfl,hat⟩
 . exact .inl h
 refine .inr ⟨hne,cells,g,cap',fps,ZaB ho hv' (hk g (by simp)),hv',hl,rfl,λi x f hi hf=>?_⟩;obtain ⟨cs,hcl,hcs,hr⟩:=hat i x f hi hf;exact ⟨cs,hcl,hcs,hR cs x f (List.mem_of_getElem? hi) (λa ha=>List.mem_cons_of_mem _ (List.mem_flatten.2 ⟨f,List.mem_of_getElem? hf,ha⟩)) hr⟩
theorem Zg.lt {α:Type} {w:World} {e:TypeId} {c:Nat} {R:List Value->α->List Nat->Prop} {v:Value} {xs:List α} {fp:List Nat} (h:Zg w e c R v xs fp) (hR:∀ cs x f,R cs x f->∀ a ∈ f,a<w.heap.size):∀ a ∈ fp,a<w.heap.size:=by
 rcases h with ⟨_,rfl,_⟩ | ⟨hne,cells,g,cap',fps,ho,hv',hl,rfl,hat⟩
 . intro a ha;simp at ha
 . intro a ha
   rcases List.mem_cons.1 ha with rfl | ha
   . exact Za6 ho hv'
   . obtain ⟨f,hf,ha⟩:=List.mem_flatten.1 ha
     obtain ⟨i,hi,rfl⟩:=List.mem_iff_getElem.1 hf;obtain ⟨cs,_,_,hr⟩:=hat i (xs[i]'(by rw [<-hl];exact hi)) _ (List.getElem?_eq_getElem _) (List.getElem?_eq_getElem hi);exact hR _ _ _ hr a ha
theorem Zg.set {α:Type} {w':World} {e:TypeId} {c:Nat} {R R':List Value->α->List Nat->Prop} {v:Value} {xs:List α} {cells cells':List Value} {g cap:Nat} {fps:List (List Nat)} {i:Nat} {x':α} {f:List Nat}
 (hne:xs≠[]) (ho:w'.ownsRow 0 e c v xs.length cells') (hv:v=.slice (some ⟨g,0,none⟩) xs.length cap) (hl:fps.length=xs.length)
 (hat:∀ (i:Nat) x f,xs[i]?=some x->fps[i]?=some f->∃ cs:List Value,cs.length=c/\(∀ j,j<c->cells[i * c+j]?=cs[j]?)/\R cs x f) (hf:fps[i]?=some f)
 (hother:∀ m,(m<i * c\/i * c+c<=m)->cells'[m]?=cells[m]?) (cs':List Value) (hcl:cs'.length=c) (hcs:∀ j,j<c->cells'[i * c+j]?=cs'[j]?) (hr:R' cs' x' f)
 (hk:∀ (j:Nat) y f' cs,j≠i->fps[j]?=some f'->R cs y f'->R' cs y f'):Zg w' e c R' v (xs.set i x') (g :: fps.flatten):=by
 refine .inr ⟨λh=>hne (by cases xs with | nil=>rfl | cons a l=>cases i <;> simp at h),cells',g,cap,fps,by rw [List.length_set];exact ho,by rw [List.length_set];exact hv,by rw [List.length_set];exact hl,rfl,λj y f' hj hf'=>?_⟩;by_cases hji:j=i
 . subst hji
   have hjl:j<xs.length:=(by rw [<-hl];exact (List.getElem?_eq_some_iff.1 hf).1);rw [List.getElem?_set_self hjl] at hj;obtain rfl:=Option.some.inj hj;obtain rfl:=Option.some.inj (hf.symm.trans hf');exact ⟨cs',hcl,hcs,hr⟩
 . rw [List.getElem?_set_ne (λh=>hji h.symm)] at hj
   obtain ⟨cs,h1,h2,h3⟩:=hat j y f' hj hf';refine ⟨cs,h1,λq hq=>?_,hk j y f' cs hji hf' h3⟩;rw [hother _ ?_]
   . exact h2 q hq
   . rcases Nat.lt_or_gt_of_ne hji with h | h
     . left;have:j * c+c<=i * c:=by rw [<-Nat.succ_mul];exact Nat.mul_le_mul_right c h
       omega
     . right;have:i * c+c<=j * c:=by rw [<-Nat.succ_mul];exact Nat.mul_le_mul_right c h
       omega
theorem Zak {g:Nat} {fps:List (List Nat)} (h:(g :: fps.flatten).Nodup) :
 (∀ f ∈ fps,g ∉ f/\f.Nodup)/\∀ (i j:Nat) f f',i≠j->fps[i]?=some f->fps[j]?=some f'->∀ a ∈ f,a ∉ f':=by
 rw [List.nodup_cons] at h;obtain ⟨hg,hp⟩:=h;obtain ⟨h1,h2⟩:=List.pairwise_flatten.1 hp;refine ⟨λf hf=>⟨λhm=>hg (List.mem_flatten.2 ⟨f,hf,hm⟩),h1 f hf⟩,λi j f f' hij hi hj a ha ha'=>?_⟩;rw [List.pairwise_iff_getElem] at h2;obtain ⟨hi1,rfl⟩:=List.getElem?_eq_some_iff.1 hi;obtain ⟨hj1,rfl⟩:=List.getElem?_eq_some_iff.1 hj
 rcases Nat.lt_or_gt_of_ne hij with hlt | hlt
 . exact h2 i j hi1 hj1 hlt a ha a ha' rfl
 . exact h2 j i hj1 hi1 hlt a ha' a ha rfl
def mix {α:Type} (i:Nat) (ys xs:List α):List α:=ys.take i ++ xs.drop i
theorem Zc5 {α:Type} (ys xs:List α):mix 0 ys xs=xs:=by simp [mix]
theorem Zep {α:Type} {ys xs:List α} {i:Nat} (hl:ys.length=xs.length) (h:xs.length<=i):mix i ys xs=ys:=by
 unfold mix;rw [List.take_of_length_le (by omega),List.drop_of_length_le h,List.append_nil]
theorem ZbM {α:Type} {ys xs:List α} {i:Nat} (hl:ys.length=xs.length):(mix i ys xs).length=xs.length:=by
 unfold mix;rw [List.length_append,List.length_take,List.length_drop];omega
theorem Zgk {α:Type} {ys xs:List α} {i:Nat} (hl:ys.length=xs.length) (hi:i<xs.length):(mix i ys xs)[i]?=xs[i]?:=by
 unfold mix;rw [List.getElem?_append_right (by rw [List.length_take];omega),List.length_take,List.getElem?_drop]
 congr 1;omega
theorem Zc6 {α:Type} {ys xs:List α} {i:Nat} {y:α} (hl:ys.length=xs.length) (hy:ys[i]?=some y):(mix i ys xs).set i y=mix (i+1) ys xs:=by
 have hi:i<ys.length:=(List.getElem?_eq_some_iff.1 hy).1;unfold mix;rw [List.set_append_right (h:=by rw [List.length_take];omega),List.length_take,Nat.min_eq_left (by omega),Nat.sub_self,List.take_add_one,hy,List.append_assoc]
 congr 1
 rw [List.drop_eq_getElem_cons (i:=i) (l:=xs) (by omega)]
 rfl
def Zw {α:Type} (f:Nat->α->α) (c:α->Nat):Nat->List α->List α
 | _,[]=>[]
 | k,x :: xs=>f k x :: Zw f c (k+c x) xs
theorem ZE {α:Type} (f:Nat->α->α) (c:α->Nat):∀ (k:Nat) (xs:List α),(Zw f c k xs).length=xs.length
 | _,[]=>rfl
 | k,x :: xs=>by simp [Zw,ZE f c (k+c x) xs]
theorem ZaL {α:Type} (f:Nat->α->α) (c:α->Nat):∀ (k:Nat) (xs:List α) (i:Nat) (x:α),xs[i]?=some x->(Zw f c k xs)[i]?=some (f (k+((xs.take i).map c).sum) x)
 | _,[],i,x,h=>by simp at h
 | k,y :: xs,0,x,h=>by simp at h;subst h;simp [Zw]
 | k,y :: xs,i+1,x,h=>by
  simp at h;simp only [Zw,List.getElem?_cons_succ,ZaL f c (k+c y) xs i x h,List.take_succ_cons,List.map_cons,List.sum_cons,Nat.add_assoc]
structure Made {α:Type} (w wr:World) (G n:Nat) (e:TypeId) (c:Nat) (O:World->List Value->α->List Nat->Prop) (es:List α) (k:Nat) (xs:List Value) (fps:List (List Nat)):Prop where
 own:wr.ownsRow G e c (.slice (some ⟨G,0,none⟩) n n) n xs
 len:fps.length=k
 nd:fps.flatten.Nodup
 rng:∀ a ∈ fps.flatten,G<a/\a<wr.heap.size
 el:∀ (i:Nat) x f,es[i]?=some x->fps[i]?=some f->∃ cs:List Value,cs.length=c/\(∀ j,j<c->xs[i * c+j]?=cs[j]?)/\O wr cs x f
 below:Below G w wr
 sz:G+1<=wr.heap.size
variable {α:Type} {w wr:World} {G n c k:Nat} {e:TypeId} {O:World->List Value->α->List Nat->Prop} {es:List α} {xs:List Value} {fps:List (List Nat)}
theorem Made.start {M:Array Value} (hM:M.size=n * c) (hn:n<=maxLen):Made w (w.alloc (.cells M e)) w.heap.size n e c O es 0 M.toList [] :=
 ⟨World.ownsRow_lit w M n (sqR _) hn hM,rfl,by simp,λa ha=>by simp at ha,λi x f _ hf=>by simp at hf,(sqN _ _),by rw [Zb];exact Nat.le_refl _⟩
theorem Made.step (hO:∀ w w' cs x f,O w cs x f->Zj f w w'->O w' cs x f) (h:Made w wr G n e c O es k xs fps) {w1 w2:World} {x:α} {cs xs':List Value} {f:List Nat} (hx:es[k]?=some x) (hb:Bz wr w1) (ho:O w1 cs x f)
 (hnd:f.Nodup) (hf:∀ a ∈ f,wr.heap.size<=a/\a<w1.heap.size) (hcl:cs.length=c) (hown:w2.ownsRow G e c (.slice (some ⟨G,0,none⟩) n n) n xs') (hgr:w1.grownBy w2 (some G))
 (hlow:∀ m,m<k * c->xs'[m]?=xs[m]?) (hself:∀ j,j<c->xs'[k * c+j]?=cs[j]?):Made w w2 G n e c O es (k+1) xs' (fps ++ [f]):=by
 have h1:=h.sz;have h2:=hb.size;have h3:=hgr.size;refine ⟨hown,by rw [List.length_append,h.len];rfl,?_,?_,?_,?_,by omega⟩
 . rw [List.flatten_append,List.nodup_append]
   refine ⟨h.nd,by simpa using hnd,λa ha b hb'=>?_⟩;have:=(h.rng a ha).2;have:=(hf b (by simpa using hb')).1;omega
 . intro a ha
   rw [List.flatten_append,List.mem_append] at ha
   rcases ha with ha | ha
   . have:=h.rng a ha;omega
   . have:=hf a (by simpa using ha);omega
 . intro i y f' hy hf'
   by_cases hik:i<k
   . rw [List.getElem?_append_left (by rw [h.len];exact hik)] at hf'
     obtain ⟨cs',g1,g2,g3⟩:=h.el i y f' hy hf';refine ⟨cs',g1,λj hj=>?_,hO _ _ _ _ _ g3 (λa ha=>?_)⟩
     . rw [hlow]
       . exact g2 j hj
       . have:i * c+c<=k * c:=by rw [<-Nat.succ_mul];exact Nat.mul_le_mul_right c hik
         omega
     . have hr:=h.rng a (List.mem_flatten.2 ⟨f',List.mem_of_getElem? hf',ha⟩)
       exact (hgr.block a (by omega) (by simp;omega)).trans (hb.block a hr.2)
   . have hil:i<k+1:=by
      have:=(List.getElem?_eq_some_iff.1 hf').1;rw [List.length_append,h.len] at this;simpa using this
     obtain rfl:i=k:=(by omega);obtain rfl:x=y:=Option.some.inj (hx.symm.trans hy);rw [List.getElem?_append_right (by rw [h.len];exact Nat.le_refl _),h.len,Nat.sub_self] at hf';simp at hf';subst hf';exact ⟨cs,hcl,hself,hO _ _ _ _ _ ho (λa ha=>by have:=hf a ha;exact hgr.block a (by omega) (by simp;omega))⟩
 . exact h.below.trans ((hb.mono (by omega)).trans ⟨hgr.os,hgr.tape,hgr.output,hgr.size,λj hj=>hgr.block j (by omega) (by simp;omega)⟩)
theorem Made.done (h:Made w wr G n e c O es n xs fps) (hn:es.length=n) (hm:n<=maxLen):∃ fp,Zg wr e c (O wr) (.slice (some ⟨G,0,none⟩) n n) es fp/\fp.Nodup/\∀ a ∈ fp,G<=a/\a<wr.heap.size:=by
 by_cases hne:es = []
 . subst hne
   exact ⟨[],.inl ⟨rfl,rfl,_,_,by rw [<-hn];rfl,hm⟩,by simp,λa ha=>by simp at ha⟩
 . refine ⟨G :: fps.flatten,.inr ⟨hne,xs,G,n,fps,?_,by rw [hn],by rw [h.len,hn],rfl,h.el⟩,?_,?_⟩
   . rw [hn]
     obtain ⟨h1,h2⟩:=h.own;refine ⟨h1,h2.imp id ?_⟩;rintro ⟨g,cap,cur,a1,a2,a3⟩;exact ⟨g,cap,cur,a1,Nat.zero_le _,a3⟩
   . rw [List.nodup_cons]
     exact ⟨λhm=>by have:=(h.rng G hm).1;omega,h.nd⟩
   . intro a ha
     have:=h.sz
     rcases List.mem_cons.1 ha with rfl | ha
     . omega
     . have:=h.rng a ha;omega
def ToO {α:Type} (F:FuncId) (H:World->Value->α->Prop) (O:World->Value->α->List Nat->Prop) (wt:α->Nat):Prop :=
 ∀ (w:World) (v:Value) (x:α),H w v x->wt x<=16777216->Calls Tryz.prog F #[v] w λe w'=>∃ u fp,e=.returned u/\O w' u x fp/\fp.Nodup/\(∀ a ∈ fp,w.heap.size<=a/\a<w'.heap.size)/\Bz w w'
end
theorem ZfD {fps:List (List Nat)} {i g:Nat} {f f' fq:List Nat} (hnd:(g :: fps.flatten).Nodup) (hf:fps[i]?=some f) (hn':f'.Nodup) (hs:∀ a ∈ f',a ∈ f\/a ∈ fq) (hd:∀ a ∈ fq,a ∉ g :: fps.flatten) :
 (g :: (fps.set i f').flatten).Nodup/\∀ a ∈ g :: (fps.set i f').flatten,a ∈ g :: fps.flatten\/a ∈ fq:=by
 obtain ⟨h1,h2⟩:=Zak hnd
 have hmem:∀ a ∈ (fps.set i f').flatten,(∃ j fj,j≠i/\fps[j]?=some fj/\a ∈ fj)\/a ∈ f':=by
  intro a ha;obtain ⟨x,hx,hax⟩:=List.mem_flatten.1 ha;obtain ⟨j,hj⟩:=List.mem_iff_getElem?.1 hx;by_cases hji:j=i
  . subst hji
    rw [List.getElem?_set_self (List.getElem?_eq_some_iff.1 hf).1] at hj;obtain rfl:=Option.some.inj hj;exact .inr hax
  . rw [List.getElem?_set_ne (λh=>hji h.symm)] at hj
    exact .inl ⟨j,x,hji,hj,hax⟩
 have hin:∀ a ∈ f,a ∈ g :: fps.flatten:=λa ha=>List.mem_cons_of_mem _ (List.mem_flatten.2 ⟨f,List.mem_of_getElem? hf,ha⟩);refine ⟨?_,λa ha=>?_⟩
 . rw [List.nodup_cons]
   refine ⟨λhg=>?_,?_⟩
   . rcases hmem g hg with ⟨j,fj,hj,hfj,hgj⟩ | hgf
     . exact (h1 fj (List.mem_of_getElem? hfj)).1 hgj
     . rcases hs g hgf with h | h
       . exact (h1 f (List.mem_of_getElem? hf)).1 h
       . exact hd g h (by simp)
   . unfold List.Nodup
     rw [List.pairwise_flatten];refine ⟨λx hx=>?_,?_⟩
     . obtain ⟨j,hj⟩:=List.mem_iff_getElem?.1 hx
       by_cases hji:j=i
       . subst hji
         rw [List.getElem?_set_self (List.getElem?_eq_some_iff.1 hf).1] at hj;obtain rfl:=Option.some.inj hj;exact hn'
       . rw [List.getElem?_set_ne (λh=>hji h.symm)] at hj
         exact (h1 x (List.mem_of_getElem? hj)).2
     . rw [List.pairwise_iff_getElem]
       intro p q hp hq hpq a ha b hb hab;subst hab;obtain ⟨X,e1,ha⟩:∃ X,(fps.set i f')[p]?=some X/\a ∈ X:=⟨_,List.getElem?_eq_getElem hp,ha⟩;obtain ⟨Y,e2,hb⟩:∃ Y,(fps.set i f')[q]?=some Y/\a ∈ Y:=⟨_,List.getElem?_eq_getElem hq,hb⟩
       have key:∀ (u:Nat) fu,u≠i->fps[u]?=some fu->a ∈ fu->a ∈ f'->False:=by
        intro u fu hu hfu hau haf
        rcases hs a haf with h | h
        . exact h2 u i fu f hu hfu hf a hau h
        . exact hd a h (List.mem_cons_of_mem _ (List.mem_flatten.2 ⟨fu,List.mem_of_getElem? hfu,hau⟩))
       have hlen:=(List.getElem?_eq_some_iff.1 hf).1;by_cases hpi:p=i
       . have hqi:q≠i:=by omega
         rw [hpi,List.getElem?_set_self hlen] at e1;rw [List.getElem?_set_ne (λh=>hqi h.symm)] at e2;obtain rfl:=Option.some.inj e1;exact key q _ hqi e2 hb ha
       . rw [List.getElem?_set_ne (λh=>hpi h.symm)] at e1
         by_cases hqi:q=i
         . rw [hqi,List.getElem?_set_self hlen] at e2
           obtain rfl:=Option.some.inj e2;exact key p _ hpi e1 ha hb
         . rw [List.getElem?_set_ne (λh=>hqi h.symm)] at e2
           exact h2 p q _ _ (by omega) e1 e2 a ha hb
 . rcases List.mem_cons.1 ha with rfl | ha
   . exact .inl (by simp)
   . rcases hmem a ha with ⟨j,fj,hj,hfj,haj⟩ | haf
     . exact .inl (List.mem_cons_of_mem _ (List.mem_flatten.2 ⟨fj,List.mem_of_getElem? hfj,haj⟩))
     . rcases hs a haf with h | h
       . exact .inl (hin a h)
       . exact .inr h
theorem Zg.through {α:Type} {w:World} {e:TypeId} {c:Nat} {R:List Value->α->List Nat->Prop} {v:Value} {xs:List α} {fp:List Nat} (h:Zg w e c R v xs fp) (hnd:fp.Nodup) {i:Nat} {x:α} (hi:xs[i]?=some x) :
 ∃ g cap cs f,v=.slice (some ⟨g,0,none⟩) xs.length cap/\g ∈ fp/\(∀ a ∈ f,a ∈ fp)/\g ∉ f/\f.Nodup/\cs.length=c/\(∀ j,j<c->w.cell? ⟨g,i * c+j,none⟩=cs[j]?)/\R cs x f /\
  ∀ (w':World) (R':List Value->α->List Nat->Prop) (x':α) (f' fq:List Nat) (b:Nat),b ∈ f->(∀ a,a≠b->w'.heap[a]?=w.heap[a]?)->R' cs x' f'->f'.Nodup->(∀ a ∈ f',a ∈ f\/a ∈ fq)->(∀ a ∈ fq,a ∉ fp) ->
   (∀ cs y fy,b ∉ fy->R cs y fy->R' cs y fy)->∃ fp',Zg w' e c R' v (xs.set i x') fp'/\fp'.Nodup/\∀ a ∈ fp',a ∈ fp\/a ∈ fq:=by
 have hil:i<xs.length:=(List.getElem?_eq_some_iff.1 hi).1
 rcases h with ⟨rfl,_⟩ | ⟨hne,cells,g,cap,fps,ho,hv,hl,rfl,hat⟩
 . simp at hil
 obtain ⟨f,hf⟩:∃ f,fps[i]?=some f:=⟨fps[i]'(by rw [hl];exact hil),List.getElem?_eq_getElem _⟩;obtain ⟨cs,hcl,hcs,hr⟩:=hat i x f hi hf;obtain ⟨n1,n2⟩:=Zak hnd;have hfm:=List.mem_of_getElem? hf;refine ⟨g,cap,cs,f,hv,by simp,λa ha=>List.mem_cons_of_mem _ (List.mem_flatten.2 ⟨f,hfm,ha⟩),(n1 f hfm).1,(n1 f hfm).2,hcl,λj hj=>?_,hr,?_⟩
 . rw [<-hcs j hj]
   rw [hv] at ho;refine ho.cellAt (i * c+j) ?_;have:i * c+c<=xs.length * c:=(by rw [<-Nat.succ_mul];exact Nat.mul_le_mul_right c hil);omega
 . intro w' R' x' f' fq b hb hk hr' hn' hs hd hR
   have hgb:g≠b:=λe=>(n1 f hfm).1 (e ▸ hb);obtain ⟨m1,m2⟩:=ZfD hnd hf hn' hs hd;refine ⟨g :: (fps.set i f').flatten,.inr ⟨λh=>hne (by cases xs with | nil=>rfl | cons a l=>cases i <;> simp at h),cells,g,cap,fps.set i f',?_,by rw [List.length_set];exact hv,by rw [List.length_set,List.length_set];exact hl,rfl,λj y fy hj hfy=>?_⟩,m1,m2⟩
   . rw [List.length_set]
     exact ZaB ho hv (hk g hgb)
   . by_cases hji:j=i
     . subst hji
       rw [List.getElem?_set_self hil] at hj;obtain rfl:=Option.some.inj hj;rw [List.getElem?_set_self (List.getElem?_eq_some_iff.1 hf).1] at hfy;obtain rfl:=Option.some.inj hfy;exact ⟨cs,hcl,hcs,hr'⟩
     . rw [List.getElem?_set_ne (λh=>hji h.symm)] at hj hfy
       obtain ⟨cs2,k1,k2,k3⟩:=hat j y fy hj hfy;exact ⟨cs2,k1,k2,hR cs2 y fy (λhbf=>n2 i j f fy (λh=>hji h.symm) hf hfy b hb hbf) k3⟩
theorem Zg.storeJ {α:Type} {w:World} {e:TypeId} {c:Nat} {R:List Value->α->List Nat->Prop} {v:Value} {xs:List α} {fp:List Nat} (h:Zg w e c R v xs fp) (hnd:fp.Nodup) {i j:Nat} {x:α} (hi:xs[i]?=some x) (hj:j<c) :
 ∃ g cap cs f,v=.slice (some ⟨g,0,none⟩) xs.length cap/\g ∈ fp/\(∀ a ∈ f,a ∈ fp)/\g ∉ f/\f.Nodup/\cs.length=c/\(∀ t,t<c->w.cell? ⟨g,i * c+t,none⟩=cs[t]?)/\R cs x f /\
  ∀ (R':List Value->α->List Nat->Prop) (x':α) (u:Value) (f' fq:List Nat),R' (cs.set j u) x' f'->f'.Nodup->(∀ a ∈ f',a ∈ f\/a ∈ fq)->(∀ a ∈ fq,a ∉ fp)->(∀ cs y fy,g ∉ fy->R cs y fy->R' cs y fy) ->
   ∃ fp',Zg (w.setCell ⟨g,i * c+j,none⟩ u) e c R' v (xs.set i x') fp'/\fp'.Nodup/\∀ a ∈ fp',a ∈ fp\/a ∈ fq:=by
 have hil:i<xs.length:=(List.getElem?_eq_some_iff.1 hi).1
 rcases h with ⟨rfl,_⟩ | ⟨hne,cells,g,cap,fps,ho,hv,hl,rfl,hat⟩
 . simp at hil
 obtain ⟨f,hf⟩:∃ f,fps[i]?=some f:=⟨fps[i]'(by rw [hl];exact hil),List.getElem?_eq_getElem _⟩;obtain ⟨cs,hcl,hcs,hr⟩:=hat i x f hi hf;obtain ⟨n1,n2⟩:=Zak hnd;have hfm:=List.mem_of_getElem? hf;have hbd:i * c+c<=xs.length * c:=(by rw [<-Nat.succ_mul];exact Nat.mul_le_mul_right c hil);refine ⟨g,cap,cs,f,hv,by simp,λa ha=>List.mem_cons_of_mem _ (List.mem_flatten.2 ⟨f,hfm,ha⟩),(n1 f hfm).1,(n1 f hfm).2,hcl,λt ht=>?_,hr,?_⟩
 . rw [<-hcs t ht]
   rw [hv] at ho;exact ho.cellAt (i * c+t) (by omega)
 . intro R' x' u f' fq hr' hn' hs hd hR
   obtain ⟨m1,m2⟩:=ZfD hnd hf hn' hs hd;have ho2:=ho;rw [hv] at ho2;have sd:=ho2.stored (i * c+j) u;have hlen:cells.length=xs.length * c:=ho.1;refine ⟨g :: (fps.set i f').flatten,.inr ⟨λh=>hne (by cases xs with | nil=>rfl | cons a l=>cases i <;> simp at h),cells.set (i * c+j) u,g,cap,fps.set i f',?_,by rw [List.length_set];exact hv,by rw [List.length_set,List.length_set];exact hl,rfl,λk y fy hk hfy=>?_⟩,m1,m2⟩
   . rw [List.length_set,hv]
     exact sd.1
   . by_cases hki:k=i
     . subst hki
       rw [List.getElem?_set_self hil] at hk;obtain rfl:=Option.some.inj hk;rw [List.getElem?_set_self (List.getElem?_eq_some_iff.1 hf).1] at hfy;obtain rfl:=Option.some.inj hfy;refine ⟨cs.set j u,by rw [List.length_set];exact hcl,λt ht=>?_,hr'⟩;by_cases htj:t=j
       . subst htj
         rw [List.getElem?_set_self (by omega),List.getElem?_set_self (by omega)]
       . rw [List.getElem?_set_ne (by omega),List.getElem?_set_ne (by omega)]
         exact hcs t ht
     . rw [List.getElem?_set_ne (λh=>hki h.symm)] at hk hfy
       obtain ⟨cs2,k1,k2,k3⟩:=hat k y fy hk hfy;refine ⟨cs2,k1,λt ht=>?_,hR cs2 y fy (λhg=>(n1 fy (List.mem_of_getElem? hfy)).1 hg) k3⟩;rw [<-k2 t ht];refine List.getElem?_set_ne ?_
       rcases Nat.lt_or_gt_of_ne hki with h | h
       . have:k * c+c<=i * c:=by rw [<-Nat.succ_mul];exact Nat.mul_le_mul_right c h
         omega
       . have:i * c+c<=k * c:=by rw [<-Nat.succ_mul];exact Nat.mul_le_mul_right c h
         omega
theorem Zg.thru {α:Type} {w:World} {e:TypeId} {c:Nat} {R:List Value->α->List Nat->Prop} {v:Value} {xs:List α} {fp:List Nat} (h:Zg w e c R v xs fp) (hnd:fp.Nodup) {i:Nat} {x:α} (hi:xs[i]?=some x) :
 ∃ g cap cs f,v=.slice (some ⟨g,0,none⟩) xs.length cap/\g ∈ fp/\(∀ a ∈ f,a ∈ fp)/\g ∉ f/\f.Nodup/\cs.length=c/\(∀ j,j<c->w.cell? ⟨g,i * c+j,none⟩=cs[j]?)/\R cs x f /\
  ∀ (w':World) (R':List Value->α->List Nat->Prop) (x':α) (f' fq:List Nat),(∀ a ∈ fp,a ∉ f->w'.heap[a]?=w.heap[a]?)->R' cs x' f'->f'.Nodup->(∀ a ∈ f',a ∈ f\/a ∈ fq)->(∀ a ∈ fq,a ∉ fp) ->
   (∀ cs y fy,(∀ a ∈ fy,a ∈ fp/\a ∉ f)->R cs y fy->R' cs y fy)->∃ fp',Zg w' e c R' v (xs.set i x') fp'/\fp'.Nodup/\∀ a ∈ fp',a ∈ fp\/a ∈ fq:=by
 have hil:i<xs.length:=(List.getElem?_eq_some_iff.1 hi).1
 rcases h with ⟨rfl,_⟩ | ⟨hne,cells,g,cap,fps,ho,hv,hl,rfl,hat⟩
 . simp at hil
 obtain ⟨f,hf⟩:∃ f,fps[i]?=some f:=⟨fps[i]'(by rw [hl];exact hil),List.getElem?_eq_getElem _⟩;obtain ⟨cs,hcl,hcs,hr⟩:=hat i x f hi hf;obtain ⟨n1,n2⟩:=Zak hnd;have hfm:=List.mem_of_getElem? hf;refine ⟨g,cap,cs,f,hv,by simp,λa ha=>List.mem_cons_of_mem _ (List.mem_flatten.2 ⟨f,hfm,ha⟩),(n1 f hfm).1,(n1 f hfm).2,hcl,λj hj=>?_,hr,?_⟩
 . rw [<-hcs j hj]
   rw [hv] at ho;refine ho.cellAt (i * c+j) ?_;have:i * c+c<=xs.length * c:=(by rw [<-Nat.succ_mul];exact Nat.mul_le_mul_right c hil);omega
 . intro w' R' x' f' fq hk hr' hn' hs hd hR
   obtain ⟨m1,m2⟩:=ZfD hnd hf hn' hs hd;refine ⟨g :: (fps.set i f').flatten,.inr ⟨λh=>hne (by cases xs with | nil=>rfl | cons a l=>cases i <;> simp at h),cells,g,cap,fps.set i f',?_,by rw [List.length_set];exact hv,by rw [List.length_set,List.length_set];exact hl,rfl,λj y fy hj hfy=>?_⟩,m1,m2⟩
   . rw [List.length_set]
     exact ZaB ho hv (hk g (by simp) (n1 f hfm).1)
   . by_cases hji:j=i
     . subst hji
       rw [List.getElem?_set_self hil] at hj;obtain rfl:=Option.some.inj hj;rw [List.getElem?_set_self (List.getElem?_eq_some_iff.1 hf).1] at hfy;obtain rfl:=Option.some.inj hfy;exact ⟨cs,hcl,hcs,hr'⟩
     . rw [List.getElem?_set_ne (λh=>hji h.symm)] at hj hfy
       obtain ⟨cs2,k1,k2,k3⟩:=hat j y fy hj hfy;exact ⟨cs2,k1,k2,hR cs2 y fy (λa ha=>⟨List.mem_cons_of_mem _ (List.mem_flatten.2 ⟨fy,List.mem_of_getElem? hfy,ha⟩),λhaf=>n2 i j f fy (λh=>hji h.symm) hf hfy a haf ha⟩) k3⟩
theorem Zdy {w:World} {a:Addr} {v:Value} (h:w.cell? a=some v):w.setCell a v=w:=by
 unfold World.cell? at h
 have e:(w.setCell a v).heap=w.heap:=by
  unfold World.setCell
  apply Array.ext_getElem?
  intro i;simp only [Array.getElem?_modify];by_cases hi:a.block=i
  . subst hi
    rw [if_pos rfl]
    cases hg:w.heap[a.block]? with
    | none=>rfl
    | some o =>
     rw [hg] at h
     cases o with
     | cells c t fr =>
      simp only at h
      split at h
      . cases h
      . rename_i hsp
        simp only [Option.map_some,hsp]
        have:c.setIfInBounds a.off v=c:=by
         apply Array.ext_getElem?
         intro j;rw [Array.getElem?_setIfInBounds];by_cases hj:a.off=j
         . subst hj
           have hl:=(Array.getElem?_eq_some_iff.1 h).1;rw [if_pos rfl,if_pos hl];exact h.symm
         . simp [hj]
        simp [this]
     | _=>cases h
  . rw [if_neg hi]
 generalize hh:(w.setCell a v).heap=H at e;have e2:w.setCell a v=⟨H,w.tape,w.drawn,w.os,w.output⟩:=(by rw [<-hh];rfl);rw [e2,e]
section
structure OffB (b N:Nat) (w w':World):Prop where
 os:w'.os=w.os
 tape:w'.tape=w.tape
 output:w'.output=w.output
 size:w.heap.size<=w'.heap.size
 block:∀ k,k<N->k≠b->w'.heap[k]?=w.heap[k]?
theorem OffB.refl (b N:Nat) (w:World):OffB b N w w:=⟨rfl,rfl,rfl,Nat.le_refl _,λ_ _ _=>rfl⟩
theorem OffB.trans {b N:Nat} {u v w:World} (h:OffB b N u v) (k:OffB b N v w):OffB b N u w :=
 ⟨k.os.trans h.os,k.tape.trans h.tape,k.output.trans h.output,Nat.le_trans h.size k.size,λi hi hb=>(k.block i hi hb).trans (h.block i hi hb)⟩
theorem OffB.mono {b N N':Nat} {u v:World} (h:OffB b N u v) (hN:N'<=N):OffB b N' u v:=⟨h.os,h.tape,h.output,h.size,λk hk hb=>h.block k (Nat.lt_of_lt_of_le hk hN) hb⟩
theorem OffB.of_below {b N:Nat} {u v:World} (h:Below N u v):OffB b N u v:=⟨h.os,h.tape,h.output,h.size,λk hk _=>h.block k hk⟩
theorem OffB.drew {b N:Nat} {u v:World} (h:OffB b N u v):OffB b N u v.drew:=⟨h.os,h.tape,h.output,h.size,h.block⟩
theorem OffB.setCell {b N:Nat} {u v:World} (h:OffB b N u v) {p:Addr} (hp:N<=p.block) (x:Value):OffB b N u (v.setCell p x) :=
 h.trans ⟨rfl,rfl,rfl,by simp [World.setCell],λk hk _=>Below.heap_setCell _ _ _ _ (by omega)⟩
theorem OffB.same {b N:Nat} {u v:World} (h:OffB b N u v) {S:Nat->Prop} (hS:∀ g,S g->g<N/\g≠b):Za S u v:=⟨h.size,λg hg _=>h.block g (hS g hg).1 (hS g hg).2⟩
theorem OffB.blk {b N g:Nat} {u v:World} {cs:Array Value} {t:TypeId} (h:OffB b N u v) (hb:Blk u g cs t) (hg:g<N) (hne:g≠b):Blk v g cs t:=(h.block g hg hne).trans hb
theorem OffB.below {b N:Nat} {u v:World} (h:OffB b N u v) {M:Nat} (hM:M<=N) (hb:M<=b):Below M u v:=⟨h.os,h.tape,h.output,h.size,λk hk=>h.block k (by omega) (by omega)⟩
structure Zae {α:Type} (b:Nat) (w wr:World) (G n:Nat) (e:TypeId) (c:Nat) (O:World->List Value->α->List Nat->Prop) (es:List α) (k:Nat) (xs:List Value) (fps:List (List Nat)):Prop where
 own:wr.ownsRow G e c (.slice (some ⟨G,0,none⟩) n n) n xs
 len:fps.length=k
 nd:fps.flatten.Nodup
 rng:∀ a ∈ fps.flatten,G<a/\a<wr.heap.size
 el:∀ (i:Nat) x f,es[i]?=some x->fps[i]?=some f->∃ cs:List Value,cs.length=c/\(∀ j,j<c->xs[i * c+j]?=cs[j]?)/\O wr cs x f
 off:OffB b G w wr
 sz:G+1<=wr.heap.size
 lt:b<G
variable {α:Type} {b:Nat} {w wr:World} {G n c k:Nat} {e:TypeId} {O:World->List Value->α->List Nat->Prop} {es:List α} {xs:List Value} {fps:List (List Nat)}
theorem Zae.start {M:Array Value} (hM:M.size=n * c) (hn:n<=maxLen) (hb:b<w.heap.size):Zae b w (w.alloc (.cells M e)) w.heap.size n e c O es 0 M.toList [] :=
 ⟨World.ownsRow_lit w M n (sqR _) hn hM,rfl,by simp,λa ha=>by simp at ha,λi x f _ hf=>by simp at hf,OffB.of_below ((sqN _ _)),by rw [Zb];exact Nat.le_refl _,hb⟩
theorem Zae.step (hO:∀ w w' cs x f,O w cs x f->Zj f w w'->O w' cs x f) (h:Zae b w wr G n e c O es k xs fps) {w1 w2:World} {x:α} {cs xs':List Value} {f:List Nat} (hx:es[k]?=some x) (hb:OffB b wr.heap.size wr w1) (ho:O w1 cs x f)
 (hnd:f.Nodup) (hf:∀ a ∈ f,wr.heap.size<=a/\a<w1.heap.size) (hcl:cs.length=c) (hown:w2.ownsRow G e c (.slice (some ⟨G,0,none⟩) n n) n xs') (hgr:w1.grownBy w2 (some G))
 (hlow:∀ m,m<k * c->xs'[m]?=xs[m]?) (hself:∀ j,j<c->xs'[k * c+j]?=cs[j]?):Zae b w w2 G n e c O es (k+1) xs' (fps ++ [f]):=by
 have h1:=h.sz;have h2:=hb.size;have h3:=hgr.size;have h4:=h.lt;refine ⟨hown,by rw [List.length_append,h.len];rfl,?_,?_,?_,?_,by omega,h4⟩
 . rw [List.flatten_append,List.nodup_append]
   refine ⟨h.nd,by simpa using hnd,λa ha b hb'=>?_⟩;have:=(h.rng a ha).2;have:=(hf b (by simpa using hb')).1;omega
 . intro a ha
   rw [List.flatten_append,List.mem_append] at ha
   rcases ha with ha | ha
   . have:=h.rng a ha;omega
   . have:=hf a (by simpa using ha);omega
 . intro i y f' hy hf'
   by_cases hik:i<k
   . rw [List.getElem?_append_left (by rw [h.len];exact hik)] at hf'
     obtain ⟨cs',g1,g2,g3⟩:=h.el i y f' hy hf';refine ⟨cs',g1,λj hj=>?_,hO _ _ _ _ _ g3 (λa ha=>?_)⟩
     . rw [hlow]
       . exact g2 j hj
       . have:i * c+c<=k * c:=by rw [<-Nat.succ_mul];exact Nat.mul_le_mul_right c hik
         omega
     . have hr:=h.rng a (List.mem_flatten.2 ⟨f',List.mem_of_getElem? hf',ha⟩)
       exact (hgr.block a (by omega) (by simp;omega)).trans (hb.block a hr.2 (by omega))
   . have hil:i<k+1:=by
      have:=(List.getElem?_eq_some_iff.1 hf').1;rw [List.length_append,h.len] at this;simpa using this
     obtain rfl:i=k:=(by omega);obtain rfl:x=y:=Option.some.inj (hx.symm.trans hy);rw [List.getElem?_append_right (by rw [h.len];exact Nat.le_refl _),h.len,Nat.sub_self] at hf';simp at hf';subst hf';exact ⟨cs,hcl,hself,hO _ _ _ _ _ ho (λa ha=>by have:=hf a ha;exact hgr.block a (by omega) (by simp;omega))⟩
 . exact h.off.trans ((hb.mono (by omega)).trans ⟨hgr.os,hgr.tape,hgr.output,hgr.size,λj hj _=>hgr.block j (by omega) (by simp;omega)⟩)
theorem Zae.done (h:Zae b w wr G n e c O es n xs fps) (hn:es.length=n) (hm:n<=maxLen):∃ fp,Zg wr e c (O wr) (.slice (some ⟨G,0,none⟩) n n) es fp/\fp.Nodup/\∀ a ∈ fp,G<=a/\a<wr.heap.size:=by
 by_cases hne:es = []
 . subst hne
   exact ⟨[],.inl ⟨rfl,rfl,_,_,by rw [<-hn];rfl,hm⟩,by simp,λa ha=>by simp at ha⟩
 . refine ⟨G :: fps.flatten,.inr ⟨hne,xs,G,n,fps,?_,by rw [hn],by rw [h.len,hn],rfl,h.el⟩,?_,?_⟩
   . rw [hn]
     obtain ⟨h1,h2⟩:=h.own;refine ⟨h1,h2.imp id ?_⟩;rintro ⟨g,cap,cur,a1,a2,a3⟩;exact ⟨g,cap,cur,a1,Nat.zero_le _,a3⟩
   . rw [List.nodup_cons]
     exact ⟨λhm=>by have:=(h.rng G hm).1;omega,h.nd⟩
   . intro a ha
     have:=h.sz
     rcases List.mem_cons.1 ha with rfl | ha
     . omega
     . have:=h.rng a ha;omega
end
def wtCl (f:Ex->Nat) (c:Cl):Nat:=wtS f c.1+wtS f c.2
def wtEx:Nat->Ex->Nat
 | 0,_=>0
 | d+1,e=>e.text.size+e.mod.size+wtS (wtEx d) e.kids+wtS (wtCl (wtEx d)) e.clauses
def wtRf (r:Rf):Nat:=r.name.size
def wtFn (d:Nat) (f:Fn'):Nat:=f.name.size+wtS (wtCl (wtEx d)) f.clauses
def wtMd (d:Nat) (m:Md):Nat:=m.name.size+wtS wtRf m.exports+wtS (wtFn d) m.funs
def mapX (f:Ex->Ex):Nat->Ex->Ex
 | 0,x=>x
 | d+1,.mk k n t m ks cs=>f (.mk k n t m (ks.map (mapX f d)) (cs.map λc=>(c.1.map (mapX f d),c.2.map (mapX f d))))
def mapC (f:Ex->Ex) (d:Nat) (c:Cl):Cl:=(c.1.map (mapX f d),c.2.map (mapX f d))
def mapF (f:Ex->Ex) (d:Nat) (x:Fn'):Fn':=⟨x.name,x.arity,x.clauses.map (mapC f d)⟩
def mapM (f:Ex->Ex) (d:Nat) (m:Md):Md:=⟨m.name,m.exports,m.funs.map (mapF f d)⟩
theorem Zhf:∀ (d:Nat) (x:Ex),mapX id d x=x
 | 0,_=>rfl
 | d+1,.mk k n t m ks cs=>by
  have h1:∀ l:List Ex,l.map (mapX id d)=l:=λl=>by
   rw [List.map_congr_left (g:=id) (λy _=>Zhf d y)];simp
  show id (Ex.mk k n t m (ks.map (mapX id d)) (cs.map λc=>(c.1.map (mapX id d),c.2.map (mapX id d))))=_
  have h2:(λc:Cl=>(c.1.map (mapX id d),c.2.map (mapX id d)))=id:=funext λc=>by rw [h1,h1];rfl
  rw [h1,h2];simp
theorem ZlN (d:Nat) (c:Cl):mapC id d c=c:=by
 have h1:∀ l:List Ex,l.map (mapX id d)=l:=λl=>by
  rw [List.map_congr_left (g:=id) (λy _=>Zhf d y)];simp
 unfold mapC;rw [h1,h1]
theorem ZlO (d:Nat) (x:Fn'):mapF id d x=x:=by
 have:x.clauses.map (mapC id d)=x.clauses:=(by rw [List.map_congr_left (g:=id) (λy _=>ZlN d y)];simp);unfold mapF;rw [this]
theorem ZlP (d:Nat) (m:Md):mapM id d m=m:=by
 have:m.funs.map (mapF id d)=m.funs:=(by rw [List.map_congr_left (g:=id) (λy _=>ZlO d y)];simp);unfold mapM;rw [this]
theorem ZhU (d:Nat) (ms:List Md):ms.map (mapM id d)=ms:=by rw [List.map_congr_left (g:=id) (λy _=>ZlP d y)];simp
def fT (ft:Int->ByteArray->ByteArray->Nat->ByteArray) (x:Ex):Ex:=.mk x.kind x.n (ft x.kind x.text x.mod x.kids.length) x.mod x.kids x.clauses
def ftU (_:Int) (t _:ByteArray) (_:Nat):ByteArray:=t
theorem fT_U:fT ftU=id:=funext λx=>by cases x;rfl
theorem Zck {α:Type} {w:World} {S S':Nat->Prop} {c:Nat} {R R':List Value->α->Prop} {p:Option Addr} {n q q':Nat} {xs xs':List α}
 (hu:∀ cs x x',R cs x->R' cs x'->x=x') (h:Rows w S c R (.slice p n q) xs) (h':Rows w S' c R' (.slice p n q') xs'):xs=xs':=by
 obtain ⟨p1,c1,e1,-,-,h3⟩:=h;obtain ⟨p2,c2,e2,-,-,h3'⟩:=h';simp only [Value.slice.injEq] at e1 e2;obtain ⟨rfl,hn1,-⟩:=e1;obtain ⟨rfl,hn2,-⟩:=e2
 apply List.ext_getElem?
 intro i;by_cases hi:i<n
 . have k1:i<xs.length:=by omega
   have k2:i<xs'.length:=(by omega);obtain ⟨g,off,hp,-,-,hat⟩:=h3 (by intro e;rw [e] at k1;simp at k1);obtain ⟨g',off',hp',-,-,hat'⟩:=h3' (by intro e;rw [e] at k2;simp at k2);rw [hp] at hp';simp only [Option.some.injEq,Addr.mk.injEq,and_true] at hp';obtain ⟨rfl,rfl⟩:=hp';obtain ⟨cs,l1,a1,r1⟩:=hat i _ (List.getElem?_eq_getElem k1);obtain ⟨cs',l2,a2,r2⟩:=hat' i _ (List.getElem?_eq_getElem k2)
   have hcs:cs=cs':=by
    apply List.ext_getElem?
    intro j;by_cases hj:j<c
    . exact (a1 j hj).symm.trans (a2 j hj)
    . rw [List.getElem?_eq_none (by omega),List.getElem?_eq_none (by omega)]
   subst hcs;rw [List.getElem?_eq_getElem k1,List.getElem?_eq_getElem k2,hu cs _ _ r1 r2]
 . rw [List.getElem?_eq_none (by omega),List.getElem?_eq_none (by omega)]
theorem HCl.uniq {w:World} {S S':Nat->Prop} {R R':List Value->Ex->Prop} (hu:∀ cs x x',R cs x->R' cs x'->x=x') (cs:List Value) (c c':Cl) (h:HCl w S R cs c) (h':HCl w S' R' cs c'):c=c':=by
 obtain ⟨p,b,rfl,h1,h2⟩:=h;obtain ⟨p',b',e,h1',h2'⟩:=h';simp only [List.cons.injEq,and_true] at e;obtain ⟨rfl,rfl⟩:=e;obtain ⟨pa,ca,hp,-⟩:=id h1;obtain ⟨pb,cb,hb,-⟩:=id h2;rw [hp] at h1 h1';rw [hb] at h2 h2';exact Prod.ext (Zck hu h1 h1') (Zck hu h2 h2')
theorem HEx.uniq {w:World} {S S':Nat->Prop}:∀ {d d':Nat} (cs:List Value) (x x':Ex),HEx w S d cs x->HEx w S' d' cs x'->x=x'
 | 0,_,_,_,_,h,_=>h.elim
 | _+1,0,_,_,_,_,h=>h.elim
 | d+1,d'+1,cs,x,x',h,h'=>by
  obtain ⟨kv,cv,rfl,-,-,-,-,hk,hc⟩:=h;obtain ⟨kv',cv',e,-,-,-,-,hk',hc'⟩:=h';simp only [List.cons.injEq,Value.int.injEq,true_and,Value.string.injEq,and_true] at e;obtain ⟨e1,e2,e3,e4,rfl,rfl⟩:=e;obtain ⟨pa,ca,hp,-⟩:=id hk;obtain ⟨pb,cb,hb,-⟩:=id hc;rw [hp] at hk hk';rw [hb] at hc hc';rw [Ex.eq_iff];exact ⟨e1,e2,e3,e4,Zck (λcs x x' h h'=>HEx.uniq cs x x' h h') hk hk',Zck (λcs c c' h h'=>HCl.uniq (λcs x x' h h'=>HEx.uniq cs x x' h h') cs c c' h h') hc hc'⟩
theorem Zkz {α:Type} [SizeOf α] {l:List α} {x:α} (h:x ∈ l):SizeOf.sizeOf x<SizeOf.sizeOf l:=List.sizeOf_lt_of_mem h
theorem Zi6 {l:List Cl} {x:Cl} (h:x ∈ l):SizeOf.sizeOf x<SizeOf.sizeOf l:=List.sizeOf_lt_of_mem h
theorem ZkA (l:List Ex):1<=SizeOf.sizeOf l:=by cases l <;> simp <;> omega
theorem Zi7 (x:Ex):SizeOf.sizeOf x.kids<SizeOf.sizeOf x:=by
 obtain ⟨k,n,t,m,ks,cs⟩:=x;simp only [Ex.kids,Ex.mk.sizeOf_spec];omega
theorem Zgl (x:Ex):SizeOf.sizeOf x.clauses<SizeOf.sizeOf x:=by
 obtain ⟨k,n,t,m,ks,cs⟩:=x;simp only [Ex.clauses,Ex.mk.sizeOf_spec];omega
theorem Zgm (c:Cl):SizeOf.sizeOf c.1<SizeOf.sizeOf c/\SizeOf.sizeOf c.2<SizeOf.sizeOf c:=by
 obtain ⟨a,b⟩:=c;simp only [Prod.mk.sizeOf_spec];omega
def OCl (w:World) (O:List Value->Ex->List Nat->Prop) (cs:List Value) (c:Cl) (fp:List Nat):Prop :=
 ∃ pv bv f1 f2,cs = [pv,bv]/\fp=f1 ++ f2/\Zg w 76 6 O pv c.1 f1/\Zg w 76 6 O bv c.2 f2
def OEx (w:World):Nat->List Value->Ex->List Nat->Prop
 | 0,_,_,_=>False
 | d+1,cs,e,fp=>∃ kv cv f1 f2,cs = [.int .i64 e.kind,.int .i64 e.n,.string e.text,.string e.mod,kv,cv]/\fp=f1 ++ f2/\okI e.kind/\okI e.n/\okS e.text/\okS e.mod /\
  Zg w 76 6 (OEx w d) kv e.kids f1/\Zg w 46 2 (OCl w (OEx w d)) cv e.clauses f2
abbrev OCls (w:World) (d:Nat):List Value->Cl->List Nat->Prop:=OCl w (OEx w d)
theorem OCl.keep' {w w':World} {O O':List Value->Ex->List Nat->Prop} {cs:List Value} {c:Cl} {fp:List Nat} (h:OCl w O cs c fp) (hk:Zj fp w w') (hO:∀ cs x f,(∀ a ∈ f,a ∈ fp)->O cs x f->O' cs x f):OCl w' O' cs c fp:=by
 obtain ⟨pv,bv,f1,f2,rfl,rfl,h1,h2⟩:=h;refine ⟨pv,bv,f1,f2,rfl,rfl,h1.keep (hk.sub (λa ha=>by simp [ha])) (λcs x f _ hs=>hO cs x f (λa ha=>by simp [hs a ha])),h2.keep (hk.sub (λa ha=>by simp [ha])) (λcs x f _ hs=>hO cs x f (λa ha=>by simp [hs a ha]))⟩
theorem OEx.keep {w w':World}:∀ {d:Nat} {cs:List Value} {e:Ex} {fp:List Nat},OEx w d cs e fp->Zj fp w w'->OEx w' d cs e fp
 | 0,_,_,_,h,_=>h.elim
 | d+1,cs,e,fp,h,hk=>by
  obtain ⟨kv,cv,f1,f2,rfl,rfl,h1,h2,h3,h4,hr,hc⟩:=h;refine ⟨kv,cv,f1,f2,rfl,rfl,h1,h2,h3,h4,hr.keep (hk.sub (λa ha=>by simp [ha])) (λcs x f _ hs h=>h.keep (hk.sub (λa ha=>by simp [hs a ha]))),hc.keep (hk.sub (λa ha=>by simp [ha])) (λcs x f _ hs h=>?_)⟩;exact h.keep' (hk.sub (λa ha=>by simp [hs a ha])) (λcs x g hg h=>h.keep (hk.sub (λa ha=>by simp [hs a (hg a ha)])))
theorem OCls.keep {w w':World} {d:Nat} {cs:List Value} {c:Cl} {fp:List Nat} (h:OCl w (OEx w d) cs c fp) (hk:Zj fp w w'):OCl w' (OEx w' d) cs c fp :=
 h.keep' hk (λcs x g hg h=>h.keep (hk.sub hg))
theorem OCl.tree' {w:World} {S:Nat->Prop} {O:List Value->Ex->List Nat->Prop} {R:List Value->Ex->Prop} {cs:List Value} {c:Cl} {fp:List Nat} (h:OCl w O cs c fp) (hS:∀ a ∈ fp,S a) (hO:∀ cs x f,(∀ a ∈ f,a ∈ fp)->O cs x f->R cs x):HCl w S R cs c:=by
 obtain ⟨pv,bv,f1,f2,rfl,rfl,h1,h2⟩:=h;exact ⟨pv,bv,rfl,h1.rows (λa ha=>hS a (by simp [ha])) (λcs x f _ hs=>hO cs x f (λa ha=>by simp [hs a ha])),h2.rows (λa ha=>hS a (by simp [ha])) (λcs x f _ hs=>hO cs x f (λa ha=>by simp [hs a ha]))⟩
theorem OEx.tree {w:World} {S:Nat->Prop}:∀ {d:Nat} {cs:List Value} {e:Ex} {fp:List Nat},OEx w d cs e fp->(∀ a ∈ fp,S a)->HEx w S d cs e
 | 0,_,_,_,h,_=>h.elim
 | d+1,cs,e,fp,h,hS=>by
  obtain ⟨kv,cv,f1,f2,rfl,rfl,h1,h2,h3,h4,hr,hc⟩:=h;refine ⟨kv,cv,rfl,h1,h2,h3,h4,hr.rows (λa ha=>hS a (by simp [ha])) (λcs x f _ hs h=>h.tree (λa ha=>hS a (by simp [hs a ha]))),hc.rows (λa ha=>hS a (by simp [ha])) (λcs x f _ hs h=>?_)⟩;exact h.tree' (λa ha=>hS a (by simp [hs a ha])) (λcs x g hg h=>h.tree (λa ha=>hS a (by simp [hs a (hg a ha)])))
theorem OCls.tree {w:World} {S:Nat->Prop} {d:Nat} {cs:List Value} {c:Cl} {fp:List Nat} (h:OCl w (OEx w d) cs c fp) (hS:∀ a ∈ fp,S a):HCl w S (HEx w S d) cs c :=
 h.tree' hS (λcs x g hg h=>h.tree (λa ha=>hS a (hg a ha)))
theorem OCl.lt' {w:World} {O:List Value->Ex->List Nat->Prop} {cs:List Value} {c:Cl} {fp:List Nat} (h:OCl w O cs c fp) (hO:∀ cs x f,O cs x f->∀ a ∈ f,a<w.heap.size):∀ a ∈ fp,a<w.heap.size:=by
 obtain ⟨pv,bv,f1,f2,rfl,rfl,h1,h2⟩:=h;intro a ha
 rcases List.mem_append.1 ha with ha | ha
 . exact h1.lt hO a ha
 . exact h2.lt hO a ha
theorem OEx.lt {w:World}:∀ {d:Nat} {cs:List Value} {e:Ex} {fp:List Nat},OEx w d cs e fp->∀ a ∈ fp,a<w.heap.size
 | 0,_,_,_,h=>h.elim
 | d+1,cs,e,fp,h=>by
  obtain ⟨kv,cv,f1,f2,rfl,rfl,h1,h2,h3,h4,hr,hc⟩:=h;intro a ha
  rcases List.mem_append.1 ha with ha | ha
  . exact hr.lt (λcs x f h=>h.lt) a ha
  . exact hc.lt (λcs x f h=>h.lt' (λcs x f h=>h.lt)) a ha
theorem OEx.shape {w:World} {d:Nat} {cs:List Value} {x:Ex} {fp:List Nat} (h:OEx w d cs x fp):∃ sk sn st se p1 n1 q1 p2 n2 q2,cs = [.int .i64 sk,.int .i64 sn,.string st,.string se,.slice p1 n1 q1,.slice p2 n2 q2]:=by
 cases d with
 | zero=>exact h.elim
 | succ d =>
  obtain ⟨kv,cv,f1,f2,rfl,rfl,_,_,_,_,hr,hc⟩:=h;obtain ⟨p1,c1,rfl,_⟩:=hr.shape;obtain ⟨p2,c2,rfl,_⟩:=hc.shape;exact ⟨_,_,_,_,_,_,_,_,_,_,rfl⟩
theorem OCl.shape {w:World} {O:List Value->Ex->List Nat->Prop} {cs:List Value} {x:Cl} {fp:List Nat} (h:OCl w O cs x fp):∃ p1 n1 q1 p2 n2 q2,cs = [.slice p1 n1 q1,.slice p2 n2 q2]:=by
 obtain ⟨pv,bv,f1,f2,rfl,rfl,h1,h2⟩:=h;obtain ⟨p1,c1,rfl,_⟩:=h1.shape;obtain ⟨p2,c2,rfl,_⟩:=h2.shape;exact ⟨_,_,_,_,_,_,rfl⟩
def ORf (_:World) (_:Nat) (cs:List Value) (r:Rf) (fp:List Nat):Prop:=HRf cs r/\fp = []
def OFn (w:World) (d:Nat) (cs:List Value) (f:Fn') (fp:List Nat):Prop :=
 ∃ cv,cs = [.string f.name,.int .i64 f.arity,cv]/\okS f.name/\okI f.arity/\Zg w 46 2 (OCl w (OEx w d)) cv f.clauses fp
def OMd (w:World) (d:Nat) (cs:List Value) (m:Md) (fp:List Nat):Prop :=
 ∃ ev fv f1 f2,cs = [.string m.name,ev,fv]/\fp=f1 ++ f2/\okS m.name/\Zg w 84 2 (ORf w d) ev m.exports f1/\Zg w 59 3 (OFn w d) fv m.funs f2
theorem ORf.lt {w:World} {d:Nat} {cs:List Value} {r:Rf} {fp:List Nat} (h:ORf w d cs r fp):∀ a ∈ fp,a<w.heap.size:=by rw [h.2];simp
theorem ORf.shape {w:World} {d:Nat} {cs:List Value} {x:Rf} {fp:List Nat} (h:ORf w d cs x fp):∃ st sk,cs = [.string st,.int .i64 sk]:=by
 obtain ⟨⟨rfl,_⟩,_⟩:=h;exact ⟨_,_,rfl⟩
theorem OFn.keep {w w':World} {d:Nat} {cs:List Value} {f:Fn'} {fp:List Nat} (h:OFn w d cs f fp) (hk:Zj fp w w'):OFn w' d cs f fp:=by
 obtain ⟨cv,rfl,h1,h2,h3⟩:=h;exact ⟨cv,rfl,h1,h2,h3.keep hk (λcs x f _ hs h=>OCls.keep h (hk.sub hs))⟩
theorem OFn.tree {w:World} {S:Nat->Prop} {d:Nat} {cs:List Value} {f:Fn'} {fp:List Nat} (h:OFn w d cs f fp) (hS:∀ a ∈ fp,S a):HFn w S d cs f:=by
 obtain ⟨cv,rfl,h1,h2,h3⟩:=h;exact ⟨cv,rfl,h1,h2,h3.rows hS (λcs x f _ hs h=>OCls.tree h (λa ha=>hS a (hs a ha)))⟩
theorem OFn.lt {w:World} {d:Nat} {cs:List Value} {f:Fn'} {fp:List Nat} (h:OFn w d cs f fp):∀ a ∈ fp,a<w.heap.size:=by
 obtain ⟨cv,rfl,h1,h2,h3⟩:=h;exact h3.lt (λcs x f h=>h.lt' (λcs x f h=>h.lt))
theorem OFn.shape {w:World} {d:Nat} {cs:List Value} {x:Fn'} {fp:List Nat} (h:OFn w d cs x fp):∃ st sk p1 n1 q1,cs = [.string st,.int .i64 sk,.slice p1 n1 q1]:=by
 obtain ⟨cv,rfl,h1,h2,h3⟩:=h;obtain ⟨p1,c1,rfl,_⟩:=h3.shape;exact ⟨_,_,_,_,_,rfl⟩
theorem OMd.keep {w w':World} {d:Nat} {cs:List Value} {m:Md} {fp:List Nat} (h:OMd w d cs m fp) (hk:Zj fp w w'):OMd w' d cs m fp:=by
 obtain ⟨ev,fv,f1,f2,rfl,rfl,h1,h2,h3⟩:=h;exact ⟨ev,fv,f1,f2,rfl,rfl,h1,h2.keep (hk.sub (λa ha=>by simp [ha])) (λcs x f _ hs h=>h),h3.keep (hk.sub (λa ha=>by simp [ha])) (λcs x f _ hs h=>h.keep (hk.sub (λa ha=>by simp [hs a ha])))⟩
theorem OMd.tree {w:World} {S:Nat->Prop} {d:Nat} {cs:List Value} {m:Md} {fp:List Nat} (h:OMd w d cs m fp) (hS:∀ a ∈ fp,S a):HMd w S d cs m:=by
 obtain ⟨ev,fv,f1,f2,rfl,rfl,h1,h2,h3⟩:=h;exact ⟨ev,fv,rfl,h1,h2.rows (λa ha=>hS a (by simp [ha])) (λcs x f _ hs h=>h.1),h3.rows (λa ha=>hS a (by simp [ha])) (λcs x f _ hs h=>h.tree (λa ha=>hS a (by simp [hs a ha])))⟩
theorem OMd.lt {w:World} {d:Nat} {cs:List Value} {m:Md} {fp:List Nat} (h:OMd w d cs m fp):∀ a ∈ fp,a<w.heap.size:=by
 obtain ⟨ev,fv,f1,f2,rfl,rfl,h1,h2,h3⟩:=h;intro a ha
 rcases List.mem_append.1 ha with ha | ha
 . exact h2.lt (λcs x f h=>h.lt) a ha
 . exact h3.lt (λcs x f h=>h.lt) a ha
theorem OMd.shape {w:World} {d:Nat} {cs:List Value} {x:Md} {fp:List Nat} (h:OMd w d cs x fp):∃ st p1 n1 q1 p2 n2 q2,cs = [.string st,.slice p1 n1 q1,.slice p2 n2 q2]:=by
 obtain ⟨ev,fv,f1,f2,rfl,rfl,h1,h2,h3⟩:=h;obtain ⟨p1,c1,rfl,_⟩:=h2.shape;obtain ⟨p2,c2,rfl,_⟩:=h3.shape;exact ⟨_,_,_,_,_,_,_,rfl⟩
section
open Go.Proofs.Tryz
structure Pl where
 mod:ByteArray
 name:ByteArray
 arity:Int
 clause:Int
def wtPl (q:Pl):Nat:=q.mod.size+q.name.size
theorem Zhr (w:World) (q:Pl) (r:Nat) (hr:r<=16777216) (h0:okS q.mod) (h1:okS q.name) :
 Calls prog 6 #[.agg #[.string q.mod,.string q.name,.int .i64 q.arity,.int .i64 q.clause],.int .i64 r] w λe w'=>e=.returned (.int .i64 (leftOf r (wtPl q)))/\Bz w w':=by
 obtain ⟨m,s,n,c⟩:=q;simp only [okS,maxLen] at h0 h1;have HW:Hid (wtPl ⟨m,s,n,c⟩=m.size+s.size):=rfl;generalize wtPl ⟨m,s,n,c⟩=W at *;have BL:Hid (∀ (cs:Array Value) (t:TypeId),Bz w (w.alloc (.cells cs t))):=λcs t=>(sqN _ _);by_cases t0:r<m.size
 . have HR:Hid (leftOf r W = -1):=Zo (by rw [HW.out];omega)
   go_enter func6,ntmps6;go_wp2;go_ret;exact ⟨by rw [HR.out];rfl,BL.out _ _⟩
 . by_cases t1:r<m.size+s.size
   . have HR:Hid (leftOf r W = -1):=Zo (by rw [HW.out];omega)
     go_enter func6,ntmps6;go_wp2;go_ret;exact ⟨by rw [HR.out];rfl,BL.out _ _⟩
   . have HR:Hid (leftOf r W=r - m.size - s.size):=by
      show leftOf r W=_;rw [Zz (by rw [HW.out];omega),HW.out];omega
     go_enter func6,ntmps6;go_wp2;go_ret;exact ⟨by rw [HR.out];rfl,BL.out _ _⟩
theorem ZcX (w:World) (q:Pl) :
 Calls prog 9 #[.agg #[.string q.mod,.string q.name,.int .i64 q.arity,.int .i64 q.clause]] w λe w'=>e=.returned (.agg #[.string q.mod,.string q.name,.int .i64 q.arity,.int .i64 q.clause])/\Bz w w':=by
 obtain ⟨m,s,n,c⟩:=q;have BL:Hid (∀ (cs cs':Array Value) (t t':TypeId),Bz w ((w.alloc (.cells cs t)).alloc (.cells cs' t'))):=λcs cs' t t'=>((sqN _ _)).alloc (by simp) _
 have RB:Hid (∀ (cs cs':Array Value) (t t':TypeId),Blk (((w.alloc (.cells cs t)).alloc (.cells #[.string m,.string s,.int .i64 n,.int .i64 c] 31)).alloc (.cells cs' t')) (w.heap.size+1) #[.string m,.string s,.int .i64 n,.int .i64 c] 31):=λcs cs' t t'=>by
  have:=Blk.new (w:=w.alloc (.cells cs t)) (cs:=#[.string m,.string s,.int .i64 n,.int .i64 c]) (t:=31);rw [Zb] at this;exact this.alloc
 have BL3:Hid (∀ (cs cs' cs'':Array Value) (t t' t'':TypeId),Bz w (((w.alloc (.cells cs t)).alloc (.cells cs' t')).alloc (.cells cs'' t''))):=λcs cs' cs'' t t' t''=>(((sqN _ _)).alloc (by simp only [Zb];omega) _).alloc (by simp only [Zb];omega) _;go_enter func9,ntmps9;go_wp2_with fail;have q:=RB.out #[.string m,.string s,.int .i64 n,.int .i64 c] #[.string m,.string s,.int .i64 n,.int .i64 c] 24 31;obtain ⟨q0,q1,q2,q3⟩:=sqB4 q;exact bodyPost_ret (v:=.agg #[.string m,.string s,.int .i64 n,.int .i64 c]) (by simp [results,results9,go_sem,q0,q1,q2,q3]) rfl ⟨rfl,BL3.out _ _ _ _ _ _⟩
end
structure Pb where
 mod:ByteArray
 name:ByteArray
 arity:Int
 code:ByteArray
def HPb (cs:List Value) (q:Pb):Prop:=cs = [.string q.mod,.string q.name,.int .i64 q.arity,.string q.code]/\okS q.mod/\okS q.name/\okI q.arity/\okS q.code
theorem ZaK (cs:List Value) (q:Pb) (h:HPb cs q):∀ u ∈ cs,u.oneCell'=true:=by
 obtain ⟨rfl,-⟩:=h;intro u hu;simp only [List.mem_cons,List.not_mem_nil,or_false] at hu
 rcases hu with rfl | rfl | rfl | rfl <;> rfl
theorem HFn.deeper {w:World} {S:Nat->Prop} {d d':Nat} (hd:d<=d') {cs:List Value} {f:Fn'} (h:HFn w S d cs f):HFn w S d' cs f:=by
 have hs:Za S w w:=sqS;obtain ⟨cv,rfl,h1,h2,hc⟩:=h;exact ⟨cv,rfl,h1,h2,hc.mono hs sqj (λ_ _ _ h=>h.mono hs sqj (λ_ _=>HEx.deeper hd))⟩
theorem HMd.deeper {w:World} {S:Nat->Prop} {d d':Nat} (hd:d<=d') {cs:List Value} {m:Md} (h:HMd w S d cs m):HMd w S d' cs m:=by
 have hs:Za S w w:=sqS;obtain ⟨ev,fv,rfl,h1,he,hf⟩:=h;exact ⟨ev,fv,rfl,h1,he.mono hs sqj (λ_ _ _ h=>h),hf.mono hs sqj (λ_ _ _ h=>h.deeper hd)⟩
theorem HMd.shape {w:World} {S:Nat->Prop} {d:Nat} {cs:List Value} {m:Md} (h:HMd w S d cs m):∃ s p1 n1 q1 p2 n2 q2,cs = [.string s,.slice p1 n1 q1,.slice p2 n2 q2]:=by
 obtain ⟨ev,fv,rfl,_,⟨p1,c1,rfl,_⟩,⟨p2,c2,rfl,_⟩⟩:=h;exact ⟨_,_,_,_,_,_,_,rfl⟩
section
def preX:Nat->Ex->List Ex
 | 0,_=>[]
 | d+1,x=>x :: (x.kids.flatMap (preX d) ++ x.clauses.flatMap λc=>c.1.flatMap (preX d) ++ c.2.flatMap (preX d))
structure Mv (M M':Nat->Prop) (w w':World):Prop where
 os:w'.os=w.os
 tape:w'.tape=w.tape
 output:w'.output=w.output
 size:w.heap.size<=w'.heap.size
 block:∀ g,g<w.heap.size->¬ M g->w'.heap[g]?=w.heap[g]?
 more:∀ g,M' g->M g\/w.heap.size<=g
theorem Mv.refl (M:Nat->Prop) (w:World):Mv M M w w:=⟨rfl,rfl,rfl,Nat.le_refl _,λ_ _ _=>rfl,λ_ h=>Or.inl h⟩
theorem Mv.trans {M M' M'':Nat->Prop} {a b c:World} (h:Mv M M' a b) (k:Mv M' M'' b c):Mv M M'' a c :=
 ⟨k.os.trans h.os,k.tape.trans h.tape,k.output.trans h.output,Nat.le_trans h.size k.size,λg hg hm=>by
  refine (k.block g (Nat.lt_of_lt_of_le hg h.size) (λe=>?_)).trans (h.block g hg hm)
  rcases h.more g e with e | e
  . exact hm e
  . omega,λg hg=>by
  rcases k.more g hg with e | e
  . exact h.more g e
  . exact Or.inr (Nat.le_trans h.size e)⟩
theorem Mv.of_below {M:Nat->Prop} {a b:World} (h:Bz a b):Mv M M a b:=⟨h.os,h.tape,h.output,h.size,λg hg _=>h.block g hg,λ_ h=>Or.inl h⟩
theorem Mv.below {M M':Nat->Prop} {a b:World} {N:Nat} (h:Mv M M' a b) (hM:∀ g,M g->N<=g) (hN:N<=a.heap.size):Below N a b :=
 ⟨h.os,h.tape,h.output,h.size,λg hg=>h.block g (by omega) (λe=>by have:=hM g e;omega)⟩
theorem Mv.sameOn {M M' S:Nat->Prop} {a b:World} (h:Mv M M' a b) (hS:∀ g,S g->¬ M g):Za S a b:=⟨h.size,λg hs hg=>h.block g hg (hS g hs)⟩
theorem Mv.blk {M M':Nat->Prop} {a b:World} {g:Nat} {cs:Array Value} {t:TypeId} (h:Mv M M' a b) (hb:Blk a g cs t) (hM:¬ M g):Blk b g cs t:=(h.block g hb.lt hM).trans hb
section
variable {σ:Type}
def Runs (ok:σ->Ex->Prop) (st:σ->Ex->σ):σ->List Ex->Prop
 | _,[]=>True
 | s,x :: l=>ok s x/\Runs ok st (st s x) l
theorem Runs.append {ok:σ->Ex->Prop} {st:σ->Ex->σ}:∀ {s:σ} {a b:List Ex},Runs ok st s (a ++ b) ↔ Runs ok st s a/\Runs ok st (a.foldl st s) b
 | s,[],b=>by simp [Runs]
 | s,x :: a,b=>by simp [Runs,Runs.append (s:=st s x) (a:=a) (b:=b),and_assoc]
theorem Runs.take {ok:σ->Ex->Prop} {st:σ->Ex->σ} {s:σ} {α:Type} {f:α->List Ex} {l:List α} (k:Nat) (x:α) (h:Runs ok st s (l.flatMap f)) (hk:l[k]?=some x) :
 Runs ok st (((l.take k).flatMap f).foldl st s) (f x)/\(((l.take (k+1)).flatMap f).foldl st s)=(f x).foldl st (((l.take k).flatMap f).foldl st s):=by
 have e1:(l.take (k+1)).flatMap f=(l.take k).flatMap f ++ f x:=(by rw [List.take_add_one,hk];simp);have e2:l.flatMap f=(l.take (k+1)).flatMap f ++ (l.drop (k+1)).flatMap f:=(by rw [<-List.flatMap_append,List.take_append_drop]);rw [e2,e1,List.append_assoc,Runs.append,Runs.append] at h;exact ⟨h.2.1,by rw [e1,List.foldl_append]⟩
structure ZjG (F:FuncId) (tb:Nat) (I:World->(Nat->Prop)->σ->Prop) (ok:σ->Ex->Prop) (st:σ->Ex->σ) (S:Nat->Prop):Prop where
 off:∀ w M s,I w M s->(∀ g,S g->¬ M g)/\(∀ g,M g->g<w.heap.size)/\(∀ g,S g->g<w.heap.size)
 next:∀ w w' M s,I w M s->Bz w w'->I w' M s
 call:∀ w M s d cs x,I w M s->HEx w S d cs x->ok s x->Calls Tryz.prog F #[.agg cs.toArray,.pointer (some ⟨tb,0,none⟩)] w λe w'=>e=.returned (.tuple #[])/\∃ M',I w' M' (st s x)/\Mv M M' w w'
end
end
section
open Go.Proofs.Tryz
section
variable {σ:Type} {tb:Nat} {I:World->(Nat->Prop)->σ->Prop} {ok:σ->Ex->Prop} {st:σ->Ex->σ} {S:Nat->Prop}
abbrev FVC (tb:Nat):Value:=.func (.func 213) #[] #[.pointer (some ⟨tb,0,none⟩)]
theorem Zmx {w:World} {S:Nat->Prop} {d:Nat} {cs:List Value} {x:Ex} (h:HEx w S d cs x):∃ sk sn st se p1 n1 q1 p2 n2 q2,cs = [.int .i64 sk,.int .i64 sn,.string st,.string se,.slice p1 n1 q1,.slice p2 n2 q2]:=by
 cases d with
 | zero=>exact h.elim
 | succ d =>
  obtain ⟨kv,cv,rfl,_,_,_,_,⟨p1,c1,rfl,_⟩,⟨p2,c2,rfl,_⟩⟩:=h;exact ⟨_,_,_,_,_,_,_,_,_,_,rfl⟩
def EeTC (tb:Nat) (I:World->(Nat->Prop)->σ->Prop) (ok:σ->Ex->Prop) (st:σ->Ex->σ) (S:Nat->Prop) (d:Nat):Prop:=∀ (w:World) (M:Nat->Prop) (s:σ) (cs:List Value) (x:Ex),HEx w S d cs x->I w M s->Runs ok st s (preX d x) ->
 Calls prog 157 #[.agg cs.toArray,FVC tb] w λe w'=>e=.returned (.tuple #[])/\∃ M',I w' M' ((preX d x).foldl st s)/\Mv M M' w w'
def EoTC (tb:Nat) (I:World->(Nat->Prop)->σ->Prop) (ok:σ->Ex->Prop) (st:σ->Ex->σ) (S:Nat->Prop) (d:Nat):Prop:=∀ (w:World) (M:Nat->Prop) (s:σ) (v:Value) (es:List Ex),Rows w S 6 (HEx w S d) v es->I w M s->Runs ok st s (es.flatMap (preX d)) ->
 Calls prog 193 #[v,FVC tb] w λe w'=>e=.returned (.tuple #[])/\∃ M',I w' M' ((es.flatMap (preX d)).foldl st s)/\Mv M M' w w'
theorem Zfp (T:ZjG 213 tb I ok st S) {d:Nat} (hE:EeTC tb I ok st S d):EoTC tb I ok st S d:=by
 intro w M s v es hr hv hK;obtain ⟨p,cap,rfl,hcl,hcm,hx⟩:=hr;have hnb:=sqM hcl hcm;have HX:=hid hx;have HV:=hid hv;have HK:=hid hK;have HOF:Hid (∀ g,S g->¬ M g):=(T.off w M s hv).1;generalize hn:es.length=n at *;have HN:=hid hn;clear hx hv hK hn;go_enter func193,ntmps193;go_wp2_with fail
 go_loopw [8] (λiv wr=>∃ k:Nat,k<=n/\iv=.int .i64 k/\Hid (∃ M',I wr M' (((es.take k).flatMap (preX d)).foldl st s)/\Mv M M' w wr)) (λiv _=>n - (intOf iv).toNat)
 case atStart=>exact ⟨0,Nat.zero_le _,rfl,⟨M,by simpa using HV.out,Mv.refl _ _⟩⟩
 case round =>
  obtain ⟨k,hk,rfl,HVk⟩:=hrel;obtain ⟨Mk,ik,mk⟩:=HVk.out;have IK:=hid ik;have MK:=hid mk;clear HVk ik mk;by_cases hlt:k<n
  . obtain ⟨x,hxk⟩:=sqA (l:=es) (k:=k) HN.out hlt
    obtain ⟨g,off,rfl,hgm,hgl,hat⟩:=HX.out (sqE hxk);obtain ⟨cs,hcsl,hcs,r1⟩:=hat k x hxk;have SK:=hid (MK.out.sameOn HOF.out);have E1:=hid (r1.mono SK.out sqj);obtain ⟨c0,c1,c2,c3,c4,c5,rfl⟩:=len6 hcsl;have hge:wr.heap[g]?=w.heap[g]?:=SK.out.2 g hgm hgl;have a0:=(sqK (a:=⟨g,off+k * 6+0,none⟩) hge).trans (hcs 0 (by omega));have a1:=(sqK (a:=⟨g,off+k * 6+1,none⟩) hge).trans (hcs 1 (by omega));have a2:=(sqK (a:=⟨g,off+k * 6+2,none⟩) hge).trans (hcs 2 (by omega));have a3:=(sqK (a:=⟨g,off+k * 6+3,none⟩) hge).trans (hcs 3 (by omega));have a4:=(sqK (a:=⟨g,off+k * 6+4,none⟩) hge).trans (hcs 4 (by omega));have a5:=(sqK (a:=⟨g,off+k * 6+5,none⟩) hge).trans (hcs 5 (by omega));simp at a0 a1 a2 a3 a4 a5;obtain ⟨hr1,hj1⟩:=Runs.take k x HK.out hxk;have HR1:=hid hr1;have HJ1:=hid hj1;generalize ((es.take k).flatMap (preX d)).foldl st s=sk at *;have hki:(k:Int)<(n:Int):=(by omega);have hk0:=sqI k;clear hat hcs hcsl r1 hge hr1 hj1;obtain ⟨sk',sn,st0,se,p1,n1,q1,p2,n2,q2,hsh⟩:=Zmx E1.out;simp only [List.cons.injEq,and_true] at hsh;obtain ⟨rfl,rfl,rfl,rfl,rfl,rfl⟩:=hsh;have HBA:Hid (Bz wr (wr.alloc (.cells #[.int .i64 sk',.int .i64 sn,.string st0,.string se,.slice p1 n1 q1,.slice p2 n2 q2] 76))):=(sqN _ _);go_wp2_with fail;refine (hE _ Mk sk _ x (E1.out.mono (sqO HBA.out) sqj) (T.next _ _ _ _ IK.out HBA.out) HR1.out).mono ?_;rintro e w1 ⟨rfl,M1,i1,m1⟩;have HI1:Hid (∃ M',I w1 M' (((es.take (k+1)).flatMap (preX d)).foldl st s)/\Mv M M' w w1):=⟨M1,by rw [HJ1.out];exact i1,(MK.out.trans (Mv.of_below HBA.out)).trans m1⟩;clear i1 m1;go_wp2_with fail;exact ⟨⟨k+1,by omega,by go_num,HI1⟩,by simp [intOf];omega⟩
  . have HS:Hid (∃ M',I wr M' ((es.flatMap (preX d)).foldl st s)/\Mv M M' w wr):=⟨Mk,by
     have:=IK.out
     rwa [show es.take k=es from List.take_of_length_le (by rw [HN.out];omega)] at this,MK.out⟩
    go_wp2;go_end0;exact ⟨rfl,HS.out⟩
theorem ZhC (T:ZjG 213 tb I ok st S) {d:Nat} (hO:EoTC tb I ok st S d):EeTC tb I ok st S (d+1):=by
 intro w M s cs x h hv hK;have HEX:=hid h;obtain ⟨kv,cv,rfl,-,-,-,-,f0,f1⟩:=h;have hpre:preX (d+1) x=x :: (x.kids.flatMap (preX d) ++ x.clauses.flatMap λc=>c.1.flatMap (preX d) ++ c.2.flatMap (preX d)):=rfl;rw [hpre] at hK ⊢;simp only [List.foldl_cons,List.foldl_append];obtain ⟨hk0,hK⟩:=hK;rw [Runs.append] at hK;have HK0:=hid hk0;have HK1:=hid hK.1;have HK2:=hid hK.2;have HX0:Hid (∀ w' d',HEx w' S d' [.int .i64 x.kind,.int .i64 x.n,.string x.text,.string x.mod,kv,cv] x->True):=λ_ _ _=>trivial;have HOF:Hid ((∀ g,S g->¬ M g)/\(∀ g,M g->g<w.heap.size)):=⟨(T.off w M s hv).1,(T.off w M s hv).2.1⟩;have F0:=hid f0;obtain ⟨p,cap,rfl,-⟩:=id f0;obtain ⟨pc,capc,rfl,hcl',hcm',hxc⟩:=f1;have hnc:=sqM hcl' hcm';have HXC:=hid hxc;generalize hx1:x.kind=kx at *;generalize hx2:x.n=nx at *;generalize hx3:x.text=tx at *;generalize hx4:x.mod=mx at *;generalize hx5:x.kids=ks at *;generalize hx6:x.clauses=cl at *;clear hx1 hx2 hx3 hx4 hx5 hx6 HX0;generalize hm:cl.length=nc at *;have HNC:=hid hm;have HBA:Hid (Bz w (w.alloc (.cells #[.int .i64 kx,.int .i64 nx,.string tx,.string mx,.slice p ks.length cap,.slice pc nc capc] 76))):=(sqN _ _);have HV:=hid (T.next _ _ _ _ hv HBA.out);have bA:Hid (Blk (w.alloc (.cells #[.int .i64 kx,.int .i64 nx,.string tx,.string mx,.slice p ks.length cap,.slice pc nc capc] 76)) w.heap.size #[.int .i64 kx,.int .i64 nx,.string tx,.string mx,.slice p ks.length cap,.slice pc nc capc] 76):=Blk.new
 have nA:Hid (¬ M w.heap.size):=λe=>by have:=HOF.out.2 _ e;omega
 clear f0 hxc hm hpre hv hK hk0;go_enter func157,ntmps157;go_wp2_with fail;refine (T.call _ M s (d+1) _ x HV.out (HEX.out.mono (sqO HBA.out) sqj) HK0.out).mono ?_;rintro e w1 ⟨rfl,M1,i1,m1⟩;have HV1:=hid i1;have HM1:Hid (Mv M M1 w w1):=(Mv.of_below HBA.out).trans m1;have b1:=hid (m1.blk bA.out nA.out)
 have n1':Hid (¬ M1 w.heap.size):=λe=>by
  rcases m1.more _ e with e | e
  . exact nA.out e
  . rw [Zb] at e;omega
 have x4:=b1.out.cell 4 _ rfl;clear i1 m1 HV bA;go_wp2_with fail;refine (hO _ M1 (st s x) _ ks (Rows.mono F0.out (HM1.out.sameOn HOF.out.1) sqj (λ_ _ _ h=>h.mono (HM1.out.sameOn HOF.out.1) sqj)) HV1.out HK1.out).mono ?_;rintro e w2 ⟨rfl,M2,i2,m2⟩;have HV2:=hid i2;have HM2:=hid (HM1.out.trans m2);have b2:=hid (m2.blk b1.out n1'.out);have x5:=b2.out.cell 5 _ rfl;clear i2 m2 x4 b1 HV1 HM1 n1';generalize hs2:(ks.flatMap (preX d)).foldl st (st s x)=s2 at *;have HS2:=hid hs2;clear hs2;go_wp2_with fail
 go_loopw [16] (λiv wr=>∃ k:Nat,k<=nc/\iv=.int .i64 k/\Hid (∃ M',I wr M' (((cl.take k).flatMap λc=>c.1.flatMap (preX d) ++ c.2.flatMap (preX d)).foldl st s2)/\Mv M M' w wr)) (λiv _=>nc - (intOf iv).toNat)
 case atStart=>exact ⟨0,Nat.zero_le _,rfl,⟨M2,by simpa using HV2.out,HM2.out⟩⟩
 case round =>
  obtain ⟨k,hk,rfl,HVk⟩:=hrel;obtain ⟨Mk,ik,mk⟩:=HVk.out;have IK:=hid ik;have MK:=hid mk;clear x5 HV2 HM2 b2 HVk ik mk;by_cases hlt:k<nc
  . obtain ⟨c,hck⟩:∃ c,cl[k]?=some c:=⟨cl[k]'(by rw [HNC.out];exact hlt),List.getElem?_eq_getElem _⟩
    obtain ⟨g,off,rfl,hgm,hgl,hat⟩:=HXC.out (sqE hck);obtain ⟨cs,hcsl,hcs,pv,bv,rfl,rp,rb⟩:=hat k c hck;have SK:=hid (MK.out.sameOn HOF.out.1);have RP:=hid (Rows.mono rp SK.out sqj (λ_ _ _ h=>h.mono SK.out sqj));have RB:=hid (Rows.mono rb SK.out sqj (λ_ _ _ h=>h.mono SK.out sqj));obtain ⟨pp,capp,rfl,-⟩:=rp;obtain ⟨pb,capb,rfl,-⟩:=rb;have hge:wr.heap[g]?=w.heap[g]?:=SK.out.2 g hgm hgl;have a0:=(sqK (a:=⟨g,off+k * 2+0,none⟩) hge).trans (hcs 0 (by omega));have a1:=(sqK (a:=⟨g,off+k * 2+1,none⟩) hge).trans (hcs 1 (by omega));simp at a0 a1;obtain ⟨hr1,hj1⟩:=Runs.take k c HK2.out hck;rw [Runs.append] at hr1;rw [List.foldl_append] at hj1;generalize ((cl.take k).flatMap λc=>c.1.flatMap (preX d) ++ c.2.flatMap (preX d)).foldl st s2=sk at *;have HR1:=hid hr1.1;have HR2:=hid hr1.2;have HJ1:=hid hj1;have hki:(k:Int)<(nc:Int):=(by omega);have hk0:=sqI k;have HOK:Hid ((∀ g,S g->¬ Mk g)/\¬ Mk wr.heap.size):=⟨(T.off wr Mk sk IK.out).1,λe=>by have:=(T.off wr Mk sk IK.out).2.1 _ e;omega⟩;have HBC:Hid (Bz wr (wr.alloc (.cells #[.slice pp c.1.length capp,.slice pb c.2.length capb] 46))):=(sqN _ _);have bC:Hid (Blk (wr.alloc (.cells #[.slice pp c.1.length capp,.slice pb c.2.length capb] 46)) wr.heap.size #[.slice pp c.1.length capp,.slice pb c.2.length capb] 46):=Blk.new;clear hat hcs hcsl hge hr1 hj1;go_wp2_with fail;refine (hO _ Mk sk _ c.1 (Rows.mono RP.out (sqO HBC.out) sqj (λ_ _ _ h=>h.mono (sqO HBC.out) sqj)) (T.next _ _ _ _ IK.out HBC.out) HR1.out).mono ?_;rintro e w3 ⟨rfl,M3,i3,m3⟩;have HV3:=hid i3;have HM3:Hid (Mv Mk M3 wr w3):=(Mv.of_below HBC.out).trans m3;have b3:Blk w3 wr.heap.size #[.slice pp c.1.length capp,.slice pb c.2.length capb] 46:=m3.blk bC.out HOK.out.2;have y1:=b3.cell 1 _ rfl;clear i3 m3 bC b3 a0 a1;go_wp2_with fail;refine (hO _ M3 ((c.1.flatMap (preX d)).foldl st sk) _ c.2 (Rows.mono RB.out (HM3.out.sameOn HOK.out.1) sqj (λ_ _ _ h=>h.mono (HM3.out.sameOn HOK.out.1) sqj)) HV3.out HR2.out).mono ?_;rintro e w4 ⟨rfl,M4,i4,m4⟩;have HI4:Hid (∃ M',I w4 M' (((cl.take (k+1)).flatMap λc=>c.1.flatMap (preX d) ++ c.2.flatMap (preX d)).foldl st s2)/\Mv M M' w w4):=⟨M4,by rw [HJ1.out];exact i4,(MK.out.trans HM3.out).trans m4⟩;clear i4 m4;go_wp2_with fail;exact ⟨⟨k+1,by omega,by go_num,HI4⟩,by simp [intOf];omega⟩
  . have HS:Hid (∃ M',I wr M' ((cl.flatMap λc=>c.1.flatMap (preX d) ++ c.2.flatMap (preX d)).foldl st s2)/\Mv M M' w wr):=⟨Mk,by
     have:=IK.out
     rwa [show cl.take k=cl from List.take_of_length_le (by rw [HNC.out];omega)] at this,MK.out⟩
    go_wp2;go_end0;exact ⟨rfl,by rw [HS2.out];exact HS.out⟩
theorem Zd5 (T:ZjG 213 tb I ok st S):∀ d,EeTC tb I ok st S d
 | 0=>λw M s cs x h _ _=>h.elim
 | d+1=>ZhC T (Zfp T (Zd5 T d))
theorem ZhD (T:ZjG 213 tb I ok st S) (d:Nat):EoTC tb I ok st S d:=Zfp T (Zd5 T d)
end
end
section
open Go.Proofs.Tryz
variable {N:Nat}
theorem Zcz {d:Nat} (hE:SzC 221 (λw v e=>∃ cs,v=.agg cs.toArray/\HEx w (λg=>g<N) d cs e) (wtEx d)) :
 SzC 204 (λw v es=>Rows w (λg=>g<N) 6 (HEx w (λg=>g<N) d) v es) (wtS (wtEx d)):=by
 intro w v es left h hl;obtain ⟨p,cap,rfl,hcl,hcm,hx⟩:=h;generalize hn:es.length=n at *;have HN:=hid hn;have HX:Hid _:=hx;have hnb:=sqM hcl hcm;clear hx hn;by_cases h0:left<n
 . have hr:leftOf left (wtS (wtEx d) es) = -1:=Zo (by unfold wtS;rw [HN.out];omega)
   have HR:Hid (leftOf left (wtS (wtEx d) es) = -1):=hr;clear hr;go_enter func204,ntmps204;go_wp2;go_ret;exact ⟨by rw [HR.out];rfl,Below.refl _ _⟩
 . go_enter func204,ntmps204
   go_wp2
   go_loopw [1,5] (λlv iv wr=>∃ k r:Nat,k<=n/\iv=.int .i64 k/\lv=.int .i64 r/\Hid (r+n+((es.take k).map (wtEx d)).sum=left)/\Bz w wr) (λ_ iv _=>n - (intOf iv).toNat)
   case atStart=>exact ⟨0,left - n,Nat.zero_le _,rfl,by go_num,(by show left - n+n+_=left;simp;omega),Below.refl _ _⟩
   case round =>
    obtain ⟨k,r,hk,rfl,rfl,hrs,hb⟩:=hrel;have HB:=hid hb;by_cases hlt:k<n
    . obtain ⟨x,hxk⟩:=sqA (l:=es) (k:=k) HN.out hlt
      obtain ⟨g,off,rfl,hg,hgl,hat⟩:=HX.out (sqE hxk);obtain ⟨cs,hcl6,hcs,hex⟩:=hat k x hxk;have hex':HEx wr (λg=>g<N) d cs x:=hex.mono (sqO hb) sqj;obtain ⟨c0,c1,c2,c3,c4,c5,rfl⟩:=len6 hcl6;obtain ⟨a0,a1,a2,a3,a4,a5⟩:=sqC6 hcs (by omega);rw [<-hb.cell (p:=⟨g,_,none⟩) hgl] at a0 a1 a2 a3 a4 a5;simp at a0 a1 a2 a3 a4 a5;clear hb hcs hat hex hcl6;have hrb:r<=16777216:=(by have:=hrs.out;omega);have hst:=Ze (wtEx d) es k x hxk;have HST:=hid hst;have hle:=Zf (wtEx d) es (k+1);have HLE:=hid hle;clear hst hle;generalize hwx:wtEx d x=y at *;have HY:=hid hwx;by_cases hy:r<y
      . have hr:leftOf left (wtS (wtEx d) es) = -1:=Zo (by unfold wtS;have:=hrs.out;have:=HLE.out;have:=HST.out;rw [HN.out];omega)
        have HR:Hid (leftOf left (wtS (wtEx d) es) = -1):=hr;have hr2:leftOf r y = -1:=Zo hy;clear hr hwx;go_wp2_with (go_at_call 221;go_must (refine (hE _ _ x r ⟨_,rfl,hex'⟩ hrb).mono ?_;rintro e w1 ⟨rfl,hb1⟩;rw [HY.out,hr2];have HB1:Hid _:=hb1;clear hb1));go_ret;exact ⟨by rw [HR.out];rfl,HB.out.trans (HB1.out.mono HB.out.size)⟩
      . have hr2:leftOf r y=((r - y:Nat):Int):=Zz (by omega)
        clear hwx;go_wp2_with (go_at_call 221;go_must (refine (hE _ _ x r ⟨_,rfl,hex'⟩ hrb).mono ?_;rintro e w1 ⟨rfl,hb1⟩;rw [HY.out,hr2];have HB1:Hid _:=hb1;clear hb1));exact ⟨⟨k+1,r - y,by omega,by go_num,rfl,(by have:=hrs.out;have:=HST.out;show r - y+n+_=left;omega),HB.out.trans (HB1.out.mono HB.out.size)⟩,by simp [intOf];omega⟩
    . have hr:leftOf left (wtS (wtEx d) es)=(r:Int):=by
       have h1:=hrs.out;rw [List.take_of_length_le (by rw [HN.out];omega)] at h1;rw [Zz (by unfold wtS;rw [HN.out];omega)];unfold wtS;rw [HN.out];omega
      have HR:Hid (leftOf left (wtS (wtEx d) es)=(r:Int)):=hr;clear hr;go_wp2;go_ret;exact ⟨by rw [HR.out];rfl,HB.out⟩
theorem Zeb {d:Nat} (hE:SzC 176 (λw v e=>∃ cs,v=.agg cs.toArray/\HCl w (λg=>g<N) (HEx w (λg=>g<N) d) cs e) (wtCl (wtEx d))) :
 SzC 143 (λw v es=>Rows w (λg=>g<N) 2 (HCl w (λg=>g<N) (HEx w (λg=>g<N) d)) v es) (wtS (wtCl (wtEx d))):=by
 intro w v es left h hl;obtain ⟨p,cap,rfl,hcl,hcm,hx⟩:=h;generalize hn:es.length=n at *;have HN:=hid hn;have HX:Hid _:=hx;have hnb:=sqM hcl hcm;clear hx hn;by_cases h0:left<n
 . have hr:leftOf left (wtS (wtCl (wtEx d)) es) = -1:=Zo (by unfold wtS;rw [HN.out];omega)
   have HR:Hid (leftOf left (wtS (wtCl (wtEx d)) es) = -1):=hr;clear hr;go_enter func143,ntmps143;go_wp2;go_ret;exact ⟨by rw [HR.out];rfl,Below.refl _ _⟩
 . go_enter func143,ntmps143
   go_wp2
   go_loopw [1,5] (λlv iv wr=>∃ k r:Nat,k<=n/\iv=.int .i64 k/\lv=.int .i64 r/\Hid (r+n+((es.take k).map (wtCl (wtEx d))).sum=left)/\Bz w wr) (λ_ iv _=>n - (intOf iv).toNat)
   case atStart=>exact ⟨0,left - n,Nat.zero_le _,rfl,by go_num,(by show left - n+n+_=left;simp;omega),Below.refl _ _⟩
   case round =>
    obtain ⟨k,r,hk,rfl,rfl,hrs,hb⟩:=hrel;have HB:=hid hb;by_cases hlt:k<n
    . obtain ⟨x,hxk⟩:=sqA (l:=es) (k:=k) HN.out hlt
      obtain ⟨g,off,rfl,hg,hgl,hat⟩:=HX.out (sqE hxk);obtain ⟨cs,hcl6,hcs,hex⟩:=hat k x hxk;have hex':HCl wr (λg=>g<N) (HEx wr (λg=>g<N) d) cs x:=hex.mono (sqO hb) sqj (λ_ _=>HEx.mono (sqO hb) sqj);obtain ⟨c0,c1,rfl⟩:=len2 hcl6;obtain ⟨a0,a1⟩:=sqC2 hcs (by omega);rw [<-hb.cell (p:=⟨g,_,none⟩) hgl] at a0 a1;simp at a0 a1;clear hb hcs hat hex hcl6;have hrb:r<=16777216:=(by have:=hrs.out;omega);have hst:=Ze (wtCl (wtEx d)) es k x hxk;have HST:=hid hst;have hle:=Zf (wtCl (wtEx d)) es (k+1);have HLE:=hid hle;clear hst hle;generalize hwx:wtCl (wtEx d) x=y at *;have HY:=hid hwx;by_cases hy:r<y
      . have hr:leftOf left (wtS (wtCl (wtEx d)) es) = -1:=Zo (by unfold wtS;have:=hrs.out;have:=HLE.out;have:=HST.out;rw [HN.out];omega)
        have HR:Hid (leftOf left (wtS (wtCl (wtEx d)) es) = -1):=hr;have hr2:leftOf r y = -1:=Zo hy;clear hr hwx;go_wp2_with (go_at_call 176;go_must (refine (hE _ _ x r ⟨_,rfl,hex'⟩ hrb).mono ?_;rintro e w1 ⟨rfl,hb1⟩;rw [HY.out,hr2];have HB1:Hid _:=hb1;clear hb1));go_ret;exact ⟨by rw [HR.out];rfl,HB.out.trans (HB1.out.mono HB.out.size)⟩
      . have hr2:leftOf r y=((r - y:Nat):Int):=Zz (by omega)
        clear hwx;go_wp2_with (go_at_call 176;go_must (refine (hE _ _ x r ⟨_,rfl,hex'⟩ hrb).mono ?_;rintro e w1 ⟨rfl,hb1⟩;rw [HY.out,hr2];have HB1:Hid _:=hb1;clear hb1));exact ⟨⟨k+1,r - y,by omega,by go_num,rfl,(by have:=hrs.out;have:=HST.out;show r - y+n+_=left;omega),HB.out.trans (HB1.out.mono HB.out.size)⟩,by simp [intOf];omega⟩
    . have hr:leftOf left (wtS (wtCl (wtEx d)) es)=(r:Int):=by
       have h1:=hrs.out;rw [List.take_of_length_le (by rw [HN.out];omega)] at h1;rw [Zz (by unfold wtS;rw [HN.out];omega)];unfold wtS;rw [HN.out];omega
      have HR:Hid (leftOf left (wtS (wtCl (wtEx d)) es)=(r:Int)):=hr;clear hr;go_wp2;go_ret;exact ⟨by rw [HR.out];rfl,HB.out⟩
theorem Zkh {d:Nat} (hE:SzC 99 (λw v e=>∃ cs,v=.agg cs.toArray/\HFn w (λg=>g<N) d cs e) (wtFn d)) :
 SzC 53 (λw v es=>Rows w (λg=>g<N) 3 (HFn w (λg=>g<N) d) v es) (wtS (wtFn d)):=by
 intro w v es left h hl;obtain ⟨p,cap,rfl,hcl,hcm,hx⟩:=h;generalize hn:es.length=n at *;have HN:=hid hn;have HX:Hid _:=hx;have hnb:=sqM hcl hcm;clear hx hn;by_cases h0:left<n
 . have hr:leftOf left (wtS (wtFn d) es) = -1:=Zo (by unfold wtS;rw [HN.out];omega)
   have HR:Hid (leftOf left (wtS (wtFn d) es) = -1):=hr;clear hr;go_enter func53,ntmps53;go_wp2;go_ret;exact ⟨by rw [HR.out];rfl,Below.refl _ _⟩
 . go_enter func53,ntmps53
   go_wp2
   go_loopw [1,5] (λlv iv wr=>∃ k r:Nat,k<=n/\iv=.int .i64 k/\lv=.int .i64 r/\Hid (r+n+((es.take k).map (wtFn d)).sum=left)/\Bz w wr) (λ_ iv _=>n - (intOf iv).toNat)
   case atStart=>exact ⟨0,left - n,Nat.zero_le _,rfl,by go_num,(by show left - n+n+_=left;simp;omega),Below.refl _ _⟩
   case round =>
    obtain ⟨k,r,hk,rfl,rfl,hrs,hb⟩:=hrel;have HB:=hid hb;by_cases hlt:k<n
    . obtain ⟨x,hxk⟩:=sqA (l:=es) (k:=k) HN.out hlt
      obtain ⟨g,off,rfl,hg,hgl,hat⟩:=HX.out (sqE hxk);obtain ⟨cs,hcl6,hcs,hex⟩:=hat k x hxk;have hex':HFn wr (λg=>g<N) d cs x:=hex.mono (sqO hb) sqj;obtain ⟨c0,c1,c2,rfl⟩:=len3 hcl6;obtain ⟨a0,a1,a2⟩:=sqC3 hcs (by omega);rw [<-hb.cell (p:=⟨g,_,none⟩) hgl] at a0 a1 a2;simp at a0 a1 a2;clear hb hcs hat hex hcl6;have hrb:r<=16777216:=(by have:=hrs.out;omega);have hst:=Ze (wtFn d) es k x hxk;have HST:=hid hst;have hle:=Zf (wtFn d) es (k+1);have HLE:=hid hle;clear hst hle;generalize hwx:wtFn d x=y at *;have HY:=hid hwx;by_cases hy:r<y
      . have hr:leftOf left (wtS (wtFn d) es) = -1:=Zo (by unfold wtS;have:=hrs.out;have:=HLE.out;have:=HST.out;rw [HN.out];omega)
        have HR:Hid (leftOf left (wtS (wtFn d) es) = -1):=hr;have hr2:leftOf r y = -1:=Zo hy;clear hr hwx;go_wp2_with (go_at_call 99;go_must (refine (hE _ _ x r ⟨_,rfl,hex'⟩ hrb).mono ?_;rintro e w1 ⟨rfl,hb1⟩;rw [HY.out,hr2];have HB1:Hid _:=hb1;clear hb1));go_ret;exact ⟨by rw [HR.out];rfl,HB.out.trans (HB1.out.mono HB.out.size)⟩
      . have hr2:leftOf r y=((r - y:Nat):Int):=Zz (by omega)
        clear hwx;go_wp2_with (go_at_call 99;go_must (refine (hE _ _ x r ⟨_,rfl,hex'⟩ hrb).mono ?_;rintro e w1 ⟨rfl,hb1⟩;rw [HY.out,hr2];have HB1:Hid _:=hb1;clear hb1));exact ⟨⟨k+1,r - y,by omega,by go_num,rfl,(by have:=hrs.out;have:=HST.out;show r - y+n+_=left;omega),HB.out.trans (HB1.out.mono HB.out.size)⟩,by simp [intOf];omega⟩
    . have hr:leftOf left (wtS (wtFn d) es)=(r:Int):=by
       have h1:=hrs.out;rw [List.take_of_length_le (by rw [HN.out];omega)] at h1;rw [Zz (by unfold wtS;rw [HN.out];omega)];unfold wtS;rw [HN.out];omega
      have HR:Hid (leftOf left (wtS (wtFn d) es)=(r:Int)):=hr;clear hr;go_wp2;go_ret;exact ⟨by rw [HR.out];rfl,HB.out⟩
theorem Zki {d:Nat} (hE:SzC 98 (λw v e=>∃ cs,v=.agg cs.toArray/\HRf cs e) (wtRf)) :
 SzC 52 (λw v es=>Rows w (λg=>g<N) 2 (HRf) v es) (wtS (wtRf)):=by
 intro w v es left h hl;obtain ⟨p,cap,rfl,hcl,hcm,hx⟩:=h;generalize hn:es.length=n at *;have HN:=hid hn;have HX:Hid _:=hx;have hnb:=sqM hcl hcm;clear hx hn;by_cases h0:left<n
 . have hr:leftOf left (wtS (wtRf) es) = -1:=Zo (by unfold wtS;rw [HN.out];omega)
   have HR:Hid (leftOf left (wtS (wtRf) es) = -1):=hr;clear hr;go_enter func52,ntmps52;go_wp2;go_ret;exact ⟨by rw [HR.out];rfl,Below.refl _ _⟩
 . go_enter func52,ntmps52
   go_wp2
   go_loopw [1,5] (λlv iv wr=>∃ k r:Nat,k<=n/\iv=.int .i64 k/\lv=.int .i64 r/\Hid (r+n+((es.take k).map (wtRf)).sum=left)/\Bz w wr) (λ_ iv _=>n - (intOf iv).toNat)
   case atStart=>exact ⟨0,left - n,Nat.zero_le _,rfl,by go_num,(by show left - n+n+_=left;simp;omega),Below.refl _ _⟩
   case round =>
    obtain ⟨k,r,hk,rfl,rfl,hrs,hb⟩:=hrel;have HB:=hid hb;by_cases hlt:k<n
    . obtain ⟨x,hxk⟩:=sqA (l:=es) (k:=k) HN.out hlt
      obtain ⟨g,off,rfl,hg,hgl,hat⟩:=HX.out (sqE hxk);obtain ⟨cs,hcl6,hcs,hex⟩:=hat k x hxk;have hex':HRf cs x:=hex;obtain ⟨c0,c1,rfl⟩:=len2 hcl6;obtain ⟨a0,a1⟩:=sqC2 hcs (by omega);rw [<-hb.cell (p:=⟨g,_,none⟩) hgl] at a0 a1;simp at a0 a1;clear hb hcs hat hex hcl6;have hrb:r<=16777216:=(by have:=hrs.out;omega);have hst:=Ze (wtRf) es k x hxk;have HST:=hid hst;have hle:=Zf (wtRf) es (k+1);have HLE:=hid hle;clear hst hle;generalize hwx:wtRf x=y at *;have HY:=hid hwx;by_cases hy:r<y
      . have hr:leftOf left (wtS (wtRf) es) = -1:=Zo (by unfold wtS;have:=hrs.out;have:=HLE.out;have:=HST.out;rw [HN.out];omega)
        have HR:Hid (leftOf left (wtS (wtRf) es) = -1):=hr;have hr2:leftOf r y = -1:=Zo hy;clear hr hwx;go_wp2_with (go_at_call 98;go_must (refine (hE _ _ x r ⟨_,rfl,hex'⟩ hrb).mono ?_;rintro e w1 ⟨rfl,hb1⟩;rw [HY.out,hr2];have HB1:Hid _:=hb1;clear hb1));go_ret;exact ⟨by rw [HR.out];rfl,HB.out.trans (HB1.out.mono HB.out.size)⟩
      . have hr2:leftOf r y=((r - y:Nat):Int):=Zz (by omega)
        clear hwx;go_wp2_with (go_at_call 98;go_must (refine (hE _ _ x r ⟨_,rfl,hex'⟩ hrb).mono ?_;rintro e w1 ⟨rfl,hb1⟩;rw [HY.out,hr2];have HB1:Hid _:=hb1;clear hb1));exact ⟨⟨k+1,r - y,by omega,by go_num,rfl,(by have:=hrs.out;have:=HST.out;show r - y+n+_=left;omega),HB.out.trans (HB1.out.mono HB.out.size)⟩,by simp [intOf];omega⟩
    . have hr:leftOf left (wtS (wtRf) es)=(r:Int):=by
       have h1:=hrs.out;rw [List.take_of_length_le (by rw [HN.out];omega)] at h1;rw [Zz (by unfold wtS;rw [HN.out];omega)];unfold wtS;rw [HN.out];omega
      have HR:Hid (leftOf left (wtS (wtRf) es)=(r:Int)):=hr;clear hr;go_wp2;go_ret;exact ⟨by rw [HR.out];rfl,HB.out⟩
theorem Zlp {d:Nat} (h1:SzC 204 (λw v es=>Rows w (λg=>g<N) 6 (HEx w (λg=>g<N) d) v es) (wtS (wtEx d))) (h2:SzC 143 (λw v es=>Rows w (λg=>g<N) 2 (HCl w (λg=>g<N) (HEx w (λg=>g<N) d)) v es) (wtS (wtCl (wtEx d)))) :
 SzC 221 (λw v e=>∃ cs,v=.agg cs.toArray/\HEx w (λg=>g<N) (d+1) cs e) (wtEx (d+1)):=by
 intro w v e left h hl;obtain ⟨cs,rfl,kv,cv,rfl,hk,hn,ht,hm,hks,hcs⟩:=h;have hb0:e.text.size<=9223372036854775807:=(by have:=ht;unfold okS maxLen at this;omega);have hb1:e.mod.size<=9223372036854775807:=(by have:=hm;unfold okS maxLen at this;omega);have hal:Za (λg=>g<N) w (w.alloc (.cells #[.int .i64 e.kind,.int .i64 e.n,.string e.text,.string e.mod,kv,cv] 263)):=sqO ((sqN _ _))
 replace hks:=hks.mono hal sqj (λ_ _ _=>HEx.mono hal sqj)
 replace hcs:=hcs.mono hal sqj (λ_ _ _ h=>h.mono hal sqj (λ_ _=>HEx.mono hal sqj))
 have HW:Hid (wtEx (d+1) e=e.text.size+e.mod.size+wtS (wtEx d) e.kids+wtS (wtCl (wtEx d)) e.clauses):=rfl;generalize wtEx (d+1) e=W at *;have hx0:∃ x0:Nat,e.text.size=x0:=⟨_,rfl⟩;obtain ⟨x0,hx0⟩:=hx0;rw [hx0] at hb0;have hx1:∃ x1:Nat,e.mod.size=x1:=⟨_,rfl⟩;obtain ⟨x1,hx1⟩:=hx1;rw [hx1] at hb1;generalize hx2:wtS (wtEx d) e.kids=x2 at *;have HX2:=hid hx2;clear hx2;generalize hx3:wtS (wtCl (wtEx d)) e.clauses=x3 at *;have HX3:=hid hx3;clear hx3;by_cases t0:left<x0
 . have HR:Hid (leftOf left W = -1):=by
    have:=HW.out;show leftOf left W=_;exact Zo (by omega)
   clear HW;go_enter func221,ntmps221;go_wp2;go_ret;exact ⟨by rw [HR.out];first | rfl | (congr 2;omega) | (simp;omega),((sqN _ _))⟩
 by_cases t1:left - x0<x1
 . have HR:Hid (leftOf left W = -1):=by
    have:=HW.out;show leftOf left W=_;exact Zo (by omega)
   clear HW;go_enter func221,ntmps221;go_wp2;go_ret;exact ⟨by rw [HR.out];first | rfl | (congr 2;omega) | (simp;omega),((sqN _ _))⟩
 by_cases t2:left - x0 - x1<x2
 . have HR:Hid (leftOf left W = -1):=by
    have:=HW.out;show leftOf left W=_;exact Zo (by omega)
   have hr2:leftOf (left - x0 - x1) x2 = -1:=Zo t2;clear HW;go_enter func221,ntmps221;go_wp2_with (first | (go_at_call 204;go_must (refine (h1.at (w:=_) (v:=_) e.kids _ (left - x0 - x1) (by omega) hks (by omega)).mono ?_;rintro e w2 ⟨rfl,hb2⟩;rw [HX2.out,hr2];have HB2:Hid _:=hb2;have hk2:=(hb2.cell (p:=⟨w.heap.size,5,none⟩) (by simp)).trans (ZM _ _ _ 5 cv rfl);clear hb2)) );go_ret;exact ⟨by rw [HR.out];first | rfl | (congr 2;omega) | (simp;omega),(((sqN _ _)).trans (HB2.out.mono ((sqN _ _)).size))⟩
 by_cases t3:left - x0 - x1 - x2<x3
 . have HR:Hid (leftOf left W = -1):=by
    have:=HW.out;show leftOf left W=_;exact Zo (by omega)
   have hr2:leftOf (left - x0 - x1) x2=((left - x0 - x1 - x2:Nat):Int):=(by rw [Zz (by omega)]);have hr3:leftOf (left - x0 - x1 - x2) x3 = -1:=Zo t3;clear HW;go_enter func221,ntmps221;go_wp2_with (first | (go_at_call 143;go_must (refine (h2.at (w:=_) (v:=_) e.clauses _ (left - x0 - x1 - x2) (by omega) (hcs.mono (sqO HB2.out) sqj (λ_ _ _ h=>h.mono (sqO HB2.out) sqj (λ_ _=>HEx.mono (sqO HB2.out) sqj))) (by omega)).mono ?_;rintro e w3 ⟨rfl,hb3⟩;rw [HX3.out,hr3];have HB3:Hid _:=hb3;clear hb3)) | (go_at_call 204;go_must (refine (h1.at (w:=_) (v:=_) e.kids _ (left - x0 - x1) (by omega) hks (by omega)).mono ?_;rintro e w2 ⟨rfl,hb2⟩;rw [HX2.out,hr2];have HB2:Hid _:=hb2;have hk2:=(hb2.cell (p:=⟨w.heap.size,5,none⟩) (by simp)).trans (ZM _ _ _ 5 cv rfl);clear hb2)) );go_ret;exact ⟨by rw [HR.out];first | rfl | (congr 2;omega) | (simp;omega),((((sqN _ _)).trans (HB2.out.mono ((sqN _ _)).size)).trans (HB3.out.mono (((sqN _ _)).trans (HB2.out.mono ((sqN _ _)).size)).size))⟩
 have HR:Hid (leftOf left W=((left - x0 - x1 - x2 - x3:Nat):Int)):=by
  have:=HW.out;show leftOf left W=_;rw [Zz (by omega)];omega
 have hr2:leftOf (left - x0 - x1) x2=((left - x0 - x1 - x2:Nat):Int):=(by rw [Zz (by omega)]);have hr3:leftOf (left - x0 - x1 - x2) x3=((left - x0 - x1 - x2 - x3:Nat):Int):=(by rw [Zz (by omega)]);clear HW;go_enter func221,ntmps221;go_wp2_with (first | (go_at_call 143;go_must (refine (h2.at (w:=_) (v:=_) e.clauses _ (left - x0 - x1 - x2) (by omega) (hcs.mono (sqO HB2.out) sqj (λ_ _ _ h=>h.mono (sqO HB2.out) sqj (λ_ _=>HEx.mono (sqO HB2.out) sqj))) (by omega)).mono ?_;rintro e w3 ⟨rfl,hb3⟩;rw [HX3.out,hr3];have HB3:Hid _:=hb3;clear hb3)) | (go_at_call 204;go_must (refine (h1.at (w:=_) (v:=_) e.kids _ (left - x0 - x1) (by omega) hks (by omega)).mono ?_;rintro e w2 ⟨rfl,hb2⟩;rw [HX2.out,hr2];have HB2:Hid _:=hb2;have hk2:=(hb2.cell (p:=⟨w.heap.size,5,none⟩) (by simp)).trans (ZM _ _ _ 5 cv rfl);clear hb2)) );go_ret;exact ⟨by rw [HR.out];first | rfl | (congr 2;omega) | (simp;omega),((((sqN _ _)).trans (HB2.out.mono ((sqN _ _)).size)).trans (HB3.out.mono (((sqN _ _)).trans (HB2.out.mono ((sqN _ _)).size)).size))⟩
theorem ZeU {d:Nat} (h1:SzC 204 (λw v es=>Rows w (λg=>g<N) 6 (HEx w (λg=>g<N) d) v es) (wtS (wtEx d))) (h2:SzC 204 (λw v es=>Rows w (λg=>g<N) 6 (HEx w (λg=>g<N) d) v es) (wtS (wtEx d))) :
 SzC 176 (λw v e=>∃ cs,v=.agg cs.toArray/\HCl w (λg=>g<N) (HEx w (λg=>g<N) d) cs e) (wtCl (wtEx d)):=by
 intro w v e left h hl;obtain ⟨cs,rfl,kv,cv,rfl,hks,hcs⟩:=h;have hal:Za (λg=>g<N) w (w.alloc (.cells #[kv,cv] 220)):=sqO ((sqN _ _))
 replace hks:=hks.mono hal sqj (λ_ _ _=>HEx.mono hal sqj)
 replace hcs:=hcs.mono hal sqj (λ_ _ _=>HEx.mono hal sqj)
 have HW:Hid (wtCl (wtEx d) e=wtS (wtEx d) e.1+wtS (wtEx d) e.2):=rfl;generalize wtCl (wtEx d) e=W at *;generalize hx0:wtS (wtEx d) e.1=x0 at *;have HX0:=hid hx0;clear hx0;generalize hx1:wtS (wtEx d) e.2=x1 at *;have HX1:=hid hx1;clear hx1;by_cases t0:left<x0
 . have HR:Hid (leftOf left W = -1):=by
    have:=HW.out;show leftOf left W=_;exact Zo (by omega)
   have hr0:leftOf (left) x0 = -1:=Zo t0;clear HW;go_enter func176,ntmps176;go_wp2_with (first | (go_at_call 204;(refine (h1.at (w:=_) (v:=_) e.1 _ (left) (by omega) hks (by omega)).mono ?_;rintro e w0 ⟨rfl,hb0⟩;rw [HX0.out,hr0];have HB0:Hid _:=hb0;have hk0:=(hb0.cell (p:=⟨w.heap.size,1,none⟩) (by simp)).trans (ZM _ _ _ 1 cv rfl);clear hb0)) );go_ret;exact ⟨by rw [HR.out];first | rfl | (congr 2;omega) | (simp;omega),(((sqN _ _)).trans (HB0.out.mono ((sqN _ _)).size))⟩
 by_cases t1:left - x0<x1
 . have HR:Hid (leftOf left W = -1):=by
    have:=HW.out;show leftOf left W=_;exact Zo (by omega)
   have hr0:leftOf (left) x0=((left - x0:Nat):Int):=(by rw [Zz (by omega)]);have hr1:leftOf (left - x0) x1 = -1:=Zo t1;clear HW;go_enter func176,ntmps176;go_wp2_with (first | (go_at_call 204;(refine (h2.at (w:=_) (v:=_) e.2 _ (left - x0) (by omega) (hcs.mono (sqO HB0.out) sqj (λ_ _ _=>HEx.mono (sqO HB0.out) sqj)) (by omega)).mono ?_;rintro e w1 ⟨rfl,hb1⟩;rw [HX1.out,hr1];have HB1:Hid _:=hb1;clear hb1)) | (go_at_call 204;(refine (h1.at (w:=_) (v:=_) e.1 _ (left) (by omega) hks (by omega)).mono ?_;rintro e w0 ⟨rfl,hb0⟩;rw [HX0.out,hr0];have HB0:Hid _:=hb0;have hk0:=(hb0.cell (p:=⟨w.heap.size,1,none⟩) (by simp)).trans (ZM _ _ _ 1 cv rfl);clear hb0)) );go_ret;exact ⟨by rw [HR.out];first | rfl | (congr 2;omega) | (simp;omega),((((sqN _ _)).trans (HB0.out.mono ((sqN _ _)).size)).trans (HB1.out.mono (((sqN _ _)).trans (HB0.out.mono ((sqN _ _)).size)).size))⟩
 have HR:Hid (leftOf left W=((left - x0 - x1:Nat):Int)):=by
  have:=HW.out;show leftOf left W=_;rw [Zz (by omega)];omega
 have hr0:leftOf (left) x0=((left - x0:Nat):Int):=(by rw [Zz (by omega)]);have hr1:leftOf (left - x0) x1=((left - x0 - x1:Nat):Int):=(by rw [Zz (by omega)]);clear HW;go_enter func176,ntmps176;go_wp2_with (first | (go_at_call 204;(refine (h2.at (w:=_) (v:=_) e.2 _ (left - x0) (by omega) (hcs.mono (sqO HB0.out) sqj (λ_ _ _=>HEx.mono (sqO HB0.out) sqj)) (by omega)).mono ?_;rintro e w1 ⟨rfl,hb1⟩;rw [HX1.out,hr1];have HB1:Hid _:=hb1;clear hb1)) | (go_at_call 204;(refine (h1.at (w:=_) (v:=_) e.1 _ (left) (by omega) hks (by omega)).mono ?_;rintro e w0 ⟨rfl,hb0⟩;rw [HX0.out,hr0];have HB0:Hid _:=hb0;have hk0:=(hb0.cell (p:=⟨w.heap.size,1,none⟩) (by simp)).trans (ZM _ _ _ 1 cv rfl);clear hb0)) );go_ret;exact ⟨by rw [HR.out];first | rfl | (congr 2;omega) | (simp;omega),((((sqN _ _)).trans (HB0.out.mono ((sqN _ _)).size)).trans (HB1.out.mono (((sqN _ _)).trans (HB0.out.mono ((sqN _ _)).size)).size))⟩
theorem Zlq {d:Nat} (h1:SzC 143 (λw v es=>Rows w (λg=>g<N) 2 (HCl w (λg=>g<N) (HEx w (λg=>g<N) d)) v es) (wtS (wtCl (wtEx d)))) :
 SzC 99 (λw v e=>∃ cs,v=.agg cs.toArray/\HFn w (λg=>g<N) d cs e) (wtFn d):=by
 intro w v e left h hl;obtain ⟨cs,rfl,cv,rfl,ht,hn,hcs⟩:=h;have hb0:e.name.size<=9223372036854775807:=(by have:=ht;unfold okS maxLen at this;omega);have hal:Za (λg=>g<N) w (w.alloc (.cells #[.string e.name,.int .i64 e.arity,cv] 137)):=sqO ((sqN _ _))
 replace hcs:=hcs.mono hal sqj (λ_ _ _ h=>h.mono hal sqj (λ_ _=>HEx.mono hal sqj))
 have HW:Hid (wtFn d e=e.name.size+wtS (wtCl (wtEx d)) e.clauses):=rfl;generalize wtFn d e=W at *;have hx0:∃ x0:Nat,e.name.size=x0:=⟨_,rfl⟩;obtain ⟨x0,hx0⟩:=hx0;rw [hx0] at hb0;generalize hx1:wtS (wtCl (wtEx d)) e.clauses=x1 at *;have HX1:=hid hx1;clear hx1;by_cases t0:left<x0
 . have HR:Hid (leftOf left W = -1):=by
    have:=HW.out;show leftOf left W=_;exact Zo (by omega)
   clear HW;go_enter func99,ntmps99;go_wp2;go_ret;exact ⟨by rw [HR.out];first | rfl | (congr 2;omega) | (simp;omega),((sqN _ _))⟩
 by_cases t1:left - x0<x1
 . have HR:Hid (leftOf left W = -1):=by
    have:=HW.out;show leftOf left W=_;exact Zo (by omega)
   have hr1:leftOf (left - x0) x1 = -1:=Zo t1;clear HW;go_enter func99,ntmps99;go_wp2_with (first | (go_at_call 143;go_must (refine (h1.at (w:=_) (v:=_) e.clauses _ (left - x0) (by omega) hcs (by omega)).mono ?_;rintro e w1 ⟨rfl,hb1⟩;rw [HX1.out,hr1];have HB1:Hid _:=hb1;clear hb1)) );go_ret;exact ⟨by rw [HR.out];first | rfl | (congr 2;omega) | (simp;omega),(((sqN _ _)).trans (HB1.out.mono ((sqN _ _)).size))⟩
 have HR:Hid (leftOf left W=((left - x0 - x1:Nat):Int)):=by
  have:=HW.out;show leftOf left W=_;rw [Zz (by omega)];omega
 have hr1:leftOf (left - x0) x1=((left - x0 - x1:Nat):Int):=(by rw [Zz (by omega)]);clear HW;go_enter func99,ntmps99;go_wp2_with (first | (go_at_call 143;go_must (refine (h1.at (w:=_) (v:=_) e.clauses _ (left - x0) (by omega) hcs (by omega)).mono ?_;rintro e w1 ⟨rfl,hb1⟩;rw [HX1.out,hr1];have HB1:Hid _:=hb1;clear hb1)) );go_ret;exact ⟨by rw [HR.out];first | rfl | (congr 2;omega) | (simp;omega),(((sqN _ _)).trans (HB1.out.mono ((sqN _ _)).size))⟩
theorem Zlr {d:Nat}  :
 SzC 98 (λw v e=>∃ cs,v=.agg cs.toArray/\HRf cs e) (wtRf):=by
 intro w v e left h hl;obtain ⟨cs,rfl,rfl,ht,hn⟩:=h;have hb0:e.name.size<=9223372036854775807:=(by have:=ht;unfold okS maxLen at this;omega);have HW:Hid (wtRf e=e.name.size):=rfl;generalize wtRf e=W at *;have hx0:∃ x0:Nat,e.name.size=x0:=⟨_,rfl⟩;obtain ⟨x0,hx0⟩:=hx0;rw [hx0] at hb0;by_cases t0:left<x0
 . have HR:Hid (leftOf left W = -1):=by
    have:=HW.out;show leftOf left W=_;exact Zo (by omega)
   clear HW;go_enter func98,ntmps98;go_wp2;go_ret;exact ⟨by rw [HR.out];first | rfl | (congr 2;omega) | (simp;omega),((sqN _ _))⟩
 have HR:Hid (leftOf left W=((left - x0:Nat):Int)):=by
  have:=HW.out;show leftOf left W=_;rw [Zz (by omega)];omega
 clear HW;go_enter func98,ntmps98;go_wp2;go_ret;exact ⟨by rw [HR.out];first | rfl | (congr 2;omega) | (simp;omega),((sqN _ _))⟩
theorem ZhQ {d:Nat} (h1:SzC 52 (λw v es=>Rows w (λg=>g<N) 2 (HRf) v es) (wtS (wtRf))) (h2:SzC 53 (λw v es=>Rows w (λg=>g<N) 3 (HFn w (λg=>g<N) d) v es) (wtS (wtFn d))) :
 SzC 16 (λw v e=>∃ cs,v=.agg cs.toArray/\HMd w (λg=>g<N) d cs e) (wtMd d):=by
 intro w v e left h hl;obtain ⟨cs,rfl,kv,cv,rfl,ht,hks,hcs⟩:=h;have hb0:e.name.size<=9223372036854775807:=(by have:=ht;unfold okS maxLen at this;omega);have hal:Za (λg=>g<N) w (w.alloc (.cells #[.string e.name,kv,cv] 42)):=sqO ((sqN _ _))
 replace hks:=hks.mono hal sqj (λ_ _ _ h=>h)
 replace hcs:=hcs.mono hal sqj (λ_ _ _ h=>h.mono hal sqj)
 have HW:Hid (wtMd d e=e.name.size+wtS wtRf e.exports+wtS (wtFn d) e.funs):=rfl;generalize wtMd d e=W at *;have hx0:∃ x0:Nat,e.name.size=x0:=⟨_,rfl⟩;obtain ⟨x0,hx0⟩:=hx0;rw [hx0] at hb0;generalize hx1:wtS wtRf e.exports=x1 at *;have HX1:=hid hx1;clear hx1;generalize hx2:wtS (wtFn d) e.funs=x2 at *;have HX2:=hid hx2;clear hx2;by_cases t0:left<x0
 . have HR:Hid (leftOf left W = -1):=by
    have:=HW.out;show leftOf left W=_;exact Zo (by omega)
   clear HW;go_enter func16,ntmps16;go_wp2;go_ret;exact ⟨by rw [HR.out];first | rfl | (congr 2;omega) | (simp;omega),((sqN _ _))⟩
 by_cases t1:left - x0<x1
 . have HR:Hid (leftOf left W = -1):=by
    have:=HW.out;show leftOf left W=_;exact Zo (by omega)
   have hr1:leftOf (left - x0) x1 = -1:=Zo t1;clear HW;go_enter func16,ntmps16;go_wp2_with (first | (go_at_call 52;go_must (refine (h1.at (w:=_) (v:=_) e.exports _ (left - x0) (by omega) hks (by omega)).mono ?_;rintro e w1 ⟨rfl,hb1⟩;rw [HX1.out,hr1];have HB1:Hid _:=hb1;have hk1:=(hb1.cell (p:=⟨w.heap.size,2,none⟩) (by simp)).trans (ZM _ _ _ 2 cv rfl);clear hb1)) );go_ret;exact ⟨by rw [HR.out];first | rfl | (congr 2;omega) | (simp;omega),(((sqN _ _)).trans (HB1.out.mono ((sqN _ _)).size))⟩
 by_cases t2:left - x0 - x1<x2
 . have HR:Hid (leftOf left W = -1):=by
    have:=HW.out;show leftOf left W=_;exact Zo (by omega)
   have hr1:leftOf (left - x0) x1=((left - x0 - x1:Nat):Int):=(by rw [Zz (by omega)]);have hr2:leftOf (left - x0 - x1) x2 = -1:=Zo t2;clear HW;go_enter func16,ntmps16;go_wp2_with (first | (go_at_call 53;go_must (refine (h2.at (w:=_) (v:=_) e.funs _ (left - x0 - x1) (by omega) (hcs.mono (sqO HB1.out) sqj (λ_ _ _ h=>h.mono (sqO HB1.out) sqj)) (by omega)).mono ?_;rintro e w2 ⟨rfl,hb2⟩;rw [HX2.out,hr2];have HB2:Hid _:=hb2;clear hb2)) | (go_at_call 52;go_must (refine (h1.at (w:=_) (v:=_) e.exports _ (left - x0) (by omega) hks (by omega)).mono ?_;rintro e w1 ⟨rfl,hb1⟩;rw [HX1.out,hr1];have HB1:Hid _:=hb1;have hk1:=(hb1.cell (p:=⟨w.heap.size,2,none⟩) (by simp)).trans (ZM _ _ _ 2 cv rfl);clear hb1)) );go_ret;exact ⟨by rw [HR.out];first | rfl | (congr 2;omega) | (simp;omega),((((sqN _ _)).trans (HB1.out.mono ((sqN _ _)).size)).trans (HB2.out.mono (((sqN _ _)).trans (HB1.out.mono ((sqN _ _)).size)).size))⟩
 have HR:Hid (leftOf left W=((left - x0 - x1 - x2:Nat):Int)):=by
  have:=HW.out;show leftOf left W=_;rw [Zz (by omega)];omega
 have hr1:leftOf (left - x0) x1=((left - x0 - x1:Nat):Int):=(by rw [Zz (by omega)]);have hr2:leftOf (left - x0 - x1) x2=((left - x0 - x1 - x2:Nat):Int):=(by rw [Zz (by omega)]);clear HW;go_enter func16,ntmps16;go_wp2_with (first | (go_at_call 53;go_must (refine (h2.at (w:=_) (v:=_) e.funs _ (left - x0 - x1) (by omega) (hcs.mono (sqO HB1.out) sqj (λ_ _ _ h=>h.mono (sqO HB1.out) sqj)) (by omega)).mono ?_;rintro e w2 ⟨rfl,hb2⟩;rw [HX2.out,hr2];have HB2:Hid _:=hb2;clear hb2)) | (go_at_call 52;go_must (refine (h1.at (w:=_) (v:=_) e.exports _ (left - x0) (by omega) hks (by omega)).mono ?_;rintro e w1 ⟨rfl,hb1⟩;rw [HX1.out,hr1];have HB1:Hid _:=hb1;have hk1:=(hb1.cell (p:=⟨w.heap.size,2,none⟩) (by simp)).trans (ZM _ _ _ 2 cv rfl);clear hb1)) );go_ret;exact ⟨by rw [HR.out];first | rfl | (congr 2;omega) | (simp;omega),((((sqN _ _)).trans (HB1.out.mono ((sqN _ _)).size)).trans (HB2.out.mono (((sqN _ _)).trans (HB1.out.mono ((sqN _ _)).size)).size))⟩
theorem ZcA:∀ d,SzC 221 (λw v e=>∃ cs,v=.agg cs.toArray/\HEx w (λg=>g<N) d cs e) (wtEx d)
 | 0=>λw v x left ⟨_,_,h⟩ _=>h.elim
 | d+1=>Zlp (Zcz (ZcA d)) (Zeb (ZeU (Zcz (ZcA d)) (Zcz (ZcA d))))
theorem Zf8 (d:Nat):SzC 143 (λw v es=>Rows w (λg=>g<N) 2 (HCl w (λg=>g<N) (HEx w (λg=>g<N) d)) v es) (wtS (wtCl (wtEx d))) :=
 Zeb (ZeU (Zcz (ZcA d)) (Zcz (ZcA d)))
theorem Zg1 (d:Nat):SzC 16 (λw v m=>∃ cs,v=.agg cs.toArray/\HMd w (λg=>g<N) d cs m) (wtMd d) :=
 ZhQ (Zki (d:=0) (Zlr (d:=0))) (Zkh (Zlq (Zf8 d)))
end
section
open Go.Proofs.Tryz
section
variable {N:Nat}
theorem Zg2 {d:Nat} (hE:SzC 16 (λw v e=>∃ cs,v=.agg cs.toArray/\HMd w (λg=>g<N) d cs e) (wtMd d)) :
 SzC 5 (λw v es=>Rows w (λg=>g<N) 3 (HMd w (λg=>g<N) d) v es) (wtS (wtMd d)):=by
 intro w v es left h hl;obtain ⟨p,cap,rfl,hcl,hcm,hx⟩:=h;generalize hn:es.length=n at *;have HN:=hid hn;have HX:Hid _:=hx;have hnb:=sqM hcl hcm;clear hx hn;by_cases h0:left<n
 . have hr:leftOf left (wtS (wtMd d) es) = -1:=Zo (by unfold wtS;rw [HN.out];omega)
   have HR:=hid hr;clear hr;go_enter func5,ntmps5;go_wp2;go_ret;exact ⟨by rw [HR.out];rfl,Below.refl _ _⟩
 . go_enter func5,ntmps5
   go_wp2
   go_loopw [1,5] (λlv iv wr=>∃ k r:Nat,k<=n/\iv=.int .i64 k/\lv=.int .i64 r/\Hid (r+n+((es.take k).map (wtMd d)).sum=left)/\Bz w wr) (λ_ iv _=>n - (intOf iv).toNat)
   case atStart=>exact ⟨0,left - n,Nat.zero_le _,rfl,by go_num,(by show left - n+n+_=left;simp;omega),Below.refl _ _⟩
   case round =>
    obtain ⟨k,r,hk,rfl,rfl,hrs,hb⟩:=hrel;have HB:=hid hb;by_cases hlt:k<n
    . obtain ⟨x,hxk⟩:=sqA (l:=es) (k:=k) HN.out hlt
      obtain ⟨g,off,rfl,hg,hgl,hat⟩:=HX.out (sqE hxk);obtain ⟨cs,hcl6,hcs,hex⟩:=hat k x hxk;have hex':HMd wr (λg=>g<N) d cs x:=hex.mono (sqO hb) sqj;obtain ⟨c0,c1,c2,rfl⟩:=len3 hcl6;obtain ⟨a0,a1,a2⟩:=sqC3 hcs (by omega);rw [<-hb.cell (p:=⟨g,_,none⟩) hgl] at a0 a1 a2;simp at a0 a1 a2;clear hb hcs hat hex hcl6;have hrb:r<=16777216:=(by have:=hrs.out;omega);have hst:=Ze (wtMd d) es k x hxk;have HST:=hid hst;have hle:=Zf (wtMd d) es (k+1);have HLE:=hid hle;clear hst hle;generalize hwx:wtMd d x=y at *;have HY:=hid hwx;by_cases hy:r<y
      . have hr:leftOf left (wtS (wtMd d) es) = -1:=Zo (by unfold wtS;have:=hrs.out;have:=HLE.out;have:=HST.out;rw [HN.out];omega)
        have HR:=hid hr;have hr2:leftOf r y = -1:=Zo hy;clear hr hwx;go_wp2_with (go_at_call 16;go_must (refine (hE _ _ x r ⟨_,rfl,hex'⟩ hrb).mono ?_;rintro e w1 ⟨rfl,hb1⟩;rw [HY.out,hr2];have HB1:Hid _:=hb1;clear hb1));go_ret;exact ⟨by rw [HR.out];rfl,HB.out.trans (HB1.out.mono HB.out.size)⟩
      . have hr2:leftOf r y=((r - y:Nat):Int):=Zz (by omega)
        clear hwx;go_wp2_with (go_at_call 16;go_must (refine (hE _ _ x r ⟨_,rfl,hex'⟩ hrb).mono ?_;rintro e w1 ⟨rfl,hb1⟩;rw [HY.out,hr2];have HB1:Hid _:=hb1;clear hb1));exact ⟨⟨k+1,r - y,by omega,by go_num,rfl,(by have:=hrs.out;have:=HST.out;show r - y+n+_=left;omega),HB.out.trans (HB1.out.mono HB.out.size)⟩,by simp [intOf];omega⟩
    . have hr:leftOf left (wtS (wtMd d) es)=(r:Int):=by
       have h1:=hrs.out;rw [List.take_of_length_le (by rw [HN.out];omega)] at h1;rw [Zz (by unfold wtS;rw [HN.out];omega)];unfold wtS;rw [HN.out];omega
      have HR:=hid hr;clear hr;go_wp2;go_ret;exact ⟨by rw [HR.out];rfl,HB.out⟩
theorem Zf9 (d:Nat):SzC 5 (λw v es=>Rows w (λg=>g<N) 3 (HMd w (λg=>g<N) d) v es) (wtS (wtMd d)):=Zg2 (Zg1 d)
end
end
section
open Go.Proofs.Tryz
theorem ZcB {d:Nat} (hE:EqC 228 (λw v e=>∃ cs,v=.agg cs.toArray/\HEx w All d cs e)) :
 EqC 219 (λw v es=>Rows w All 6 (HEx w All d) v es):=by
 intro w v1 v2 es h1 h2;obtain ⟨p,cap,rfl,hcl,hcm,hx⟩:=h1;obtain ⟨q,cap',rfl,hcl',hcm',hy⟩:=h2;generalize hn:es.length=n at *;have HN:=hid hn;have HX:Hid _:=hx;have HY:Hid _:=hy;have hnb:=sqM hcl hcm;clear hx hy hn;go_enter func219,ntmps219;go_wp2
 go_loopw [5] (λiv wr=>∃ k:Nat,k<=n/\iv=.int .i64 k/\Bz w wr) (λiv _=>n - (intOf iv).toNat)
 case atStart=>exact ⟨0,Nat.zero_le _,rfl,Below.refl _ _⟩
 case round =>
  obtain ⟨k,hk,rfl,hb⟩:=hrel;have HB:=hid hb;by_cases hlt:k<n
  . obtain ⟨x,hxk⟩:=sqA (l:=es) (k:=k) HN.out hlt
    have hne:es≠[]:=(sqE hxk);obtain ⟨g,off,rfl,_,hgl,hat⟩:=HX.out hne;obtain ⟨g',off',rfl,_,hgl',hat'⟩:=HY.out hne;obtain ⟨cs,hcl6,hcs,hex⟩:=hat k x hxk;obtain ⟨cs',hcl6',hcs',hex'⟩:=hat' k x hxk;have E1:∀ w',Za All wr w'->HEx w' All d cs x:=λw' hw=>hex.mono (Za.trans (sqO hb) hw) sqj;have E2:∀ w',Za All wr w'->HEx w' All d cs' x:=λw' hw=>hex'.mono (Za.trans (sqO hb) hw) sqj;obtain ⟨c0,c1,c2,c3,c4,c5,rfl⟩:=len6 hcl6;obtain ⟨d0,d1,d2,d3,d4,d5,rfl⟩:=len6 hcl6';have a0:=hcs 0 (by omega);have b0:=hcs' 0 (by omega);have a1:=hcs 1 (by omega);have b1:=hcs' 1 (by omega);have a2:=hcs 2 (by omega);have b2:=hcs' 2 (by omega);have a3:=hcs 3 (by omega);have b3:=hcs' 3 (by omega);have a4:=hcs 4 (by omega);have b4:=hcs' 4 (by omega);have a5:=hcs 5 (by omega);have b5:=hcs' 5 (by omega);rw [<-hb.cell (p:=⟨g,_,none⟩) hgl] at a0 a1 a2 a3 a4 a5;rw [<-hb.cell (p:=⟨g',_,none⟩) hgl'] at b0 b1 b2 b3 b4 b5;simp at a0 a1 a2 a3 a4 a5 b0 b1 b2 b3 b4 b5;clear hb hcs hat hex hcl6 hcs' hat' hex' hcl6' hne;go_wp2
    go_region_with ((go_at_call 228;refine (hE _ _ _ x ⟨_,rfl,E1 _ (by exact sqS)⟩ ⟨_,rfl,E2 _ (by exact sqS)⟩).mono ?_;rintro e w1 ⟨rfl,hb1⟩;have HB1:Hid _:=hb1;clear hb1))
    all_goals go_wp2
    all_goals
     have hbe:Bz w w1:=by
      refine Below.trans ?_ (HB1.out.mono (by exact HB.out.size))
      repeat (first | exact HB.out | apply Below.drew)
     exact ⟨⟨k+1,by omega,by go_num,hbe⟩,by simp [intOf];omega⟩
  . go_wp2
    go_ret;exact ⟨rfl,HB.out⟩
theorem Zec {d:Nat} (hE:EqC 197 (λw v e=>∃ cs,v=.agg cs.toArray/\HCl w All (HEx w All d) cs e)) :
 EqC 162 (λw v es=>Rows w All 2 (HCl w All (HEx w All d)) v es):=by
 intro w v1 v2 es h1 h2;obtain ⟨p,cap,rfl,hcl,hcm,hx⟩:=h1;obtain ⟨q,cap',rfl,hcl',hcm',hy⟩:=h2;generalize hn:es.length=n at *;have HN:=hid hn;have HX:Hid _:=hx;have HY:Hid _:=hy;have hnb:=sqM hcl hcm;clear hx hy hn;go_enter func162,ntmps162;go_wp2
 go_loopw [5] (λiv wr=>∃ k:Nat,k<=n/\iv=.int .i64 k/\Bz w wr) (λiv _=>n - (intOf iv).toNat)
 case atStart=>exact ⟨0,Nat.zero_le _,rfl,Below.refl _ _⟩
 case round =>
  obtain ⟨k,hk,rfl,hb⟩:=hrel;have HB:=hid hb;by_cases hlt:k<n
  . obtain ⟨x,hxk⟩:=sqA (l:=es) (k:=k) HN.out hlt
    have hne:es≠[]:=(sqE hxk);obtain ⟨g,off,rfl,_,hgl,hat⟩:=HX.out hne;obtain ⟨g',off',rfl,_,hgl',hat'⟩:=HY.out hne;obtain ⟨cs,hcl6,hcs,hex⟩:=hat k x hxk;obtain ⟨cs',hcl6',hcs',hex'⟩:=hat' k x hxk;have E1:∀ w',Za All wr w'->HCl w' All (HEx w' All d) cs x:=λw' hw=>hex.mono (Za.trans (sqO hb) hw) sqj (λ_ _=>HEx.mono (Za.trans (sqO hb) hw) sqj);have E2:∀ w',Za All wr w'->HCl w' All (HEx w' All d) cs' x:=λw' hw=>hex'.mono (Za.trans (sqO hb) hw) sqj (λ_ _=>HEx.mono (Za.trans (sqO hb) hw) sqj);obtain ⟨c0,c1,rfl⟩:=len2 hcl6;obtain ⟨d0,d1,rfl⟩:=len2 hcl6';have a0:=hcs 0 (by omega);have b0:=hcs' 0 (by omega);have a1:=hcs 1 (by omega);have b1:=hcs' 1 (by omega);rw [<-hb.cell (p:=⟨g,_,none⟩) hgl] at a0 a1;rw [<-hb.cell (p:=⟨g',_,none⟩) hgl'] at b0 b1;simp at a0 a1 b0 b1;clear hb hcs hat hex hcl6 hcs' hat' hex' hcl6' hne;go_wp2
    go_region_with ((go_at_call 197;refine (hE _ _ _ x ⟨_,rfl,E1 _ (by exact sqS)⟩ ⟨_,rfl,E2 _ (by exact sqS)⟩).mono ?_;rintro e w1 ⟨rfl,hb1⟩;have HB1:Hid _:=hb1;clear hb1))
    all_goals go_wp2
    all_goals
     have hbe:Bz w w1:=by
      refine Below.trans ?_ (HB1.out.mono (by exact HB.out.size))
      repeat (first | exact HB.out | apply Below.drew)
     exact ⟨⟨k+1,by omega,by go_num,hbe⟩,by simp [intOf];omega⟩
  . go_wp2
    go_ret;exact ⟨rfl,HB.out⟩
theorem Zkj {d:Nat} (hE:EqC 123 (λw v e=>∃ cs,v=.agg cs.toArray/\HFn w All d cs e)) :
 EqC 78 (λw v es=>Rows w All 3 (HFn w All d) v es):=by
 intro w v1 v2 es h1 h2;obtain ⟨p,cap,rfl,hcl,hcm,hx⟩:=h1;obtain ⟨q,cap',rfl,hcl',hcm',hy⟩:=h2;generalize hn:es.length=n at *;have HN:=hid hn;have HX:Hid _:=hx;have HY:Hid _:=hy;have hnb:=sqM hcl hcm;clear hx hy hn;go_enter func78,ntmps78;go_wp2
 go_loopw [5] (λiv wr=>∃ k:Nat,k<=n/\iv=.int .i64 k/\Bz w wr) (λiv _=>n - (intOf iv).toNat)
 case atStart=>exact ⟨0,Nat.zero_le _,rfl,Below.refl _ _⟩
 case round =>
  obtain ⟨k,hk,rfl,hb⟩:=hrel;have HB:=hid hb;by_cases hlt:k<n
  . obtain ⟨x,hxk⟩:=sqA (l:=es) (k:=k) HN.out hlt
    have hne:es≠[]:=(sqE hxk);obtain ⟨g,off,rfl,_,hgl,hat⟩:=HX.out hne;obtain ⟨g',off',rfl,_,hgl',hat'⟩:=HY.out hne;obtain ⟨cs,hcl6,hcs,hex⟩:=hat k x hxk;obtain ⟨cs',hcl6',hcs',hex'⟩:=hat' k x hxk;have E1:∀ w',Za All wr w'->HFn w' All d cs x:=λw' hw=>hex.mono (Za.trans (sqO hb) hw) sqj;have E2:∀ w',Za All wr w'->HFn w' All d cs' x:=λw' hw=>hex'.mono (Za.trans (sqO hb) hw) sqj;obtain ⟨c0,c1,c2,rfl⟩:=len3 hcl6;obtain ⟨d0,d1,d2,rfl⟩:=len3 hcl6';have a0:=hcs 0 (by omega);have b0:=hcs' 0 (by omega);have a1:=hcs 1 (by omega);have b1:=hcs' 1 (by omega);have a2:=hcs 2 (by omega);have b2:=hcs' 2 (by omega);rw [<-hb.cell (p:=⟨g,_,none⟩) hgl] at a0 a1 a2;rw [<-hb.cell (p:=⟨g',_,none⟩) hgl'] at b0 b1 b2;simp at a0 a1 a2 b0 b1 b2;clear hb hcs hat hex hcl6 hcs' hat' hex' hcl6' hne;go_wp2
    go_region_with ((go_at_call 123;refine (hE _ _ _ x ⟨_,rfl,E1 _ (by exact sqS)⟩ ⟨_,rfl,E2 _ (by exact sqS)⟩).mono ?_;rintro e w1 ⟨rfl,hb1⟩;have HB1:Hid _:=hb1;clear hb1))
    all_goals go_wp2
    all_goals
     have hbe:Bz w w1:=by
      refine Below.trans ?_ (HB1.out.mono (by exact HB.out.size))
      repeat (first | exact HB.out | apply Below.drew)
     exact ⟨⟨k+1,by omega,by go_num,hbe⟩,by simp [intOf];omega⟩
  . go_wp2
    go_ret;exact ⟨rfl,HB.out⟩
theorem Zkk {d:Nat} (hE:EqC 122 (λw v e=>∃ cs,v=.agg cs.toArray/\HRf cs e)) :
 EqC 77 (λw v es=>Rows w All 2 (HRf) v es):=by
 intro w v1 v2 es h1 h2;obtain ⟨p,cap,rfl,hcl,hcm,hx⟩:=h1;obtain ⟨q,cap',rfl,hcl',hcm',hy⟩:=h2;generalize hn:es.length=n at *;have HN:=hid hn;have HX:Hid _:=hx;have HY:Hid _:=hy;have hnb:=sqM hcl hcm;clear hx hy hn;go_enter func77,ntmps77;go_wp2
 go_loopw [5] (λiv wr=>∃ k:Nat,k<=n/\iv=.int .i64 k/\Bz w wr) (λiv _=>n - (intOf iv).toNat)
 case atStart=>exact ⟨0,Nat.zero_le _,rfl,Below.refl _ _⟩
 case round =>
  obtain ⟨k,hk,rfl,hb⟩:=hrel;have HB:=hid hb;by_cases hlt:k<n
  . obtain ⟨x,hxk⟩:=sqA (l:=es) (k:=k) HN.out hlt
    have hne:es≠[]:=(sqE hxk);obtain ⟨g,off,rfl,_,hgl,hat⟩:=HX.out hne;obtain ⟨g',off',rfl,_,hgl',hat'⟩:=HY.out hne;obtain ⟨cs,hcl6,hcs,hex⟩:=hat k x hxk;obtain ⟨cs',hcl6',hcs',hex'⟩:=hat' k x hxk;have E1:∀ w',Za All wr w'->HRf cs x:=λw' hw=>hex;have E2:∀ w',Za All wr w'->HRf cs' x:=λw' hw=>hex';obtain ⟨c0,c1,rfl⟩:=len2 hcl6;obtain ⟨d0,d1,rfl⟩:=len2 hcl6';have a0:=hcs 0 (by omega);have b0:=hcs' 0 (by omega);have a1:=hcs 1 (by omega);have b1:=hcs' 1 (by omega);rw [<-hb.cell (p:=⟨g,_,none⟩) hgl] at a0 a1;rw [<-hb.cell (p:=⟨g',_,none⟩) hgl'] at b0 b1;simp at a0 a1 b0 b1;clear hb hcs hat hex hcl6 hcs' hat' hex' hcl6' hne;go_wp2
    go_region_with ((go_at_call 122;refine (hE _ _ _ x ⟨_,rfl,E1 _ (by exact sqS)⟩ ⟨_,rfl,E2 _ (by exact sqS)⟩).mono ?_;rintro e w1 ⟨rfl,hb1⟩;have HB1:Hid _:=hb1;clear hb1))
    all_goals go_wp2
    all_goals
     have hbe:Bz w w1:=by
      refine Below.trans ?_ (HB1.out.mono (by exact HB.out.size))
      repeat (first | exact HB.out | apply Below.drew)
     exact ⟨⟨k+1,by omega,by go_num,hbe⟩,by simp [intOf];omega⟩
  . go_wp2
    go_ret;exact ⟨rfl,HB.out⟩
theorem Zls {d:Nat} (h0:EqC 219 (λw v es=>Rows w All 6 (HEx w All d) v es)) (h1:EqC 162 (λw v es=>Rows w All 2 (HCl w All (HEx w All d)) v es)) :
 EqC 228 (λw v e=>∃ cs,v=.agg cs.toArray/\HEx w All (d+1) cs e):=by
 intro w v1 v2 e i1 i2;obtain ⟨cs,rfl,kv,cv,rfl,p1,p2,p3,p4,f0,f1⟩:=i1;obtain ⟨cs,rfl,kv',cv',rfl,p1',p2',p3',p4',f0',f1'⟩:=i2;have hal:Bz w ((w.alloc (.cells #[.int .i64 e.kind,.int .i64 e.n,.string e.text,.string e.mod,kv,cv] 76)).alloc (.cells #[.int .i64 e.kind,.int .i64 e.n,.string e.text,.string e.mod,kv',cv'] 76)):=((sqN _ _)).alloc (by simp) _;have HA:=hid hal;have g0:∀ w',Za All w w'->Rows w' All 6 (HEx w' All d) kv e.kids:=λw' hw=>f0.mono (hw) sqj (λ_ _ _=>HEx.mono (hw) sqj);have g0':∀ w',Za All w w'->Rows w' All 6 (HEx w' All d) kv' e.kids:=λw' hw=>f0'.mono (hw) sqj (λ_ _ _=>HEx.mono (hw) sqj);have g1:∀ w',Za All w w'->Rows w' All 2 (HCl w' All (HEx w' All d)) cv e.clauses:=λw' hw=>f1.mono (hw) sqj (λ_ _ _ h=>h.mono (hw) sqj (λ_ _=>HEx.mono (hw) sqj));have g1':∀ w',Za All w w'->Rows w' All 2 (HCl w' All (HEx w' All d)) cv' e.clauses:=λw' hw=>f1'.mono (hw) sqj (λ_ _ _ h=>h.mono (hw) sqj (λ_ _=>HEx.mono (hw) sqj));clear hal f0 f0' f1 f1';go_enter func228,ntmps228;go_wp2_with (first | (go_at_call 162;(refine (h1 _ _ _ e.clauses (g1 _ (sqO (HA.out.trans (HB0.out.mono HA.out.size)))) (g1' _ (sqO (HA.out.trans (HB0.out.mono HA.out.size))))).mono ?_;rintro e w1 ⟨rfl,hb1⟩;have HB1:Hid _:=hb1;clear hb1)) | (go_at_call 219;(refine (h0 _ _ _ e.kids (g0 _ (sqO HA.out)) (g0' _ (sqO HA.out))).mono ?_;rintro e w0 ⟨rfl,hb0⟩;have HB0:Hid _:=hb0;have k0:=(hb0.cell (p:=⟨w.heap.size,5,none⟩) (by simp only [Zb];omega)).trans ((sqK (a:=⟨w.heap.size,5,none⟩) (Below.heap_alloc _ _ _ (by simp))).trans (ZM _ _ _ 5 cv rfl));have m0:=(hb0.cell (p:=⟨(w.alloc (.cells #[.int .i64 e.kind,.int .i64 e.n,.string e.text,.string e.mod,kv,cv] 76)).heap.size,5,none⟩) (by simp)).trans (ZM _ _ _ 5 cv' rfl);simp only [Zb] at m0;clear hb0)));go_ret;exact ⟨rfl,((HA.out.trans (HB0.out.mono HA.out.size)).trans (HB1.out.mono (HA.out.trans (HB0.out.mono HA.out.size)).size))⟩
theorem ZeV {d:Nat} (h0:EqC 219 (λw v es=>Rows w All 6 (HEx w All d) v es)) (h1:EqC 219 (λw v es=>Rows w All 6 (HEx w All d) v es)) :
 EqC 197 (λw v e=>∃ cs,v=.agg cs.toArray/\HCl w All (HEx w All d) cs e):=by
 intro w v1 v2 e i1 i2;obtain ⟨cs,rfl,kv,cv,rfl,f0,f1⟩:=i1;obtain ⟨cs,rfl,kv',cv',rfl,f0',f1'⟩:=i2;have hal:Bz w ((w.alloc (.cells #[kv,cv] 46)).alloc (.cells #[kv',cv'] 46)):=((sqN _ _)).alloc (by simp) _;have HA:=hid hal;have g0:∀ w',Za All w w'->Rows w' All 6 (HEx w' All d) kv e.1:=λw' hw=>f0.mono (hw) sqj (λ_ _ _=>HEx.mono (hw) sqj);have g0':∀ w',Za All w w'->Rows w' All 6 (HEx w' All d) kv' e.1:=λw' hw=>f0'.mono (hw) sqj (λ_ _ _=>HEx.mono (hw) sqj);have g1:∀ w',Za All w w'->Rows w' All 6 (HEx w' All d) cv e.2:=λw' hw=>f1.mono (hw) sqj (λ_ _ _=>HEx.mono (hw) sqj);have g1':∀ w',Za All w w'->Rows w' All 6 (HEx w' All d) cv' e.2:=λw' hw=>f1'.mono (hw) sqj (λ_ _ _=>HEx.mono (hw) sqj);clear hal f0 f0' f1 f1';go_enter func197,ntmps197;go_wp2_with (first | (go_at_call 219;(refine (h1 _ _ _ e.2 (g1 _ (sqO (HA.out.trans (HB0.out.mono HA.out.size)))) (g1' _ (sqO (HA.out.trans (HB0.out.mono HA.out.size))))).mono ?_;rintro e w1 ⟨rfl,hb1⟩;have HB1:Hid _:=hb1;clear hb1)) | (go_at_call 219;(refine (h0 _ _ _ e.1 (g0 _ (sqO HA.out)) (g0' _ (sqO HA.out))).mono ?_;rintro e w0 ⟨rfl,hb0⟩;have HB0:Hid _:=hb0;have k0:=(hb0.cell (p:=⟨w.heap.size,1,none⟩) (by simp only [Zb];omega)).trans ((sqK (a:=⟨w.heap.size,1,none⟩) (Below.heap_alloc _ _ _ (by simp))).trans (ZM _ _ _ 1 cv rfl));have m0:=(hb0.cell (p:=⟨(w.alloc (.cells #[kv,cv] 46)).heap.size,1,none⟩) (by simp)).trans (ZM _ _ _ 1 cv' rfl);simp only [Zb] at m0;clear hb0)));go_ret;exact ⟨rfl,((HA.out.trans (HB0.out.mono HA.out.size)).trans (HB1.out.mono (HA.out.trans (HB0.out.mono HA.out.size)).size))⟩
theorem Zlt {d:Nat} (h0:EqC 162 (λw v es=>Rows w All 2 (HCl w All (HEx w All d)) v es)) :
 EqC 123 (λw v e=>∃ cs,v=.agg cs.toArray/\HFn w All d cs e):=by
 intro w v1 v2 e i1 i2;obtain ⟨cs,rfl,cv,rfl,p1,p2,f0⟩:=i1;obtain ⟨cs,rfl,cv',rfl,p1',p2',f0'⟩:=i2;have hal:Bz w ((w.alloc (.cells #[.string e.name,.int .i64 e.arity,cv] 59)).alloc (.cells #[.string e.name,.int .i64 e.arity,cv'] 59)):=((sqN _ _)).alloc (by simp) _;have HA:=hid hal;have g0:∀ w',Za All w w'->Rows w' All 2 (HCl w' All (HEx w' All d)) cv e.clauses:=λw' hw=>f0.mono (hw) sqj (λ_ _ _ h=>h.mono (hw) sqj (λ_ _=>HEx.mono (hw) sqj));have g0':∀ w',Za All w w'->Rows w' All 2 (HCl w' All (HEx w' All d)) cv' e.clauses:=λw' hw=>f0'.mono (hw) sqj (λ_ _ _ h=>h.mono (hw) sqj (λ_ _=>HEx.mono (hw) sqj));clear hal f0 f0';go_enter func123,ntmps123;go_wp2_with (first | (go_at_call 162;(refine (h0 _ _ _ e.clauses (g0 _ (sqO HA.out)) (g0' _ (sqO HA.out))).mono ?_;rintro e w0 ⟨rfl,hb0⟩;have HB0:Hid _:=hb0;clear hb0)));go_ret;exact ⟨rfl,(HA.out.trans (HB0.out.mono HA.out.size))⟩
theorem Zlu {d:Nat}  :
 EqC 122 (λw v e=>∃ cs,v=.agg cs.toArray/\HRf cs e):=by
 intro w v1 v2 e i1 i2;obtain ⟨cs,rfl,rfl,p1,p2⟩:=i1;obtain ⟨cs,rfl,rfl,p1',p2'⟩:=i2;go_enter func122,ntmps122;go_wp2;go_ret;exact ⟨rfl,((sqN _ _)).alloc (by simp) _⟩
theorem ZhR {d:Nat} (h0:EqC 77 (λw v es=>Rows w All 2 (HRf) v es)) (h1:EqC 78 (λw v es=>Rows w All 3 (HFn w All d) v es)) :
 EqC 34 (λw v e=>∃ cs,v=.agg cs.toArray/\HMd w All d cs e):=by
 intro w v1 v2 e i1 i2;obtain ⟨cs,rfl,kv,cv,rfl,p1,f0,f1⟩:=i1;obtain ⟨cs,rfl,kv',cv',rfl,p1',f0',f1'⟩:=i2;have hal:Bz w ((w.alloc (.cells #[.string e.name,kv,cv] 63)).alloc (.cells #[.string e.name,kv',cv'] 63)):=((sqN _ _)).alloc (by simp) _;have HA:=hid hal;have g0:∀ w',Za All w w'->Rows w' All 2 HRf kv e.exports:=λw' hw=>f0.mono (hw) sqj (λ_ _ _ h=>h);have g0':∀ w',Za All w w'->Rows w' All 2 HRf kv' e.exports:=λw' hw=>f0'.mono (hw) sqj (λ_ _ _ h=>h);have g1:∀ w',Za All w w'->Rows w' All 3 (HFn w' All d) cv e.funs:=λw' hw=>f1.mono (hw) sqj (λ_ _ _ h=>h.mono (hw) sqj);have g1':∀ w',Za All w w'->Rows w' All 3 (HFn w' All d) cv' e.funs:=λw' hw=>f1'.mono (hw) sqj (λ_ _ _ h=>h.mono (hw) sqj);clear hal f0 f0' f1 f1';go_enter func34,ntmps34;go_wp2_with (first | (go_at_call 78;(refine (h1 _ _ _ e.funs (g1 _ (sqO (HA.out.trans (HB0.out.mono HA.out.size)))) (g1' _ (sqO (HA.out.trans (HB0.out.mono HA.out.size))))).mono ?_;rintro e w1 ⟨rfl,hb1⟩;have HB1:Hid _:=hb1;clear hb1)) | (go_at_call 77;(refine (h0 _ _ _ e.exports (g0 _ (sqO HA.out)) (g0' _ (sqO HA.out))).mono ?_;rintro e w0 ⟨rfl,hb0⟩;have HB0:Hid _:=hb0;have k0:=(hb0.cell (p:=⟨w.heap.size,2,none⟩) (by simp only [Zb];omega)).trans ((sqK (a:=⟨w.heap.size,2,none⟩) (Below.heap_alloc _ _ _ (by simp))).trans (ZM _ _ _ 2 cv rfl));have m0:=(hb0.cell (p:=⟨(w.alloc (.cells #[.string e.name,kv,cv] 63)).heap.size,2,none⟩) (by simp)).trans (ZM _ _ _ 2 cv' rfl);simp only [Zb] at m0;clear hb0)));go_ret;exact ⟨rfl,((HA.out.trans (HB0.out.mono HA.out.size)).trans (HB1.out.mono (HA.out.trans (HB0.out.mono HA.out.size)).size))⟩
theorem ZcC:∀ d,EqC 228 (λw v e=>∃ cs,v=.agg cs.toArray/\HEx w All d cs e)
 | 0=>λw v v' x ⟨_,_,h⟩ _=>h.elim
 | d+1=>Zls (ZcB (ZcC d)) (Zec (ZeV (ZcB (ZcC d)) (ZcB (ZcC d))))
theorem Zga (d:Nat):EqC 162 (λw v es=>Rows w All 2 (HCl w All (HEx w All d)) v es) :=
 Zec (ZeV (ZcB (ZcC d)) (ZcB (ZcC d)))
theorem Zg3 (d:Nat):EqC 34 (λw v m=>∃ cs,v=.agg cs.toArray/\HMd w All d cs m) :=
 ZhR (Zkk (d:=0) (Zlu (d:=0))) (Zkj (Zlt (Zga d)))
theorem Zg4 {d:Nat} (hE:EqC 34 (λw v e=>∃ cs,v=.agg cs.toArray/\HMd w All d cs e)) :
 EqC 11 (λw v es=>Rows w All 3 (HMd w All d) v es):=by
 intro w v1 v2 es h1 h2;obtain ⟨p,cap,rfl,hcl,hcm,hx⟩:=h1;obtain ⟨q,cap',rfl,hcl',hcm',hy⟩:=h2;generalize hn:es.length=n at *;have HN:=hid hn;have HX:Hid _:=hx;have HY:Hid _:=hy;have hnb:=sqM hcl hcm;clear hx hy hn;go_enter func11,ntmps11;go_wp2
 go_loopw [5] (λiv wr=>∃ k:Nat,k<=n/\iv=.int .i64 k/\Bz w wr) (λiv _=>n - (intOf iv).toNat)
 case atStart=>exact ⟨0,Nat.zero_le _,rfl,Below.refl _ _⟩
 case round =>
  obtain ⟨k,hk,rfl,hb⟩:=hrel;have HB:=hid hb;by_cases hlt:k<n
  . obtain ⟨x,hxk⟩:=sqA (l:=es) (k:=k) HN.out hlt
    have hne:es≠[]:=(sqE hxk);obtain ⟨g,off,rfl,_,hgl,hat⟩:=HX.out hne;obtain ⟨g',off',rfl,_,hgl',hat'⟩:=HY.out hne;obtain ⟨cs,hcl6,hcs,hex⟩:=hat k x hxk;obtain ⟨cs',hcl6',hcs',hex'⟩:=hat' k x hxk;have E1:∀ w',Za All wr w'->HMd w' All d cs x:=λw' hw=>hex.mono (Za.trans (sqO hb) hw) sqj;have E2:∀ w',Za All wr w'->HMd w' All d cs' x:=λw' hw=>hex'.mono (Za.trans (sqO hb) hw) sqj;obtain ⟨c0,c1,c2,rfl⟩:=len3 hcl6;obtain ⟨d0,d1,d2,rfl⟩:=len3 hcl6';have a0:=hcs 0 (by omega);have b0:=hcs' 0 (by omega);have a1:=hcs 1 (by omega);have b1:=hcs' 1 (by omega);have a2:=hcs 2 (by omega);have b2:=hcs' 2 (by omega);rw [<-hb.cell (p:=⟨g,_,none⟩) hgl] at a0 a1 a2;rw [<-hb.cell (p:=⟨g',_,none⟩) hgl'] at b0 b1 b2;simp at a0 a1 a2 b0 b1 b2;clear hb hcs hat hex hcl6 hcs' hat' hex' hcl6' hne;go_wp2
    go_region_with ((go_at_call 34;refine (hE _ _ _ x ⟨_,rfl,E1 _ (by exact sqS)⟩ ⟨_,rfl,E2 _ (by exact sqS)⟩).mono ?_;rintro e w1 ⟨rfl,hb1⟩;have HB1:Hid _:=hb1;clear hb1))
    all_goals go_wp2
    all_goals
     have hbe:Bz w w1:=by
      refine Below.trans ?_ (HB1.out.mono (by exact HB.out.size))
      repeat (first | exact HB.out | apply Below.drew)
     exact ⟨⟨k+1,by omega,by go_num,hbe⟩,by simp [intOf];omega⟩
  . go_wp2
    go_ret;exact ⟨rfl,HB.out⟩
theorem Zbd (d:Nat):EqC 11 (λw v es=>Rows w All 3 (HMd w All d) v es):=Zg4 (Zg3 d)
theorem ZbY {d:Nat} (hE:ToO 222 (λw v e=>∃ cs,v=.agg cs.toArray/\HEx w All d cs e) (λw v e fp=>∃ cs,v=.agg cs.toArray/\OEx w d cs e fp) (wtEx d)) :
 ToO 208 (λw v es=>Rows w All 6 (HEx w All d) v es) (λw v es fp=>Zg w 76 6 (OEx w d) v es fp) (wtS (wtEx d)):=by
 intro w v es h hwt;obtain ⟨p,cap,rfl,hcl,hcm,hx⟩:=h;generalize hn:es.length=n at *;have HN:=hid hn;have HX:Hid _:=hx;have hnb:n<=16777216:=(by unfold wtS at hwt;omega);have HWT:=hid hwt;clear hx hn hwt;obtain ⟨M,hM,hmk⟩:=Za0 (t:=44) (e:=76) (c:=6) underlying44 (by kernel_rfl) w n hnb;have HO:Hid (Made w (w.alloc (.cells M 76)) w.heap.size n 76 6 (λw=>OEx w d) es 0 M.toList []):=Made.start hM (by unfold maxLen;omega)
 try unfold Bz
 generalize hG:w.heap.size=G at *;have HG:=hid hG;go_enter func208,ntmps208;go_wp2
 go_loopw [4] (λiv wr=>∃ (k:Nat) (xs:List Value) (fps:List (List Nat)),k<=n/\iv=.int .i64 k/\Hid (Made w wr G n 76 6 (λw=>OEx w d) es k xs fps)) (λiv _=>n - (intOf iv).toNat)
 case atStart=>exact ⟨0,M.toList,[],Nat.zero_le _,rfl,HO⟩
 case round =>
  obtain ⟨k,xs,fps,hk,rfl,HM⟩:=hrel;by_cases hlt:k<n
  . obtain ⟨x,hxk⟩:=sqA (l:=es) (k:=k) HN.out hlt
    obtain ⟨g,off,rfl,hg,hgl,hat⟩:=HX.out (sqE hxk);obtain ⟨cs,hcl6,hcs,hex⟩:=hat k x hxk;have hbw:Below w.heap.size w wr:=(by rw [HG.out];exact HM.out.below);have hex':∀ w',Za All wr w'->HEx w' All d cs x:=λw' hw=>hex.mono (Za.trans (sqO hbw) hw) sqj;obtain ⟨z0,z1,z2,z3,z4,z5,rfl⟩:=len6 hcl6;obtain ⟨a0,a1,a2,a3,a4,a5⟩:=sqC6 hcs (by omega);rw [<-hbw.cell (p:=⟨g,_,none⟩) (by show g<w.heap.size;rw [HG.out];exact hgl)] at a0 a1 a2 a3 a4 a5;simp at a0 a1 a2 a3 a4 a5
    have hwx:wtEx d x<=16777216:=by
     have h1:=HWT.out;have h2:=Ze (wtEx d) es k x hxk;have h3:=Zf (wtEx d) es (k+1);unfold wtS at h1;omega
    clear hbw hcs hat hex hcl6;go_wp2_with (go_at_call 222;go_must (refine (hE _ _ x ⟨_,rfl,hex' _ (by exact sqS)⟩ hwx).mono ?_;rintro e w1 ⟨u,fp,rfl,⟨cs',rfl,hx1⟩,hnd,hrg,hb1⟩;obtain ⟨sk,sn,st,se,p1,n1,q1,p2,n2,q2,hsh⟩:=hx1.shape;subst hsh;have HB1:=hid hb1;have HX1:=hid hx1;have HND:Hid fp.Nodup:=hnd;have HRG:=hid hrg;have o1:=HM.out.own.kept (ZQ (r:=none) hb1) (Or.inr (by simp [Value.ownBlock]));have HO1:=hid o1;have f0:=o1.frozenAt (k * 6);obtain ⟨y0,g0⟩:=Zl o1 (k * 6) (by omega);have f1:=o1.frozenAt (k * 6+1);obtain ⟨y1,g1⟩:=Zl o1 (k * 6+1) (by omega);have f2:=o1.frozenAt (k * 6+2);obtain ⟨y2,g2⟩:=Zl o1 (k * 6+2) (by omega);have f3:=o1.frozenAt (k * 6+3);obtain ⟨y3,g3⟩:=Zl o1 (k * 6+3) (by omega);have f4:=o1.frozenAt (k * 6+4);obtain ⟨y4,g4⟩:=Zl o1 (k * 6+4) (by omega);have f5:=o1.frozenAt (k * 6+5);obtain ⟨y5,g5⟩:=Zl o1 (k * 6+5) (by omega);clear o1 hb1 hx1 hnd hrg));have sd:=Zi4 HO1.out (k * 6) (.int .i64 sk) (.int .i64 sn) (.string st) (.string se) (.slice p1 n1 q1) (.slice p2 n2 q2);have hlen:xs.length=n * 6:=HO1.out.1;exact ⟨⟨k+1,_,_,by omega,by go_num,HM.out.step (λw w' cs x f h hk=>h.keep hk) hxk HB1.out HX1.out HND.out HRG.out rfl sd.1 sd.2 (λm hm=>Ze3 hm) (λj hj=>Zgi (by omega) j hj)⟩,by simp [intOf];omega⟩
  . obtain rfl:k=n:=by omega
    obtain ⟨fp,r1,r2,r3⟩:=HM.out.done HN.out (by unfold maxLen;omega);have R1:=hid r1;have R2:Hid (fp.Nodup/\∀ a ∈ fp,G<=a/\a<wr.heap.size):=⟨r2,r3⟩;clear r1 r2 r3;go_wp2;go_ret;exact ⟨_,fp,rfl,R1.out,R2.out.1,R2.out.2,HM.out.below⟩
theorem Zdt {d:Nat} (hE:ToO 182 (λw v e=>∃ cs,v=.agg cs.toArray/\HCl w All (HEx w All d) cs e) (λw v e fp=>∃ cs,v=.agg cs.toArray/\OCls w d cs e fp) (wtCl (wtEx d))) :
 ToO 149 (λw v es=>Rows w All 2 (HCl w All (HEx w All d)) v es) (λw v es fp=>Zg w 46 2 (OCls w d) v es fp) (wtS (wtCl (wtEx d))):=by
 intro w v es h hwt;obtain ⟨p,cap,rfl,hcl,hcm,hx⟩:=h;generalize hn:es.length=n at *;have HN:=hid hn;have HX:Hid _:=hx;have hnb:n<=16777216:=(by unfold wtS at hwt;omega);have HWT:=hid hwt;clear hx hn hwt;obtain ⟨M,hM,hmk⟩:=Za0 (t:=57) (e:=46) (c:=2) underlying57 (by kernel_rfl) w n hnb;have HO:Hid (Made w (w.alloc (.cells M 46)) w.heap.size n 46 2 (λw=>OCls w d) es 0 M.toList []):=Made.start hM (by unfold maxLen;omega)
 try unfold Bz
 generalize hG:w.heap.size=G at *;have HG:=hid hG;go_enter func149,ntmps149;go_wp2
 go_loopw [4] (λiv wr=>∃ (k:Nat) (xs:List Value) (fps:List (List Nat)),k<=n/\iv=.int .i64 k/\Hid (Made w wr G n 46 2 (λw=>OCls w d) es k xs fps)) (λiv _=>n - (intOf iv).toNat)
 case atStart=>exact ⟨0,M.toList,[],Nat.zero_le _,rfl,HO⟩
 case round =>
  obtain ⟨k,xs,fps,hk,rfl,HM⟩:=hrel;by_cases hlt:k<n
  . obtain ⟨x,hxk⟩:=sqA (l:=es) (k:=k) HN.out hlt
    obtain ⟨g,off,rfl,hg,hgl,hat⟩:=HX.out (sqE hxk);obtain ⟨cs,hcl6,hcs,hex⟩:=hat k x hxk;have hbw:Below w.heap.size w wr:=(by rw [HG.out];exact HM.out.below);have hex':∀ w',Za All wr w'->HCl w' All (HEx w' All d) cs x:=λw' hw=>hex.mono (Za.trans (sqO hbw) hw) sqj (λ_ _=>HEx.mono (Za.trans (sqO hbw) hw) sqj);obtain ⟨z0,z1,rfl⟩:=len2 hcl6;obtain ⟨a0,a1⟩:=sqC2 hcs (by omega);rw [<-hbw.cell (p:=⟨g,_,none⟩) (by show g<w.heap.size;rw [HG.out];exact hgl)] at a0 a1;simp at a0 a1
    have hwx:wtCl (wtEx d) x<=16777216:=by
     have h1:=HWT.out;have h2:=Ze (wtCl (wtEx d)) es k x hxk;have h3:=Zf (wtCl (wtEx d)) es (k+1);unfold wtS at h1;omega
    clear hbw hcs hat hex hcl6;go_wp2_with (go_at_call 182;go_must (refine (hE _ _ x ⟨_,rfl,hex' _ (by exact sqS)⟩ hwx).mono ?_;rintro e w1 ⟨u,fp,rfl,⟨cs',rfl,hx1⟩,hnd,hrg,hb1⟩;obtain ⟨p1,n1,q1,p2,n2,q2,hsh⟩:=hx1.shape;subst hsh;have HB1:=hid hb1;have HX1:=hid hx1;have HND:Hid fp.Nodup:=hnd;have HRG:=hid hrg;have o1:=HM.out.own.kept (ZQ (r:=none) hb1) (Or.inr (by simp [Value.ownBlock]));have HO1:=hid o1;have f0:=o1.frozenAt (k * 2);obtain ⟨y0,g0⟩:=Zl o1 (k * 2) (by omega);have f1:=o1.frozenAt (k * 2+1);obtain ⟨y1,g1⟩:=Zl o1 (k * 2+1) (by omega);clear o1 hb1 hx1 hnd hrg));have sd:=Zeo HO1.out (k * 2) (.slice p1 n1 q1) (.slice p2 n2 q2);have hlen:xs.length=n * 2:=HO1.out.1;exact ⟨⟨k+1,_,_,by omega,by go_num,Made.step (O:=λw=>OCls w d) (c:=2) (λw w' cs x f h hk=>OCls.keep h hk) HM.out hxk HB1.out HX1.out HND.out HRG.out rfl sd.1 sd.2 (λm hm=>ZbK hm) (λj hj=>Zcj (by omega) j hj)⟩,by simp [intOf];omega⟩
  . obtain rfl:k=n:=by omega
    obtain ⟨fp,r1,r2,r3⟩:=HM.out.done HN.out (by unfold maxLen;omega);have R1:=hid r1;have R2:Hid (fp.Nodup/\∀ a ∈ fp,G<=a/\a<wr.heap.size):=⟨r2,r3⟩;clear r1 r2 r3;go_wp2;go_ret;exact ⟨_,fp,rfl,R1.out,R2.out.1,R2.out.2,HM.out.below⟩
theorem Zed {d:Nat} (h0:ToO 208 (λw v es=>Rows w All 6 (HEx w All d) v es) (λw v es fp=>Zg w 76 6 (OEx w d) v es fp) (wtS (wtEx d))) (h1:ToO 208 (λw v es=>Rows w All 6 (HEx w All d) v es) (λw v es fp=>Zg w 76 6 (OEx w d) v es fp) (wtS (wtEx d))) :
 ToO 182 (λw v e=>∃ cs,v=.agg cs.toArray/\HCl w All (HEx w All d) cs e) (λw v e fp=>∃ cs,v=.agg cs.toArray/\OCl w (OEx w d) cs e fp) (wtCl (wtEx d)):=by
 intro w v e i1 hwt;obtain ⟨cs,rfl,v0,v1,rfl,f0,f1⟩:=i1;have hw0:wtS (wtEx d) e.1<=16777216:=(by unfold wtCl at hwt;omega);have E0:∀ w',Za All w w'->Rows w' All 6 (HEx w' All d) v0 e.1:=λw' hw=>f0.mono hw sqj (λ_ _ _=>HEx.mono hw sqj);have hw1:wtS (wtEx d) e.2<=16777216:=(by unfold wtCl at hwt;omega);have E1:∀ w',Za All w w'->Rows w' All 6 (HEx w' All d) v1 e.2:=λw' hw=>f1.mono hw sqj (λ_ _ _=>HEx.mono hw sqj);obtain ⟨p0,c0,rfl,_⟩:=id f0;obtain ⟨p1,c1,rfl,_⟩:=id f1;clear f0 f1;go_enter func182,ntmps182;go_wp2_with fail;have hal:Below w.heap.size w (((w.alloc (.cells #[.slice p0 e.1.length c0,.slice p1 e.2.length c1] 220)).alloc (.cells #[.slice none 0 0,.slice none 0 0] 46)).alloc (.cells #[.slice none 0 0,.slice none 0 0] 46)):=(((sqN _ _)).alloc (by simp only [Zb];omega) _).alloc (by simp only [Zb];omega) _;refine (h0 _ _ e.1 (E0 _ (sqO hal)) hw0).mono ?_;rintro ex w1 ⟨u,fA,rfl,r0,ndA,rgA,hb⟩;have bA:=((Blk.new (w:=w) (cs:=#[.slice p0 e.1.length c0,.slice p1 e.2.length c1]) (t:=220)).alloc (o:=.cells #[.slice none 0 0,.slice none 0 0] 46)).alloc (o:=.cells #[.slice none 0 0,.slice none 0 0] 46);have bR:=(Blk.new (w:=(w.alloc (.cells #[.slice p0 e.1.length c0,.slice p1 e.2.length c1] 220))) (cs:=#[.slice none 0 0,.slice none 0 0]) (t:=46)).alloc (o:=.cells #[.slice none 0 0,.slice none 0 0] 46);have bO:=(Blk.new (w:=((w.alloc (.cells #[.slice p0 e.1.length c0,.slice p1 e.2.length c1] 220)).alloc (.cells #[.slice none 0 0,.slice none 0 0] 46))) (cs:=#[.slice none 0 0,.slice none 0 0]) (t:=46));simp only [Zb] at bA bR bO rgA
 replace bA:=bA.below hb (by simp only [Zb];omega)
 replace bR:=bR.below hb (by simp only [Zb];omega)
 replace bO:=bO.below hb (by simp only [Zb];omega)
 have B1:Below w.heap.size w w1:=hal.trans (hb.mono hal.size);have z1:w.heap.size+3<=w1.heap.size:=(by have:=hb.size;simp only [Zb] at this;omega);have Z1:=hid z1;have T0:=hid r0;have NA:=hid ndA;have GA:=hid rgA;clear hal hb z1 ndA rgA;obtain ⟨p0',c0',hu,_⟩:=r0.shape;subst hu;clear r0;have a1:=bA.cell 1 _ rfl;have o0:=bO.cell 0 _ rfl;have g0:=bO.frozen 0;have HA:=hid bA;have HR:=hid bR;have HO:Hid (Blk w1 (w.heap.size+1+1) #[.slice none 0 0,.slice none 0 0] 46):=bO;have HB1:=hid B1;clear bA bR bO B1;go_wp2_with fail;have hp:Below w.heap.size w (w1.setCell ⟨w.heap.size+1+1,0,none⟩ (.slice p0' e.1.length c0')):=HB1.out.setCell (by show _<=w.heap.size+1+1;omega) _;refine (h1 _ _ e.2 (E1 _ (sqO hp)) hw1).mono ?_;rintro ex w2 ⟨u,fB,rfl,r1,ndB,rgB,hb⟩;have bA:=((HA.out.other (p:=⟨w.heap.size+1+1,0,none⟩) (v:=(.slice p0' e.1.length c0')) (by show w.heap.size≠w.heap.size+1+1;omega)).below hb (by have:=Z1.out;simp only [ZL];omega));have bR:=((HR.out.other (p:=⟨w.heap.size+1+1,0,none⟩) (v:=(.slice p0' e.1.length c0')) (by show w.heap.size+1≠w.heap.size+1+1;omega)).below hb (by have:=Z1.out;simp only [ZL];omega));have bO:=((HO.out.same (j:=0) (v:=(.slice p0' e.1.length c0')) (cs':=#[.slice p0' e.1.length c0',.slice none 0 0]) rfl).below hb (by have:=Z1.out;simp only [ZL];omega));have B2:Below w.heap.size w w2:=hp.trans (hb.mono hp.size);simp only [ZL] at rgB
 have k01:Zj fA w1 w2:=λa ha=>by
  have h:=GA.out a ha;exact (hb.block a (by simp only [ZL];exact h.2)).trans (Below.heap_setCell _ _ _ _ (by show a≠w.heap.size+1+1;omega))
 have T0:Hid (Zg w2 76 6 (OEx w2 d) (.slice p0' e.1.length c0') e.1 fA):=(by have h:=T0.out;exact h.keep k01 (λcs x f _ hs h=>h.keep (k01.sub hs)));have T1:=hid r1;have sz2:w1.heap.size<=w2.heap.size:=(by have:=hb.size;simp only [ZL] at this;exact this)
 have HND:Hid ((fA ++ fB).Nodup):=by
  show List.Nodup _;rw [List.nodup_append];exact ⟨NA.out,ndB,λa ha b hb=>by have:=GA.out a ha;have:=rgB b hb;omega⟩
 have HRG:Hid (∀ a ∈ fA ++ fB,w.heap.size+1+1+1<=a/\a<w2.heap.size):=λa ha=>by
  rcases List.mem_append.1 ha with ha | ha
  . have:=GA.out a ha;omega
  . have:=rgB a ha;have:=Z1.out;omega
 have HB2:=hid B2;obtain ⟨p1',c1',hu,_⟩:=r1.shape;subst hu;clear hp hb r1 HA HR HO HB1 k01 ndB rgB NA GA sz2 B2;have o0:=bO.cell 0 _ rfl;have q0:=bR.cell 0 _ rfl;have k0:=bR.frozen 0;have o1:=bO.cell 1 _ rfl;have q1:=bR.cell 1 _ rfl;have k1:=bR.frozen 1;have g1:=bO.frozen 1;clear bA bR bO;go_wp2_with fail;have sf:Za (λg=>w.heap.size+1+1+1<=g) w2 (((w2.setCell ⟨w.heap.size+1+1,1,none⟩ (.slice p1' e.2.length c1')).setCell ⟨w.heap.size+1,0,none⟩ (.slice p0' e.1.length c0')).setCell ⟨w.heap.size+1,1,none⟩ (.slice p1' e.2.length c1')):=Za.setCell (Za.setCell (Za.setCell (sqO (Below.refl _ _)) (by show ¬ (_<=w.heap.size+1+1);omega) _) (by show ¬ (_<=w.heap.size+1);omega) _) (by show ¬ (_<=w.heap.size+1);omega) _;have bf:Below w.heap.size w (((w2.setCell ⟨w.heap.size+1+1,1,none⟩ (.slice p1' e.2.length c1')).setCell ⟨w.heap.size+1,0,none⟩ (.slice p0' e.1.length c0')).setCell ⟨w.heap.size+1,1,none⟩ (.slice p1' e.2.length c1')):=Below.setCell (Below.setCell (Below.setCell (HB2.out) (by show _<=w.heap.size+1+1;omega) _) (by show _<=w.heap.size+1;omega) _) (by show _<=w.heap.size+1;omega) _;have kf:Zj (fA ++ fB) w2 (((w2.setCell ⟨w.heap.size+1+1,1,none⟩ (.slice p1' e.2.length c1')).setCell ⟨w.heap.size+1,0,none⟩ (.slice p0' e.1.length c0')).setCell ⟨w.heap.size+1,1,none⟩ (.slice p1' e.2.length c1')):=λa ha=>sf.2 a (HRG.out a ha).1 (HRG.out a ha).2;have kA:=kf.sub (fp':=fA) (λa ha=>by simp [ha]);have kB:=kf.sub (fp':=fB) (λa ha=>by simp [ha]);have U0:=T0.out.keep kA (λcs x f _ hs h=>h.keep (kA.sub hs));have U1:=T1.out.keep kB (λcs x f _ hs h=>h.keep (kB.sub hs))
 exact bodyPost_ret (v:=.agg #[.slice p0' e.1.length c0',.slice p1' e.2.length c1']) (by simp [results,results182,go_sem,q0,q1]) rfl
  ⟨_,fA ++ fB,rfl,⟨_,rfl,_,_,fA,fB,rfl,rfl,U0,U1⟩,HND.out,λa ha=>⟨by have:=(HRG.out a ha).1;omega,Nat.lt_of_lt_of_le (HRG.out a ha).2 sf.1⟩,bf⟩
theorem Zkl {d:Nat} (h0:ToO 208 (λw v es=>Rows w All 6 (HEx w All d) v es) (λw v es fp=>Zg w 76 6 (OEx w d) v es fp) (wtS (wtEx d))) (h1:ToO 149 (λw v es=>Rows w All 2 (HCl w All (HEx w All d)) v es) (λw v es fp=>Zg w 46 2 (OCls w d) v es fp) (wtS (wtCl (wtEx d)))) :
 ToO 222 (λw v e=>∃ cs,v=.agg cs.toArray/\HEx w All (d+1) cs e) (λw v e fp=>∃ cs,v=.agg cs.toArray/\OEx w (d+1) cs e fp) (wtEx (d+1)):=by
 intro w v e i1 hwt;obtain ⟨cs,rfl,v0,v1,rfl,s0,s1,s2,s3,f0,f1⟩:=i1;have hw0:wtS (wtEx d) e.kids<=16777216:=(by unfold wtEx at hwt;omega);have E0:∀ w',Za All w w'->Rows w' All 6 (HEx w' All d) v0 e.kids:=λw' hw=>f0.mono hw sqj (λ_ _ _=>HEx.mono hw sqj);have hw1:wtS (wtCl (wtEx d)) e.clauses<=16777216:=(by unfold wtEx at hwt;omega);have E1:∀ w',Za All w w'->Rows w' All 2 (HCl w' All (HEx w' All d)) v1 e.clauses:=λw' hw=>f1.mono hw sqj (λ_ _ _ h=>h.mono hw sqj (λ_ _=>HEx.mono hw sqj));obtain ⟨p0,c0,rfl,_⟩:=id f0;obtain ⟨p1,c1,rfl,_⟩:=id f1;clear f0 f1;go_enter func222,ntmps222;go_wp2_with fail;have hal:Below w.heap.size w (((w.alloc (.cells #[.int .i64 e.kind,.int .i64 e.n,.string e.text,.string e.mod,.slice p0 e.kids.length c0,.slice p1 e.clauses.length c1] 263)).alloc (.cells #[.int .i64 0,.int .i64 0,.string ⟨#[]⟩,.string ⟨#[]⟩,.slice none 0 0,.slice none 0 0] 76)).alloc (.cells #[.int .i64 e.kind,.int .i64 e.n,.string e.text,.string e.mod,.slice none 0 0,.slice none 0 0] 76)):=(((sqN _ _)).alloc (by simp only [Zb];omega) _).alloc (by simp only [Zb];omega) _;refine (h0 _ _ e.kids (E0 _ (sqO hal)) hw0).mono ?_;rintro ex w1 ⟨u,fA,rfl,r0,ndA,rgA,hb⟩;have bA:=((Blk.new (w:=w) (cs:=#[.int .i64 e.kind,.int .i64 e.n,.string e.text,.string e.mod,.slice p0 e.kids.length c0,.slice p1 e.clauses.length c1]) (t:=263)).alloc (o:=.cells #[.int .i64 0,.int .i64 0,.string ⟨#[]⟩,.string ⟨#[]⟩,.slice none 0 0,.slice none 0 0] 76)).alloc (o:=.cells #[.int .i64 e.kind,.int .i64 e.n,.string e.text,.string e.mod,.slice none 0 0,.slice none 0 0] 76);have bR:=(Blk.new (w:=(w.alloc (.cells #[.int .i64 e.kind,.int .i64 e.n,.string e.text,.string e.mod,.slice p0 e.kids.length c0,.slice p1 e.clauses.length c1] 263))) (cs:=#[.int .i64 0,.int .i64 0,.string ⟨#[]⟩,.string ⟨#[]⟩,.slice none 0 0,.slice none 0 0]) (t:=76)).alloc (o:=.cells #[.int .i64 e.kind,.int .i64 e.n,.string e.text,.string e.mod,.slice none 0 0,.slice none 0 0] 76);have bO:=(Blk.new (w:=((w.alloc (.cells #[.int .i64 e.kind,.int .i64 e.n,.string e.text,.string e.mod,.slice p0 e.kids.length c0,.slice p1 e.clauses.length c1] 263)).alloc (.cells #[.int .i64 0,.int .i64 0,.string ⟨#[]⟩,.string ⟨#[]⟩,.slice none 0 0,.slice none 0 0] 76))) (cs:=#[.int .i64 e.kind,.int .i64 e.n,.string e.text,.string e.mod,.slice none 0 0,.slice none 0 0]) (t:=76));simp only [Zb] at bA bR bO rgA
 replace bA:=bA.below hb (by simp only [Zb];omega)
 replace bR:=bR.below hb (by simp only [Zb];omega)
 replace bO:=bO.below hb (by simp only [Zb];omega)
 have B1:Below w.heap.size w w1:=hal.trans (hb.mono hal.size);have z1:w.heap.size+3<=w1.heap.size:=(by have:=hb.size;simp only [Zb] at this;omega);have Z1:=hid z1;have T0:=hid r0;have NA:=hid ndA;have GA:=hid rgA;clear hal hb z1 ndA rgA;obtain ⟨p0',c0',hu,_⟩:=r0.shape;subst hu;clear r0;have a5:=bA.cell 5 _ rfl;have o4:=bO.cell 4 _ rfl;have g4:=bO.frozen 4;have HA:=hid bA;have HR:=hid bR;have HO:Hid (Blk w1 (w.heap.size+1+1) #[.int .i64 e.kind,.int .i64 e.n,.string e.text,.string e.mod,.slice none 0 0,.slice none 0 0] 76):=bO;have HB1:=hid B1;clear bA bR bO B1;go_wp2_with fail;have hp:Below w.heap.size w (w1.setCell ⟨w.heap.size+1+1,4,none⟩ (.slice p0' e.kids.length c0')):=HB1.out.setCell (by show _<=w.heap.size+1+1;omega) _;refine (h1 _ _ e.clauses (E1 _ (sqO hp)) hw1).mono ?_;rintro ex w2 ⟨u,fB,rfl,r1,ndB,rgB,hb⟩;have bA:=((HA.out.other (p:=⟨w.heap.size+1+1,4,none⟩) (v:=(.slice p0' e.kids.length c0')) (by show w.heap.size≠w.heap.size+1+1;omega)).below hb (by have:=Z1.out;simp only [ZL];omega));have bR:=((HR.out.other (p:=⟨w.heap.size+1+1,4,none⟩) (v:=(.slice p0' e.kids.length c0')) (by show w.heap.size+1≠w.heap.size+1+1;omega)).below hb (by have:=Z1.out;simp only [ZL];omega));have bO:=((HO.out.same (j:=4) (v:=(.slice p0' e.kids.length c0')) (cs':=#[.int .i64 e.kind,.int .i64 e.n,.string e.text,.string e.mod,.slice p0' e.kids.length c0',.slice none 0 0]) rfl).below hb (by have:=Z1.out;simp only [ZL];omega));have B2:Below w.heap.size w w2:=hp.trans (hb.mono hp.size);simp only [ZL] at rgB
 have k01:Zj fA w1 w2:=λa ha=>by
  have h:=GA.out a ha;exact (hb.block a (by simp only [ZL];exact h.2)).trans (Below.heap_setCell _ _ _ _ (by show a≠w.heap.size+1+1;omega))
 have T0:Hid (Zg w2 76 6 (OEx w2 d) (.slice p0' e.kids.length c0') e.kids fA):=(by have h:=T0.out;exact h.keep k01 (λcs x f _ hs h=>h.keep (k01.sub hs)));have T1:=hid r1;have sz2:w1.heap.size<=w2.heap.size:=(by have:=hb.size;simp only [ZL] at this;exact this)
 have HND:Hid ((fA ++ fB).Nodup):=by
  show List.Nodup _;rw [List.nodup_append];exact ⟨NA.out,ndB,λa ha b hb=>by have:=GA.out a ha;have:=rgB b hb;omega⟩
 have HRG:Hid (∀ a ∈ fA ++ fB,w.heap.size+1+1+1<=a/\a<w2.heap.size):=λa ha=>by
  rcases List.mem_append.1 ha with ha | ha
  . have:=GA.out a ha;omega
  . have:=rgB a ha;have:=Z1.out;omega
 have HB2:=hid B2;obtain ⟨p1',c1',hu,_⟩:=r1.shape;subst hu;clear hp hb r1 HA HR HO HB1 k01 ndB rgB NA GA sz2 B2;have o0:=bO.cell 0 _ rfl;have q0:=bR.cell 0 _ rfl;have k0:=bR.frozen 0;have o1:=bO.cell 1 _ rfl;have q1:=bR.cell 1 _ rfl;have k1:=bR.frozen 1;have o2:=bO.cell 2 _ rfl;have q2:=bR.cell 2 _ rfl;have k2:=bR.frozen 2;have o3:=bO.cell 3 _ rfl;have q3:=bR.cell 3 _ rfl;have k3:=bR.frozen 3;have o4:=bO.cell 4 _ rfl;have q4:=bR.cell 4 _ rfl;have k4:=bR.frozen 4;have o5:=bO.cell 5 _ rfl;have q5:=bR.cell 5 _ rfl;have k5:=bR.frozen 5;have g5:=bO.frozen 5;clear bA bR bO;go_wp2_with fail;have sf:Za (λg=>w.heap.size+1+1+1<=g) w2 (((((((w2.setCell ⟨w.heap.size+1+1,5,none⟩ (.slice p1' e.clauses.length c1')).setCell ⟨w.heap.size+1,0,none⟩ (.int .i64 e.kind)).setCell ⟨w.heap.size+1,1,none⟩ (.int .i64 e.n)).setCell ⟨w.heap.size+1,2,none⟩ (.string e.text)).setCell ⟨w.heap.size+1,3,none⟩ (.string e.mod)).setCell ⟨w.heap.size+1,4,none⟩ (.slice p0' e.kids.length c0')).setCell ⟨w.heap.size+1,5,none⟩ (.slice p1' e.clauses.length c1')):=Za.setCell (Za.setCell (Za.setCell (Za.setCell (Za.setCell (Za.setCell (Za.setCell (sqO (Below.refl _ _)) (by show ¬ (_<=w.heap.size+1+1);omega) _) (by show ¬ (_<=w.heap.size+1);omega) _) (by show ¬ (_<=w.heap.size+1);omega) _) (by show ¬ (_<=w.heap.size+1);omega) _) (by show ¬ (_<=w.heap.size+1);omega) _) (by show ¬ (_<=w.heap.size+1);omega) _) (by show ¬ (_<=w.heap.size+1);omega) _;have bf:Below w.heap.size w (((((((w2.setCell ⟨w.heap.size+1+1,5,none⟩ (.slice p1' e.clauses.length c1')).setCell ⟨w.heap.size+1,0,none⟩ (.int .i64 e.kind)).setCell ⟨w.heap.size+1,1,none⟩ (.int .i64 e.n)).setCell ⟨w.heap.size+1,2,none⟩ (.string e.text)).setCell ⟨w.heap.size+1,3,none⟩ (.string e.mod)).setCell ⟨w.heap.size+1,4,none⟩ (.slice p0' e.kids.length c0')).setCell ⟨w.heap.size+1,5,none⟩ (.slice p1' e.clauses.length c1')):=Below.setCell (Below.setCell (Below.setCell (Below.setCell (Below.setCell (Below.setCell (Below.setCell (HB2.out) (by show _<=w.heap.size+1+1;omega) _) (by show _<=w.heap.size+1;omega) _) (by show _<=w.heap.size+1;omega) _) (by show _<=w.heap.size+1;omega) _) (by show _<=w.heap.size+1;omega) _) (by show _<=w.heap.size+1;omega) _) (by show _<=w.heap.size+1;omega) _;have kf:Zj (fA ++ fB) w2 (((((((w2.setCell ⟨w.heap.size+1+1,5,none⟩ (.slice p1' e.clauses.length c1')).setCell ⟨w.heap.size+1,0,none⟩ (.int .i64 e.kind)).setCell ⟨w.heap.size+1,1,none⟩ (.int .i64 e.n)).setCell ⟨w.heap.size+1,2,none⟩ (.string e.text)).setCell ⟨w.heap.size+1,3,none⟩ (.string e.mod)).setCell ⟨w.heap.size+1,4,none⟩ (.slice p0' e.kids.length c0')).setCell ⟨w.heap.size+1,5,none⟩ (.slice p1' e.clauses.length c1')):=λa ha=>sf.2 a (HRG.out a ha).1 (HRG.out a ha).2;have kA:=kf.sub (fp':=fA) (λa ha=>by simp [ha]);have kB:=kf.sub (fp':=fB) (λa ha=>by simp [ha]);have U0:=T0.out.keep kA (λcs x f _ hs h=>h.keep (kA.sub hs));have U1:=T1.out.keep kB (λcs x f _ hs h=>OCls.keep h (kB.sub hs))
 exact bodyPost_ret (v:=.agg #[.int .i64 e.kind,.int .i64 e.n,.string e.text,.string e.mod,.slice p0' e.kids.length c0',.slice p1' e.clauses.length c1']) (by simp [results,results222,go_sem,q0,q1,q2,q3,q4,q5]) rfl
  ⟨_,fA ++ fB,rfl,⟨_,rfl,_,_,fA,fB,rfl,rfl,s0,s1,s2,s3,U0,U1⟩,HND.out,λa ha=>⟨by have:=(HRG.out a ha).1;omega,Nat.lt_of_lt_of_le (HRG.out a ha).2 sf.1⟩,bf⟩
theorem ZcD:∀ d,ToO 222 (λw v e=>∃ cs,v=.agg cs.toArray/\HEx w All d cs e) (λw v e fp=>∃ cs,v=.agg cs.toArray/\OEx w d cs e fp) (wtEx d)
 | 0=>λw v x ⟨_,_,h⟩ _=>h.elim
 | d+1=>Zkl (ZbY (ZcD d)) (Zdt (Zed (ZbY (ZcD d)) (ZbY (ZcD d))))
theorem Zg5 (d:Nat):ToO 182 (λw v e=>∃ cs,v=.agg cs.toArray/\HCl w All (HEx w All d) cs e) (λw v e fp=>∃ cs,v=.agg cs.toArray/\OCl w (OEx w d) cs e fp) (wtCl (wtEx d)) :=
 Zed (ZbY (ZcD d)) (ZbY (ZcD d))
theorem Zgb (d:Nat):ToO 149 (λw v es=>Rows w All 2 (HCl w All (HEx w All d)) v es) (λw v es fp=>Zg w 46 2 (OCl w (OEx w d)) v es fp) (wtS (wtCl (wtEx d))):=Zdt (Zg5 d)
theorem ZiV {d:Nat} (hE:ToO 106 (λw v e=>∃ cs,v=.agg cs.toArray/\HRf cs e) (λw v e fp=>∃ cs,v=.agg cs.toArray/\ORf w d cs e fp) (wtRf)) :
 ToO 66 (λw v es=>Rows w All 2 (HRf) v es) (λw v es fp=>Zg w 84 2 (ORf w d) v es fp) (wtS (wtRf)):=by
 intro w v es h hwt;obtain ⟨p,cap,rfl,hcl,hcm,hx⟩:=h;generalize hn:es.length=n at *;have HN:=hid hn;have HX:Hid _:=hx;have hnb:n<=16777216:=(by unfold wtS at hwt;omega);have HWT:=hid hwt;clear hx hn hwt;obtain ⟨M,hM,hmk⟩:=Za0 (t:=60) (e:=84) (c:=2) underlying60 (by kernel_rfl) w n hnb;have HO:Hid (Made w (w.alloc (.cells M 84)) w.heap.size n 84 2 (λw=>ORf w d) es 0 M.toList []):=Made.start hM (by unfold maxLen;omega)
 try unfold Bz
 generalize hG:w.heap.size=G at *;have HG:=hid hG;go_enter func66,ntmps66;go_wp2
 go_loopw [4] (λiv wr=>∃ (k:Nat) (xs:List Value) (fps:List (List Nat)),k<=n/\iv=.int .i64 k/\Hid (Made w wr G n 84 2 (λw=>ORf w d) es k xs fps)) (λiv _=>n - (intOf iv).toNat)
 case atStart=>exact ⟨0,M.toList,[],Nat.zero_le _,rfl,HO⟩
 case round =>
  obtain ⟨k,xs,fps,hk,rfl,HM⟩:=hrel;by_cases hlt:k<n
  . obtain ⟨x,hxk⟩:=sqA (l:=es) (k:=k) HN.out hlt
    obtain ⟨g,off,rfl,hg,hgl,hat⟩:=HX.out (sqE hxk);obtain ⟨cs,hcl6,hcs,hex⟩:=hat k x hxk;have hbw:Below w.heap.size w wr:=(by rw [HG.out];exact HM.out.below);have hex':∀ w',Za All wr w'->HRf cs x:=λw' hw=>hex;obtain ⟨z0,z1,rfl⟩:=len2 hcl6;obtain ⟨a0,a1⟩:=sqC2 hcs (by omega);rw [<-hbw.cell (p:=⟨g,_,none⟩) (by show g<w.heap.size;rw [HG.out];exact hgl)] at a0 a1;simp at a0 a1
    have hwx:wtRf x<=16777216:=by
     have h1:=HWT.out;have h2:=Ze (wtRf) es k x hxk;have h3:=Zf (wtRf) es (k+1);unfold wtS at h1;omega
    clear hbw hcs hat hex hcl6;go_wp2_with (go_at_call 106;go_must (refine (hE _ _ x ⟨_,rfl,hex' _ (by exact sqS)⟩ hwx).mono ?_;rintro e w1 ⟨u,fp,rfl,⟨cs',rfl,hx1⟩,hnd,hrg,hb1⟩;obtain ⟨st,sk,hsh⟩:=hx1.shape;subst hsh;have HB1:=hid hb1;have HX1:=hid hx1;have HND:Hid fp.Nodup:=hnd;have HRG:=hid hrg;have o1:=HM.out.own.kept (ZQ (r:=none) hb1) (Or.inr (by simp [Value.ownBlock]));have HO1:=hid o1;have f0:=o1.frozenAt (k * 2);obtain ⟨y0,g0⟩:=Zl o1 (k * 2) (by omega);have f1:=o1.frozenAt (k * 2+1);obtain ⟨y1,g1⟩:=Zl o1 (k * 2+1) (by omega);clear o1 hb1 hx1 hnd hrg));have sd:=Zeo HO1.out (k * 2) (.string st) (.int .i64 sk);have hlen:xs.length=n * 2:=HO1.out.1;exact ⟨⟨k+1,_,_,by omega,by go_num,Made.step (O:=λw=>ORf w d) (c:=2) (λw w' cs x f h hk=>h) HM.out hxk HB1.out HX1.out HND.out HRG.out rfl sd.1 sd.2 (λm hm=>ZbK hm) (λj hj=>Zcj (by omega) j hj)⟩,by simp [intOf];omega⟩
  . obtain rfl:k=n:=by omega
    obtain ⟨fp,r1,r2,r3⟩:=HM.out.done HN.out (by unfold maxLen;omega);have R1:=hid r1;have R2:Hid (fp.Nodup/\∀ a ∈ fp,G<=a/\a<wr.heap.size):=⟨r2,r3⟩;clear r1 r2 r3;go_wp2;go_ret;exact ⟨_,fp,rfl,R1.out,R2.out.1,R2.out.2,HM.out.below⟩
theorem ZiW {d:Nat} (hE:ToO 107 (λw v e=>∃ cs,v=.agg cs.toArray/\HFn w All d cs e) (λw v e fp=>∃ cs,v=.agg cs.toArray/\OFn w d cs e fp) (wtFn d)) :
 ToO 67 (λw v es=>Rows w All 3 (HFn w All d) v es) (λw v es fp=>Zg w 59 3 (OFn w d) v es fp) (wtS (wtFn d)):=by
 intro w v es h hwt;obtain ⟨p,cap,rfl,hcl,hcm,hx⟩:=h;generalize hn:es.length=n at *;have HN:=hid hn;have HX:Hid _:=hx;have hnb:n<=16777216:=(by unfold wtS at hwt;omega);have HWT:=hid hwt;clear hx hn hwt;obtain ⟨M,hM,hmk⟩:=Za0 (t:=61) (e:=59) (c:=3) underlying61 (by kernel_rfl) w n hnb;have HO:Hid (Made w (w.alloc (.cells M 59)) w.heap.size n 59 3 (λw=>OFn w d) es 0 M.toList []):=Made.start hM (by unfold maxLen;omega)
 try unfold Bz
 generalize hG:w.heap.size=G at *;have HG:=hid hG;go_enter func67,ntmps67;go_wp2
 go_loopw [4] (λiv wr=>∃ (k:Nat) (xs:List Value) (fps:List (List Nat)),k<=n/\iv=.int .i64 k/\Hid (Made w wr G n 59 3 (λw=>OFn w d) es k xs fps)) (λiv _=>n - (intOf iv).toNat)
 case atStart=>exact ⟨0,M.toList,[],Nat.zero_le _,rfl,HO⟩
 case round =>
  obtain ⟨k,xs,fps,hk,rfl,HM⟩:=hrel;by_cases hlt:k<n
  . obtain ⟨x,hxk⟩:=sqA (l:=es) (k:=k) HN.out hlt
    obtain ⟨g,off,rfl,hg,hgl,hat⟩:=HX.out (sqE hxk);obtain ⟨cs,hcl6,hcs,hex⟩:=hat k x hxk;have hbw:Below w.heap.size w wr:=(by rw [HG.out];exact HM.out.below);have hex':∀ w',Za All wr w'->HFn w' All d cs x:=λw' hw=>hex.mono (Za.trans (sqO hbw) hw) sqj;obtain ⟨z0,z1,z2,rfl⟩:=len3 hcl6;obtain ⟨a0,a1,a2⟩:=sqC3 hcs (by omega);rw [<-hbw.cell (p:=⟨g,_,none⟩) (by show g<w.heap.size;rw [HG.out];exact hgl)] at a0 a1 a2;simp at a0 a1 a2
    have hwx:wtFn d x<=16777216:=by
     have h1:=HWT.out;have h2:=Ze (wtFn d) es k x hxk;have h3:=Zf (wtFn d) es (k+1);unfold wtS at h1;omega
    clear hbw hcs hat hex hcl6;go_wp2_with (go_at_call 107;go_must (refine (hE _ _ x ⟨_,rfl,hex' _ (by exact sqS)⟩ hwx).mono ?_;rintro e w1 ⟨u,fp,rfl,⟨cs',rfl,hx1⟩,hnd,hrg,hb1⟩;obtain ⟨st,sk,p1,n1,q1,hsh⟩:=hx1.shape;subst hsh;have HB1:=hid hb1;have HX1:=hid hx1;have HND:Hid fp.Nodup:=hnd;have HRG:=hid hrg;have o1:=HM.out.own.kept (ZQ (r:=none) hb1) (Or.inr (by simp [Value.ownBlock]));have HO1:=hid o1;have f0:=o1.frozenAt (k * 3);obtain ⟨y0,g0⟩:=Zl o1 (k * 3) (by omega);have f1:=o1.frozenAt (k * 3+1);obtain ⟨y1,g1⟩:=Zl o1 (k * 3+1) (by omega);have f2:=o1.frozenAt (k * 3+2);obtain ⟨y2,g2⟩:=Zl o1 (k * 3+2) (by omega);clear o1 hb1 hx1 hnd hrg));have sd:=Zdx HO1.out (k * 3) (.string st) (.int .i64 sk) (.slice p1 n1 q1);have hlen:xs.length=n * 3:=HO1.out.1;exact ⟨⟨k+1,_,_,by omega,by go_num,Made.step (O:=λw=>OFn w d) (c:=3) (λw w' cs x f h hk=>OFn.keep h hk) HM.out hxk HB1.out HX1.out HND.out HRG.out rfl sd.1 sd.2 (λm hm=>Zbe hm) (λj hj=>ZbL (by omega) j hj)⟩,by simp [intOf];omega⟩
  . obtain rfl:k=n:=by omega
    obtain ⟨fp,r1,r2,r3⟩:=HM.out.done HN.out (by unfold maxLen;omega);have R1:=hid r1;have R2:Hid (fp.Nodup/\∀ a ∈ fp,G<=a/\a<wr.heap.size):=⟨r2,r3⟩;clear r1 r2 r3;go_wp2;go_ret;exact ⟨_,fp,rfl,R1.out,R2.out.1,R2.out.2,HM.out.below⟩
theorem Zkm {d:Nat} :
 ToO 106 (λw v e=>∃ cs,v=.agg cs.toArray/\HRf cs e) (λw v e fp=>∃ cs,v=.agg cs.toArray/\ORf w d cs e fp) (wtRf):=by
 intro w v e i1 hwt;obtain ⟨cs,rfl,rfl,s0,s1⟩:=i1;go_enter func106,ntmps106;go_wp2;exact bodyPost_ret (v:=.agg #[.string e.name,.int .i64 e.arity]) (by simp [results,results106,go_sem]) rfl ⟨_,[],rfl,⟨_,rfl,⟨rfl,s0,s1⟩,rfl⟩,by simp,λa ha=>by simp at ha,(((sqN _ _)).alloc (by simp only [Zb];omega) _).alloc (by simp only [Zb];omega) _⟩
theorem Zkn {d:Nat} (h0:ToO 149 (λw v es=>Rows w All 2 (HCl w All (HEx w All d)) v es) (λw v es fp=>Zg w 46 2 (OCls w d) v es fp) (wtS (wtCl (wtEx d)))) :
 ToO 107 (λw v e=>∃ cs,v=.agg cs.toArray/\HFn w All d cs e) (λw v e fp=>∃ cs,v=.agg cs.toArray/\OFn w d cs e fp) (wtFn d):=by
 intro w v e i1 hwt;obtain ⟨cs,rfl,v0,rfl,s0,s1,f0⟩:=i1;have hw0:wtS (wtCl (wtEx d)) e.clauses<=16777216:=(by unfold wtFn at hwt;omega);have E0:∀ w',Za All w w'->Rows w' All 2 (HCl w' All (HEx w' All d)) v0 e.clauses:=λw' hw=>f0.mono hw sqj (λ_ _ _ h=>h.mono hw sqj (λ_ _=>HEx.mono hw sqj));obtain ⟨p0,c0,rfl,_⟩:=id f0;clear f0;go_enter func107,ntmps107;go_wp2_with fail;have hal:Below w.heap.size w (((w.alloc (.cells #[.string e.name,.int .i64 e.arity,.slice p0 e.clauses.length c0] 137)).alloc (.cells #[.string ⟨#[]⟩,.int .i64 0,.slice none 0 0] 59)).alloc (.cells #[.string e.name,.int .i64 e.arity,.slice none 0 0] 59)):=(((sqN _ _)).alloc (by simp only [Zb];omega) _).alloc (by simp only [Zb];omega) _;refine (h0 _ _ e.clauses (E0 _ (sqO hal)) hw0).mono ?_;rintro ex w1 ⟨u,fp,rfl,r0,hnd,hrg,hb⟩;have bR:=(Blk.new (w:=(w.alloc (.cells #[.string e.name,.int .i64 e.arity,.slice p0 e.clauses.length c0] 137))) (cs:=#[.string ⟨#[]⟩,.int .i64 0,.slice none 0 0]) (t:=59)).alloc (o:=.cells #[.string e.name,.int .i64 e.arity,.slice none 0 0] 59);have bO:=(Blk.new (w:=((w.alloc (.cells #[.string e.name,.int .i64 e.arity,.slice p0 e.clauses.length c0] 137)).alloc (.cells #[.string ⟨#[]⟩,.int .i64 0,.slice none 0 0] 59))) (cs:=#[.string e.name,.int .i64 e.arity,.slice none 0 0]) (t:=59));simp only [Zb] at bR bO hrg
 replace bR:=bR.below hb (by simp only [Zb];omega)
 replace bO:=bO.below hb (by simp only [Zb];omega)
 have HB1:=hid (hal.trans (hb.mono hal.size));have HND:=hid hnd;have HRG:=hid hrg;have T0:=hid r0;clear hal hb hnd hrg;obtain ⟨p1,c1,hu,_⟩:=r0.shape;subst hu;clear r0;have o0:=bO.cell 0 _ rfl;have q0:=bR.cell 0 _ rfl;have k0:=bR.frozen 0;have o1:=bO.cell 1 _ rfl;have q1:=bR.cell 1 _ rfl;have k1:=bR.frozen 1;have o2:=bO.cell 2 _ rfl;have q2:=bR.cell 2 _ rfl;have k2:=bR.frozen 2;have g2:=bO.frozen 2;clear bR bO;go_wp2_with fail;have sf:Za (λg=>w.heap.size+1+1+1<=g) w1 ((((w1.setCell ⟨w.heap.size+1+1,2,none⟩ (.slice p1 e.clauses.length c1)).setCell ⟨w.heap.size+1,0,none⟩ (.string e.name)).setCell ⟨w.heap.size+1,1,none⟩ (.int .i64 e.arity)).setCell ⟨w.heap.size+1,2,none⟩ (.slice p1 e.clauses.length c1)):=Za.setCell (Za.setCell (Za.setCell (Za.setCell (sqO (Below.refl _ _)) (by show ¬ (_<=w.heap.size+1+1);omega) _) (by show ¬ (_<=w.heap.size+1);omega) _) (by show ¬ (_<=w.heap.size+1);omega) _) (by show ¬ (_<=w.heap.size+1);omega) _;have bf:Below w.heap.size w ((((w1.setCell ⟨w.heap.size+1+1,2,none⟩ (.slice p1 e.clauses.length c1)).setCell ⟨w.heap.size+1,0,none⟩ (.string e.name)).setCell ⟨w.heap.size+1,1,none⟩ (.int .i64 e.arity)).setCell ⟨w.heap.size+1,2,none⟩ (.slice p1 e.clauses.length c1)):=Below.setCell (Below.setCell (Below.setCell (Below.setCell (HB1.out) (by show _<=w.heap.size+1+1;omega) _) (by show _<=w.heap.size+1;omega) _) (by show _<=w.heap.size+1;omega) _) (by show _<=w.heap.size+1;omega) _;have kf:Zj fp w1 ((((w1.setCell ⟨w.heap.size+1+1,2,none⟩ (.slice p1 e.clauses.length c1)).setCell ⟨w.heap.size+1,0,none⟩ (.string e.name)).setCell ⟨w.heap.size+1,1,none⟩ (.int .i64 e.arity)).setCell ⟨w.heap.size+1,2,none⟩ (.slice p1 e.clauses.length c1)):=λa ha=>sf.2 a (HRG.out a ha).1 (HRG.out a ha).2
 exact bodyPost_ret (v:=.agg #[.string e.name,.int .i64 e.arity,.slice p1 e.clauses.length c1]) (by simp [results,results107,go_sem,q0,q1,q2]) rfl
  ⟨_,fp,rfl,⟨_,rfl,_,rfl,s0,s1,T0.out.keep kf (λcs x f _ hs h=>OCls.keep h (kf.sub hs))⟩,HND.out,λa ha=>⟨by have:=(HRG.out a ha).1;omega,Nat.lt_of_lt_of_le (HRG.out a ha).2 sf.1⟩,bf⟩
theorem Zg6 {d:Nat} (h0:ToO 66 (λw v es=>Rows w All 2 (HRf) v es) (λw v es fp=>Zg w 84 2 (ORf w d) v es fp) (wtS (wtRf))) (h1:ToO 67 (λw v es=>Rows w All 3 (HFn w All d) v es) (λw v es fp=>Zg w 59 3 (OFn w d) v es fp) (wtS (wtFn d))) :
 ToO 26 (λw v e=>∃ cs,v=.agg cs.toArray/\HMd w All d cs e) (λw v e fp=>∃ cs,v=.agg cs.toArray/\OMd w d cs e fp) (wtMd d):=by
 intro w v e i1 hwt;obtain ⟨cs,rfl,v0,v1,rfl,s0,f0,f1⟩:=i1;have hw0:wtS (wtRf) e.exports<=16777216:=(by unfold wtMd at hwt;omega);have E0:∀ w',Za All w w'->Rows w' All 2 (HRf) v0 e.exports:=λw' hw=>f0.mono hw sqj (λ_ _ _ h=>h);have hw1:wtS (wtFn d) e.funs<=16777216:=(by unfold wtMd at hwt;omega);have E1:∀ w',Za All w w'->Rows w' All 3 (HFn w' All d) v1 e.funs:=λw' hw=>f1.mono hw sqj (λ_ _ _ h=>h.mono hw sqj);obtain ⟨p0,c0,rfl,_⟩:=id f0;obtain ⟨p1,c1,rfl,_⟩:=id f1;clear f0 f1;go_enter func26,ntmps26;go_wp2_with fail;have hal:Below w.heap.size w (((w.alloc (.cells #[.string e.name,.slice p0 e.exports.length c0,.slice p1 e.funs.length c1] 42)).alloc (.cells #[.string ⟨#[]⟩,.slice none 0 0,.slice none 0 0] 63)).alloc (.cells #[.string e.name,.slice none 0 0,.slice none 0 0] 63)):=(((sqN _ _)).alloc (by simp only [Zb];omega) _).alloc (by simp only [Zb];omega) _;refine (h0 _ _ e.exports (E0 _ (sqO hal)) hw0).mono ?_;rintro ex w1 ⟨u,fA,rfl,r0,ndA,rgA,hb⟩;have bA:=((Blk.new (w:=w) (cs:=#[.string e.name,.slice p0 e.exports.length c0,.slice p1 e.funs.length c1]) (t:=42)).alloc (o:=.cells #[.string ⟨#[]⟩,.slice none 0 0,.slice none 0 0] 63)).alloc (o:=.cells #[.string e.name,.slice none 0 0,.slice none 0 0] 63);have bR:=(Blk.new (w:=(w.alloc (.cells #[.string e.name,.slice p0 e.exports.length c0,.slice p1 e.funs.length c1] 42))) (cs:=#[.string ⟨#[]⟩,.slice none 0 0,.slice none 0 0]) (t:=63)).alloc (o:=.cells #[.string e.name,.slice none 0 0,.slice none 0 0] 63);have bO:=(Blk.new (w:=((w.alloc (.cells #[.string e.name,.slice p0 e.exports.length c0,.slice p1 e.funs.length c1] 42)).alloc (.cells #[.string ⟨#[]⟩,.slice none 0 0,.slice none 0 0] 63))) (cs:=#[.string e.name,.slice none 0 0,.slice none 0 0]) (t:=63));simp only [Zb] at bA bR bO rgA
 replace bA:=bA.below hb (by simp only [Zb];omega)
 replace bR:=bR.below hb (by simp only [Zb];omega)
 replace bO:=bO.below hb (by simp only [Zb];omega)
 have B1:Below w.heap.size w w1:=hal.trans (hb.mono hal.size);have z1:w.heap.size+3<=w1.heap.size:=(by have:=hb.size;simp only [Zb] at this;omega);have Z1:=hid z1;have T0:=hid r0;have NA:=hid ndA;have GA:=hid rgA;clear hal hb z1 ndA rgA;obtain ⟨p0',c0',hu,_⟩:=r0.shape;subst hu;clear r0;have a2:=bA.cell 2 _ rfl;have o1:=bO.cell 1 _ rfl;have g1:=bO.frozen 1;have HA:=hid bA;have HR:=hid bR;have HO:Hid (Blk w1 (w.heap.size+1+1) #[.string e.name,.slice none 0 0,.slice none 0 0] 63):=bO;have HB1:=hid B1;clear bA bR bO B1;go_wp2_with fail;have hp:Below w.heap.size w (w1.setCell ⟨w.heap.size+1+1,1,none⟩ (.slice p0' e.exports.length c0')):=HB1.out.setCell (by show _<=w.heap.size+1+1;omega) _;refine (h1 _ _ e.funs (E1 _ (sqO hp)) hw1).mono ?_;rintro ex w2 ⟨u,fB,rfl,r1,ndB,rgB,hb⟩;have bA:=((HA.out.other (p:=⟨w.heap.size+1+1,1,none⟩) (v:=(.slice p0' e.exports.length c0')) (by show w.heap.size≠w.heap.size+1+1;omega)).below hb (by have:=Z1.out;simp only [ZL];omega));have bR:=((HR.out.other (p:=⟨w.heap.size+1+1,1,none⟩) (v:=(.slice p0' e.exports.length c0')) (by show w.heap.size+1≠w.heap.size+1+1;omega)).below hb (by have:=Z1.out;simp only [ZL];omega));have bO:=((HO.out.same (j:=1) (v:=(.slice p0' e.exports.length c0')) (cs':=#[.string e.name,.slice p0' e.exports.length c0',.slice none 0 0]) rfl).below hb (by have:=Z1.out;simp only [ZL];omega));have B2:Below w.heap.size w w2:=hp.trans (hb.mono hp.size);simp only [ZL] at rgB
 have k01:Zj fA w1 w2:=λa ha=>by
  have h:=GA.out a ha;exact (hb.block a (by simp only [ZL];exact h.2)).trans (Below.heap_setCell _ _ _ _ (by show a≠w.heap.size+1+1;omega))
 have T0:Hid (Zg w2 84 2 (ORf w2 d) (.slice p0' e.exports.length c0') e.exports fA):=(by have h:=T0.out;exact h.keep k01 (λcs x f _ hs h=>h));have T1:=hid r1;have sz2:w1.heap.size<=w2.heap.size:=(by have:=hb.size;simp only [ZL] at this;exact this)
 have HND:Hid ((fA ++ fB).Nodup):=by
  show List.Nodup _;rw [List.nodup_append];exact ⟨NA.out,ndB,λa ha b hb=>by have:=GA.out a ha;have:=rgB b hb;omega⟩
 have HRG:Hid (∀ a ∈ fA ++ fB,w.heap.size+1+1+1<=a/\a<w2.heap.size):=λa ha=>by
  rcases List.mem_append.1 ha with ha | ha
  . have:=GA.out a ha;omega
  . have:=rgB a ha;have:=Z1.out;omega
 have HB2:=hid B2;obtain ⟨p1',c1',hu,_⟩:=r1.shape;subst hu;clear hp hb r1 HA HR HO HB1 k01 ndB rgB NA GA sz2 B2;have o0:=bO.cell 0 _ rfl;have q0:=bR.cell 0 _ rfl;have k0:=bR.frozen 0;have o1:=bO.cell 1 _ rfl;have q1:=bR.cell 1 _ rfl;have k1:=bR.frozen 1;have o2:=bO.cell 2 _ rfl;have q2:=bR.cell 2 _ rfl;have k2:=bR.frozen 2;have g2:=bO.frozen 2;clear bA bR bO;go_wp2_with fail;have sf:Za (λg=>w.heap.size+1+1+1<=g) w2 ((((w2.setCell ⟨w.heap.size+1+1,2,none⟩ (.slice p1' e.funs.length c1')).setCell ⟨w.heap.size+1,0,none⟩ (.string e.name)).setCell ⟨w.heap.size+1,1,none⟩ (.slice p0' e.exports.length c0')).setCell ⟨w.heap.size+1,2,none⟩ (.slice p1' e.funs.length c1')):=Za.setCell (Za.setCell (Za.setCell (Za.setCell (sqO (Below.refl _ _)) (by show ¬ (_<=w.heap.size+1+1);omega) _) (by show ¬ (_<=w.heap.size+1);omega) _) (by show ¬ (_<=w.heap.size+1);omega) _) (by show ¬ (_<=w.heap.size+1);omega) _;have bf:Below w.heap.size w ((((w2.setCell ⟨w.heap.size+1+1,2,none⟩ (.slice p1' e.funs.length c1')).setCell ⟨w.heap.size+1,0,none⟩ (.string e.name)).setCell ⟨w.heap.size+1,1,none⟩ (.slice p0' e.exports.length c0')).setCell ⟨w.heap.size+1,2,none⟩ (.slice p1' e.funs.length c1')):=Below.setCell (Below.setCell (Below.setCell (Below.setCell (HB2.out) (by show _<=w.heap.size+1+1;omega) _) (by show _<=w.heap.size+1;omega) _) (by show _<=w.heap.size+1;omega) _) (by show _<=w.heap.size+1;omega) _;have kf:Zj (fA ++ fB) w2 ((((w2.setCell ⟨w.heap.size+1+1,2,none⟩ (.slice p1' e.funs.length c1')).setCell ⟨w.heap.size+1,0,none⟩ (.string e.name)).setCell ⟨w.heap.size+1,1,none⟩ (.slice p0' e.exports.length c0')).setCell ⟨w.heap.size+1,2,none⟩ (.slice p1' e.funs.length c1')):=λa ha=>sf.2 a (HRG.out a ha).1 (HRG.out a ha).2;have kA:=kf.sub (fp':=fA) (λa ha=>by simp [ha]);have kB:=kf.sub (fp':=fB) (λa ha=>by simp [ha]);have U0:=T0.out.keep kA (λcs x f _ hs h=>h);have U1:=T1.out.keep kB (λcs x f _ hs h=>h.keep (kB.sub hs))
 exact bodyPost_ret (v:=.agg #[.string e.name,.slice p0' e.exports.length c0',.slice p1' e.funs.length c1']) (by simp [results,results26,go_sem,q0,q1,q2]) rfl
  ⟨_,fA ++ fB,rfl,⟨_,rfl,_,_,fA,fB,rfl,rfl,s0,U0,U1⟩,HND.out,λa ha=>⟨by have:=(HRG.out a ha).1;omega,Nat.lt_of_lt_of_le (HRG.out a ha).2 sf.1⟩,bf⟩
theorem Zg7 (d:Nat):ToO 26 (λw v e=>∃ cs,v=.agg cs.toArray/\HMd w All d cs e) (λw v e fp=>∃ cs,v=.agg cs.toArray/\OMd w d cs e fp) (wtMd d) :=
 Zg6 (ZiV (Zkm (d:=d))) (ZiW (Zkn (Zgb d)))
theorem Zgc {d:Nat} (hE:ToO 26 (λw v e=>∃ cs,v=.agg cs.toArray/\HMd w All d cs e) (λw v e fp=>∃ cs,v=.agg cs.toArray/\OMd w d cs e fp) (wtMd d)) :
 ToO 8 (λw v es=>Rows w All 3 (HMd w All d) v es) (λw v es fp=>Zg w 63 3 (OMd w d) v es fp) (wtS (wtMd d)):=by
 intro w v es h hwt;obtain ⟨p,cap,rfl,hcl,hcm,hx⟩:=h;generalize hn:es.length=n at *;have HN:=hid hn;have HX:Hid _:=hx;have hnb:n<=16777216:=(by unfold wtS at hwt;omega);have HWT:=hid hwt;clear hx hn hwt;obtain ⟨M,hM,hmk⟩:=Za0 (t:=27) (e:=63) (c:=3) underlying27 (by kernel_rfl) w n hnb;have HO:Hid (Made w (w.alloc (.cells M 63)) w.heap.size n 63 3 (λw=>OMd w d) es 0 M.toList []):=Made.start hM (by unfold maxLen;omega)
 try unfold Bz
 generalize hG:w.heap.size=G at *;have HG:=hid hG;go_enter func8,ntmps8;go_wp2
 go_loopw [4] (λiv wr=>∃ (k:Nat) (xs:List Value) (fps:List (List Nat)),k<=n/\iv=.int .i64 k/\Hid (Made w wr G n 63 3 (λw=>OMd w d) es k xs fps)) (λiv _=>n - (intOf iv).toNat)
 case atStart=>exact ⟨0,M.toList,[],Nat.zero_le _,rfl,HO⟩
 case round =>
  obtain ⟨k,xs,fps,hk,rfl,HM⟩:=hrel;by_cases hlt:k<n
  . obtain ⟨x,hxk⟩:=sqA (l:=es) (k:=k) HN.out hlt
    obtain ⟨g,off,rfl,hg,hgl,hat⟩:=HX.out (sqE hxk);obtain ⟨cs,hcl6,hcs,hex⟩:=hat k x hxk;have hbw:Below w.heap.size w wr:=(by rw [HG.out];exact HM.out.below);have hex':∀ w',Za All wr w'->HMd w' All d cs x:=λw' hw=>hex.mono (Za.trans (sqO hbw) hw) sqj;obtain ⟨z0,z1,z2,rfl⟩:=len3 hcl6;obtain ⟨a0,a1,a2⟩:=sqC3 hcs (by omega);rw [<-hbw.cell (p:=⟨g,_,none⟩) (by show g<w.heap.size;rw [HG.out];exact hgl)] at a0 a1 a2;simp at a0 a1 a2
    have hwx:wtMd d x<=16777216:=by
     have h1:=HWT.out;have h2:=Ze (wtMd d) es k x hxk;have h3:=Zf (wtMd d) es (k+1);unfold wtS at h1;omega
    clear hbw hcs hat hex hcl6;go_wp2_with (go_at_call 26;go_must (refine (hE _ _ x ⟨_,rfl,hex' _ (by exact sqS)⟩ hwx).mono ?_;rintro e w1 ⟨u,fp,rfl,⟨cs',rfl,hx1⟩,hnd,hrg,hb1⟩;obtain ⟨st,p1,n1,q1,p2,n2,q2,hsh⟩:=hx1.shape;subst hsh;have HB1:=hid hb1;have HX1:=hid hx1;have HND:Hid fp.Nodup:=hnd;have HRG:=hid hrg;have o1:=HM.out.own.kept (ZQ (r:=none) hb1) (Or.inr (by simp [Value.ownBlock]));have HO1:=hid o1;have f0:=o1.frozenAt (k * 3);obtain ⟨y0,g0⟩:=Zl o1 (k * 3) (by omega);have f1:=o1.frozenAt (k * 3+1);obtain ⟨y1,g1⟩:=Zl o1 (k * 3+1) (by omega);have f2:=o1.frozenAt (k * 3+2);obtain ⟨y2,g2⟩:=Zl o1 (k * 3+2) (by omega);clear o1 hb1 hx1 hnd hrg));have sd:=Zdx HO1.out (k * 3) (.string st) (.slice p1 n1 q1) (.slice p2 n2 q2);have hlen:xs.length=n * 3:=HO1.out.1;exact ⟨⟨k+1,_,_,by omega,by go_num,Made.step (O:=λw=>OMd w d) (c:=3) (λw w' cs x f h hk=>h.keep hk) HM.out hxk HB1.out HX1.out HND.out HRG.out rfl sd.1 sd.2 (λm hm=>Zbe hm) (λj hj=>ZbL (by omega) j hj)⟩,by simp [intOf];omega⟩
  . obtain rfl:k=n:=by omega
    obtain ⟨fp,r1,r2,r3⟩:=HM.out.done HN.out (by unfold maxLen;omega);have R1:=hid r1;have R2:Hid (fp.Nodup/\∀ a ∈ fp,G<=a/\a<wr.heap.size):=⟨r2,r3⟩;clear r1 r2 r3;go_wp2;go_ret;exact ⟨_,fp,rfl,R1.out,R2.out.1,R2.out.2,HM.out.below⟩
theorem Zgd (d:Nat):ToO 8 (λw v es=>Rows w All 3 (HMd w All d) v es) (λw v es fp=>Zg w 63 3 (OMd w d) v es fp) (wtS (wtMd d)):=Zgc (Zg7 d)
theorem ZaU {w:World} {d:Nat} {v:Value} {es:List Md} {fp:List Nat} (h:Zg w 63 3 (OMd w d) v es fp):Rows w All 3 (HMd w All d) v es :=
 h.rows (λ_ _=>trivial) (λcs x f _ hs h=>h.tree (λ_ _=>trivial))
theorem ZH {w w':World} {d:Nat} {v:Value} {es:List Md} {fp:List Nat} (h:Zg w 63 3 (OMd w d) v es fp) (hk:Zj fp w w'):Zg w' 63 3 (OMd w' d) v es fp :=
 h.keep hk (λcs x f _ hs h=>h.keep (hk.sub hs))
theorem Z8 {w:World} {d:Nat} {v:Value} {es:List Md} {fp:List Nat} (h:Zg w 63 3 (OMd w d) v es fp):∀ a ∈ fp,a<w.heap.size :=
 h.lt (λcs x f h=>h.lt)
end
section
section
variable {H:Type} {enc:TypeId × Value->H} {P:Program} {w:World} {base:Nat} {sp:Nat->Bool} {held:Bool}
variable {tE tEs tC tCs tI tS tR tRs tF tFs tM:TypeId}
theorem Zlx (T:Zhe P tE tEs tC tCs tI tS tR tRs tF tFs tM) {fuel:Nat} {cs:List Value} {x:DataW H × List MemPlace} (h:DataW.trod enc P w base sp held fuel tM cs=some x) :
 ∃ m,HMd w (λg=>g<w.heap.size) fuel cs m:=by
 cases fuel with
 | zero=>simp [DataW.trod] at h
 | succ fuel =>
  obtain ⟨fs,hu,hfs⟩:=T.m;obtain ⟨hl,hat⟩:=ZaW hu hfs h;rw [T.cm] at hl;obtain ⟨a,b,c,rfl⟩:=len3 hl;obtain ⟨y0,h0⟩:=hat 0 _ _ rfl;obtain ⟨y1,h1⟩:=hat 1 _ _ rfl;obtain ⟨y2,h2⟩:=hat 2 _ _ rfl;rw [T.cS] at h0;rw [T.crs] at h1;rw [T.cfs] at h2;obtain ⟨s,rfl,hs⟩:=Zbm T.s h0
  cases fuel with
  | zero=>simp [DataW.trod] at h0
  | succ fuel =>
   obtain ⟨_,rs,hv,hr⟩:=Zci (R:=HRf) T.rs T.cr (by decide) (λcs x hx=>by
    cases fuel with
    | zero=>simp [DataW.trod] at hx
    | succ fuel =>
     obtain ⟨fs,hu,hfs⟩:=T.r;obtain ⟨hl,hat⟩:=ZaW hu hfs hx;rw [T.cr] at hl;obtain ⟨a,b,rfl⟩:=len2 hl;obtain ⟨y0,h0⟩:=hat 0 _ _ rfl;obtain ⟨y1,h1⟩:=hat 1 _ _ rfl;rw [T.cS] at h0;rw [T.ci] at h1;obtain ⟨s,rfl,hs⟩:=Zbm T.s h0;obtain ⟨i,rfl,hi⟩:=ZbJ T.i h1
     exact ⟨⟨s,i⟩,rfl,hs,hi⟩) h1
   cases hv
   obtain ⟨_,fs,hv,hf⟩:=Zci (R:=HFn w (λg=>g<w.heap.size) (fuel+1)) T.fs T.cf (by decide) (λcs x hx=>by
    cases fuel with
    | zero=>simp [DataW.trod] at hx
    | succ fuel =>
     obtain ⟨fs,hu,hfs⟩:=T.f;obtain ⟨hl,hat⟩:=ZaW hu hfs hx;rw [T.cf] at hl;obtain ⟨a,b,c,rfl⟩:=len3 hl;obtain ⟨y0,h0⟩:=hat 0 _ _ rfl;obtain ⟨y1,h1⟩:=hat 1 _ _ rfl;obtain ⟨y2,h2⟩:=hat 2 _ _ rfl;rw [T.cS] at h0;rw [T.ci] at h1;rw [T.ccs] at h2;obtain ⟨s,rfl,hs⟩:=Zbm T.s h0;obtain ⟨i,rfl,hi⟩:=ZbJ T.i h1;obtain ⟨cls,hcls⟩:=ZhT T.toExTypes (n:=fuel+1+1) (ZlM T.toExTypes (fuel+1+1)) (by omega) h2
     exact ⟨⟨s,i,cls⟩,c,rfl,hs,hi,hcls⟩) h2
   cases hv
   exact ⟨⟨s,rs,fs⟩,HMd.deeper (d:=fuel+1) (by omega) ⟨b,c,rfl,hs,hr,hf⟩⟩
theorem Zly (T:Zhe P tE tEs tC tCs tI tS tR tRs tF tFs tM) {tMs:TypeId} (hMs:P.underlying tMs=some (.slice tM)) {v:Value} {dd:DataW H} {ps:List MemPlace} (hc:v.cells.toList = [v]) (h:DataW.Trod enc P w base sp held tMs v dd ps) :
 ∃ d ms,Rows w (λg=>g<w.heap.size) 3 (HMd w (λg=>g<w.heap.size) d) v ms:=by
 obtain ⟨fuel,h⟩:=h
 cases fuel with
 | zero=>simp [DataW.trod] at h
 | succ fuel =>
  obtain ⟨v',xs,hv,hr⟩:=Zci (R:=HMd w (λg=>g<w.heap.size) fuel) hMs T.cm (by decide) (λcs x hx=>Zlx T hx) h;rw [hc] at hv
  cases hv
  exact ⟨_,_,hr⟩
end
end
theorem len4 {cs:List Value} (h:cs.length=4):∃ a b c d,cs = [a,b,c,d]:=by
 match cs,h with
 | [a,b,c,d],_=>exact ⟨a,b,c,d,rfl⟩
theorem Zmp {H:Type} {enc:TypeId × Value->H} {P:Program} {w:World} {base:Nat} {sp:Nat->Bool} {held:Bool} {t tS tI:TypeId} {v:Value} {dd:DataW H} {ps:List MemPlace}
 (ht:∃ fs,P.underlying t=some (.struct fs)/\(fs.toList.map λf=>(f.type,f.offset)) = [(tS,0),(tS,1),(tI,2),(tI,3)]) (hS:P.underlying tS=some .string) (hI:P.underlying tI=some (.int .i64)) (c0:P.cellsOf t=4) (c1:P.cellsOf tS=1) (c2:P.cellsOf tI=1)
 (h:DataW.Trod enc P w base sp held t v dd ps):∃ q:Pl,v=.agg #[.string q.mod,.string q.name,.int .i64 q.arity,.int .i64 q.clause]/\okS q.mod/\okS q.name/\okI q.arity/\okI q.clause:=by
 obtain ⟨fuel,h⟩:=h
 cases fuel with
 | zero=>simp [DataW.trod] at h
 | succ fuel =>
  obtain ⟨fs,hu,hfs⟩:=ht;obtain ⟨hl,hat⟩:=ZaW hu hfs h;rw [c0] at hl;obtain ⟨a,b,c,d,hcs⟩:=len4 hl;rw [hcs] at hat;obtain ⟨y0,h0⟩:=hat 0 _ _ rfl;obtain ⟨y1,h1⟩:=hat 1 _ _ rfl;obtain ⟨y2,h2⟩:=hat 2 _ _ rfl;obtain ⟨y3,h3⟩:=hat 3 _ _ rfl;rw [c1] at h0 h1;rw [c2] at h2 h3;obtain ⟨s0,rfl,k0⟩:=Zbm hS h0;obtain ⟨s1,rfl,k1⟩:=Zbm hS h1;obtain ⟨n,rfl,k2⟩:=ZbJ hI h2;obtain ⟨s3,rfl,k3⟩:=ZbJ hI h3;exact ⟨⟨s0,s1,n,s3⟩,Zgj (cs:=[.string s0,.string s1,.int .i64 n,.int .i64 s3]) hcs (by simp),k0,k1,k2,k3⟩
end Go.Proofs.YtdhlonogmnkemaaGreatDoor
