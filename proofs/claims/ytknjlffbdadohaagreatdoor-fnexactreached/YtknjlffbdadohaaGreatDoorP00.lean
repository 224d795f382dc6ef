/-
  Sq
-/
import Derived.Test.YtknjlffbdadohaaGreatDoorP12
set_option maxHeartbeats 16000000
set_option linter.unusedVariables false
set_option maxRecDepth 100000
namespace Go.Proofs.YtknjlffbdadohaaGreatDoor
open Go.ChangeShapes Go.WideShapes Go.ChangeAt Go.RowKit
theorem hid {p:Prop} (h:p):Hid p:=h
theorem sqR (n:Nat):n≤n:=Nat.le_refl n
theorem sqN (w:World) (o:Obj):Below w.heap.size w (w.alloc o):=(Below.refl _ _).alloc (Nat.le_refl _) _
theorem sqA {α:Type} {l:List α} {n k:Nat} (h:l.length=n) (hk:k<n):∃ x,l[k]?=some x:=⟨l[k]'(by omega),List.getElem?_eq_getElem _⟩
theorem sqT {α:Type} {l:List α} {n:Nat} (h:l.length=n):l.take n=l:=List.take_of_length_le (by omega)
theorem sqI (k:Nat):(0:Int)≤(k:Int):=by omega
theorem sqL {k n:Nat} (h:k<n):(k:Int)<(n:Int):=by omega
theorem sqB2 {w:World} {b:Nat} {a0 a1:Value} {t:TypeId} (h:Blk w b #[a0,a1] t):w.cell? ⟨b,0,none⟩=some a0∧w.cell? ⟨b,1,none⟩=some a1:=⟨h.cell 0 _ rfl,h.cell 1 _ rfl⟩
theorem sqB3 {w:World} {b:Nat} {a0 a1 a2:Value} {t:TypeId} (h:Blk w b #[a0,a1,a2] t):w.cell? ⟨b,0,none⟩=some a0∧w.cell? ⟨b,1,none⟩=some a1∧w.cell? ⟨b,2,none⟩=some a2:=⟨h.cell 0 _ rfl,h.cell 1 _ rfl,h.cell 2 _ rfl⟩
theorem sqB4 {w:World} {b:Nat} {a0 a1 a2 a3:Value} {t:TypeId} (h:Blk w b #[a0,a1,a2,a3] t):w.cell? ⟨b,0,none⟩=some a0∧w.cell? ⟨b,1,none⟩=some a1∧w.cell? ⟨b,2,none⟩=some a2∧w.cell? ⟨b,3,none⟩=some a3:=⟨h.cell 0 _ rfl,h.cell 1 _ rfl,h.cell 2 _ rfl,h.cell 3 _ rfl⟩
theorem sqB6 {w:World} {b:Nat} {a0 a1 a2 a3 a4 a5:Value} {t:TypeId} (h:Blk w b #[a0,a1,a2,a3,a4,a5] t):w.cell? ⟨b,0,none⟩=some a0∧w.cell? ⟨b,1,none⟩=some a1∧w.cell? ⟨b,2,none⟩=some a2∧w.cell? ⟨b,3,none⟩=some a3∧w.cell? ⟨b,4,none⟩=some a4∧w.cell? ⟨b,5,none⟩=some a5:=⟨h.cell 0 _ rfl,h.cell 1 _ rfl,h.cell 2 _ rfl,h.cell 3 _ rfl,h.cell 4 _ rfl,h.cell 5 _ rfl⟩
theorem sqF2 {w:World} {b:Nat} {cs:Array Value} {t:TypeId} (h:Blk w b cs t):w.frozen? ⟨b,0,none⟩=false∧w.frozen? ⟨b,1,none⟩=false:=⟨h.frozen 0,h.frozen 1⟩
theorem sqF3 {w:World} {b:Nat} {cs:Array Value} {t:TypeId} (h:Blk w b cs t):w.frozen? ⟨b,0,none⟩=false∧w.frozen? ⟨b,1,none⟩=false∧w.frozen? ⟨b,2,none⟩=false:=⟨h.frozen 0,h.frozen 1,h.frozen 2⟩
theorem sqF4 {w:World} {b:Nat} {cs:Array Value} {t:TypeId} (h:Blk w b cs t):w.frozen? ⟨b,0,none⟩=false∧w.frozen? ⟨b,1,none⟩=false∧w.frozen? ⟨b,2,none⟩=false∧w.frozen? ⟨b,3,none⟩=false:=⟨h.frozen 0,h.frozen 1,h.frozen 2,h.frozen 3⟩
theorem sqF6 {w:World} {b:Nat} {cs:Array Value} {t:TypeId} (h:Blk w b cs t):w.frozen? ⟨b,0,none⟩=false∧w.frozen? ⟨b,1,none⟩=false∧w.frozen? ⟨b,2,none⟩=false∧w.frozen? ⟨b,3,none⟩=false∧w.frozen? ⟨b,4,none⟩=false∧w.frozen? ⟨b,5,none⟩=false:=⟨h.frozen 0,h.frozen 1,h.frozen 2,h.frozen 3,h.frozen 4,h.frozen 5⟩
theorem sqC2 {w:World} {g o c:Nat} {cs:List Value} (h:∀ j,j<c→w.cell? ⟨g,o+j,none⟩=cs[j]?) (k:2≤c):w.cell? ⟨g,o+0,none⟩=cs[0]?∧w.cell? ⟨g,o+1,none⟩=cs[1]?:=⟨h 0 (by omega),h 1 (by omega)⟩
theorem sqC3 {w:World} {g o c:Nat} {cs:List Value} (h:∀ j,j<c→w.cell? ⟨g,o+j,none⟩=cs[j]?) (k:3≤c):w.cell? ⟨g,o+0,none⟩=cs[0]?∧w.cell? ⟨g,o+1,none⟩=cs[1]?∧w.cell? ⟨g,o+2,none⟩=cs[2]?:=⟨h 0 (by omega),h 1 (by omega),h 2 (by omega)⟩
theorem sqC4 {w:World} {g o c:Nat} {cs:List Value} (h:∀ j,j<c→w.cell? ⟨g,o+j,none⟩=cs[j]?) (k:4≤c):w.cell? ⟨g,o+0,none⟩=cs[0]?∧w.cell? ⟨g,o+1,none⟩=cs[1]?∧w.cell? ⟨g,o+2,none⟩=cs[2]?∧w.cell? ⟨g,o+3,none⟩=cs[3]?:=⟨h 0 (by omega),h 1 (by omega),h 2 (by omega),h 3 (by omega)⟩
theorem sqC5 {w:World} {g o c:Nat} {cs:List Value} (h:∀ j,j<c→w.cell? ⟨g,o+j,none⟩=cs[j]?) (k:5≤c):w.cell? ⟨g,o+0,none⟩=cs[0]?∧w.cell? ⟨g,o+1,none⟩=cs[1]?∧w.cell? ⟨g,o+2,none⟩=cs[2]?∧w.cell? ⟨g,o+3,none⟩=cs[3]?∧w.cell? ⟨g,o+4,none⟩=cs[4]?:=⟨h 0 (by omega),h 1 (by omega),h 2 (by omega),h 3 (by omega),h 4 (by omega)⟩
theorem sqC6 {w:World} {g o c:Nat} {cs:List Value} (h:∀ j,j<c→w.cell? ⟨g,o+j,none⟩=cs[j]?) (k:6≤c):w.cell? ⟨g,o+0,none⟩=cs[0]?∧w.cell? ⟨g,o+1,none⟩=cs[1]?∧w.cell? ⟨g,o+2,none⟩=cs[2]?∧w.cell? ⟨g,o+3,none⟩=cs[3]?∧w.cell? ⟨g,o+4,none⟩=cs[4]?∧w.cell? ⟨g,o+5,none⟩=cs[5]?:=⟨h 0 (by omega),h 1 (by omega),h 2 (by omega),h 3 (by omega),h 4 (by omega),h 5 (by omega)⟩
theorem sqE {α:Type} {l:List α} {k:Nat} {x:α} (h:l[k]?=some x):l≠[]:=by rintro rfl;simp at h
theorem sqM {n c:Nat} (h:n≤c) (k:c≤maxLen):n≤9223372036854775807:=by unfold maxLen at k;omega
theorem sqO {S:Nat→Prop} {w w':World} (h:Below w.heap.size w w'):SameOn S w w':=SameOn.of_below h
theorem sqK {w w':World} {a:Addr} (h:w'.heap[a.block]?=w.heap[a.block]?):w'.cell? a=w.cell? a:=World.cell?_of_block h
theorem sqS {S:Nat→Prop} {w:World}:SameOn S w w:=⟨Nat.le_refl _,fun _ _ _=>rfl⟩
theorem sqj {S:Nat→Prop} (g:Nat) (h:S g):S g:=h
abbrev Bz (w w':World):Prop:=Below w.heap.size w w'
end Go.Proofs.YtknjlffbdadohaaGreatDoor
