/-
  Gen Sq Own ExOwn ModOwn Eq
-/
import Derived.Test.YtacioihbhkcdcaaGreatDoorP02
import Derived.Deep.RegionHeld3
import Derived.WalkSmall
import Derived.Deep.DeepMust
set_option maxHeartbeats 16000000
set_option linter.unusedVariables false
set_option maxRecDepth 100000
namespace Go.Proofs.YtacioihbhkcdcaaGreatDoor
open Go.ChangeShapes Go.WideShapes Go.ChangeAt Go.RowKit
theorem Zam {α:Type} (f:α→Nat) (xs:List α) (k:Nat) (x:α) (h:xs[k]?=some x):((xs.take (k+1)).map f).sum=((xs.take k).map f).sum+f x:=by
  rw [List.take_add_one,h];simp
theorem ZaB {α:Type} (f:α→Nat) (xs:List α) (k:Nat):((xs.take k).map f).sum≤(xs.map f).sum:=by
  conv=>rhs;rw [← List.take_append_drop k xs]
  rw [List.map_append,List.sum_append];omega
def EqC {α:Type} (F:FuncId) (H:World→Value→α→Prop):Prop :=
  ∀ (w:World) (v1 v2:Value) (x:α),H w v1 x→H w v2 x→Calls Tryz.prog F #[v1,v2] w fun e w'=>e=.returned (.bool true)∧Below w.heap.size w w'
theorem Zea {a b c:World} {r:Option Nat} (h:a.grownBy b r) (k:b.grownBy c r):a.grownBy c r :=
  ⟨k.os.trans h.os,k.tape.trans h.tape,k.output.trans h.output,Nat.le_trans h.size k.size,fun j hj hr=>(k.block j (Nat.lt_of_lt_of_le hj h.size) hr).trans (h.block j hj hr)⟩
theorem Za1 {a b:World} {r:Option Nat} (h:Below a.heap.size a b):a.grownBy b r:=⟨h.os,h.tape,h.output,h.size,fun j hj _=>h.block j hj⟩
def Blk (w:World) (b:Nat) (cs:Array Value) (t:TypeId):Prop:=w.heap[b]?=some (.cells cs t)
theorem Blk.cell {w:World} {b:Nat} {cs:Array Value} {t:TypeId} (h:Blk w b cs t) (j:Nat) (v:Value) (hv:cs[j]?=some v):w.cell? ⟨b,j,none⟩=some v:=by
  unfold Blk at h;unfold World.cell?;rw [h];simpa using hv
theorem Blk.frozen {w:World} {b:Nat} {cs:Array Value} {t:TypeId} (h:Blk w b cs t) (j:Nat):w.frozen? ⟨b,j,none⟩=false:=by
  unfold Blk at h;unfold World.frozen?;rw [h];simp
theorem Blk.below {w w':World} {N b:Nat} {cs:Array Value} {t:TypeId} (h:Blk w b cs t) (hb:Below N w w') (hN:b<N):Blk w' b cs t:=(hb.block b hN).trans h
theorem Blk.new {w:World} {cs:Array Value} {t:TypeId}:Blk (w.alloc (.cells cs t)) w.heap.size cs t:=by
  show (w.heap.push _)[w.heap.size]?=_;simp
theorem Blk.alloc {w:World} {b:Nat} {cs:Array Value} {t:TypeId} {o:Obj} (h:Blk w b cs t):Blk (w.alloc o) b cs t :=
  (Below.heap_alloc _ _ _ (by unfold Blk at h;exact (Array.getElem?_eq_some_iff.1 h).1)).trans h
theorem Blk.same {w:World} {b j:Nat} {cs cs':Array Value} {t:TypeId} {v:Value} (h:Blk w b cs t) (hc:cs.setIfInBounds j v=cs'):Blk (w.setCell ⟨b,j,none⟩ v) b cs' t:=by
  subst hc;exact heap_setCell_same w b j cs t v h
theorem Blk.other {w:World} {b:Nat} {p:Addr} {cs:Array Value} {t:TypeId} {v:Value} (h:Blk w b cs t) (hp:b≠p.block):Blk (w.setCell p v) b cs t:=(Below.heap_setCell _ _ _ _ hp).trans h
theorem ZaQ (w:World) (p:Addr) (v:Value):(w.setCell p v).heap.size=w.heap.size:=by simp [World.setCell]
theorem Zgx {a b:ByteArray} (h:¬ a=b):¬ a.toList=b.toList:=fun e=>h (bytes_inj (by rw [← ByteArray.toList_eq,← ByteArray.toList_eq,e]))
theorem ZfV {a b:ByteArray} (h:¬ a=b):(a.toList == b.toList)=false:=by simpa using Zgx h
theorem Blk.lt {w:World} {b:Nat} {cs:Array Value} {t:TypeId} (h:Blk w b cs t):b<w.heap.size:=by
  unfold Blk at h;exact (Array.getElem?_eq_some_iff.1 h).1
theorem Blk.next {w w':World} {b:Nat} {cs:Array Value} {t:TypeId} (h:Blk w b cs t) (hb:Below w.heap.size w w'):Blk w' b cs t:=h.below hb h.lt
theorem ZF {w w':World} {a:Addr} {v:Value} (hb:Below w.heap.size w w') (h:w.cell? a=some v):w'.cell? a=some v:=by
  refine (hb.cell (p:=a) ?_).trans h;unfold World.cell? at h
  split at h
  · rename_i heq;exact (Array.getElem?_eq_some_iff.1 heq).1
  · cases h
theorem Blk.same_on {w w':World} {b:Nat} {cs:Array Value} {t:TypeId} (h:Blk w b cs t) (hs:Ze All w w'):Blk w' b cs t :=
  (hs.2 b trivial (by unfold Blk at h;exact (Array.getElem?_eq_some_iff.1 h).1)).trans h
theorem hid {p:Prop} (h:p):Hid p:=h
theorem sqR (n:Nat):n≤n:=Nat.le_refl n
theorem sqN (w:World) (o:Obj):Below w.heap.size w (w.alloc o):=(Below.refl _ _).alloc (Nat.le_refl _) _
theorem sqA {α:Type} {l:List α} {n k:Nat} (h:l.length=n) (hk:k<n):∃ x,l[k]?=some x:=⟨l[k]'(by omega),List.getElem?_eq_getElem _⟩
theorem sqT {α:Type} {l:List α} {n:Nat} (h:l.length=n):l.take n=l:=List.take_of_length_le (by omega)
theorem sqI (k:Nat):(0:Int)≤(k:Int):=by omega
theorem sqL {k n:Nat} (h:k<n):(k:Int)<(n:Int):=by omega
theorem sqB2 {w:World} {b:Nat} {a0 a1:Value} {t:TypeId} (h:Blk w b #[a0,a1] t):w.cell? ⟨b,0,none⟩=some a0∧w.cell? ⟨b,1,none⟩=some a1:=⟨h.cell 0 _ rfl,h.cell 1 _ rfl⟩
theorem sqB3 {w:World} {b:Nat} {a0 a1 a2:Value} {t:TypeId} (h:Blk w b #[a0,a1,a2] t):w.cell? ⟨b,0,none⟩=some a0∧w.cell? ⟨b,1,none⟩=some a1∧w.cell? ⟨b,2,none⟩=some a2:=⟨h.cell 0 _ rfl,h.cell 1 _ rfl,h.cell 2 _ rfl⟩
theorem sqB4 {w:World} {b:Nat} {a0 a1 a2 a3:Value} {t:TypeId} (h:Blk w b #[a0,a1,a2,a3] t):w.cell? ⟨b,0,none⟩=some a0∧w.cell? ⟨b,1,none⟩=some a1∧w.cell? ⟨b,2,none⟩=some a2∧w.cell? ⟨b,3,none⟩=some a3:=⟨h.cell 0 _ rfl,h.cell 1 _ rfl,h.cell 2 _ rfl,h.cell 3 _ rfl⟩
theorem sqB6 {w:World} {b:Nat} {a0 a1 a2 a3 a4 a5:Value} {t:TypeId} (h:Blk w b #[a0,a1,a2,a3,a4,a5] t):w.cell? ⟨b,0,none⟩=some a0∧w.cell? ⟨b,1,none⟩=some a1∧w.cell? ⟨b,2,none⟩=some a2∧w.cell? ⟨b,3,none⟩=some a3∧w.cell? ⟨b,4,none⟩=some a4∧w.cell? ⟨b,5,none⟩=some a5:=⟨h.cell 0 _ rfl,h.cell 1 _ rfl,h.cell 2 _ rfl,h.cell 3 _ rfl,h.cell 4 _ rfl,h.cell 5 _ rfl⟩
theorem sqF2 {w:World} {b:Nat} {cs:Array Value} {t:TypeId} (h:Blk w b cs t):w.frozen? ⟨b,0,none⟩=false∧w.frozen? ⟨b,1,none⟩=false:=⟨h.frozen 0,h.frozen 1⟩
theorem sqF3 {w:World} {b:Nat} {cs:Array Value} {t:TypeId} (h:Blk w b cs t):w.frozen? ⟨b,0,none⟩=false∧w.frozen? ⟨b,1,none⟩=false∧w.frozen? ⟨b,2,none⟩=false:=⟨h.frozen 0,h.frozen 1,h.frozen 2⟩
theorem sqF4 {w:World} {b:Nat} {cs:Array Value} {t:TypeId} (h:Blk w b cs t):w.frozen? ⟨b,0,none⟩=false∧w.frozen? ⟨b,1,none⟩=false∧w.frozen? ⟨b,2,none⟩=false∧w.frozen? ⟨b,3,none⟩=false:=⟨h.frozen 0,h.frozen 1,h.frozen 2,h.frozen 3⟩
theorem sqF6 {w:World} {b:Nat} {cs:Array Value} {t:TypeId} (h:Blk w b cs t):w.frozen? ⟨b,0,none⟩=false∧w.frozen? ⟨b,1,none⟩=false∧w.frozen? ⟨b,2,none⟩=false∧w.frozen? ⟨b,3,none⟩=false∧w.frozen? ⟨b,4,none⟩=false∧w.frozen? ⟨b,5,none⟩=false:=⟨h.frozen 0,h.frozen 1,h.frozen 2,h.frozen 3,h.frozen 4,h.frozen 5⟩
theorem sqC2 {w:World} {g o c:Nat} {cs:List Value} (h:∀ j,j<c→w.cell? ⟨g,o+j,none⟩=cs[j]?) (k:2≤c):w.cell? ⟨g,o+0,none⟩=cs[0]?∧w.cell? ⟨g,o+1,none⟩=cs[1]?:=⟨h 0 (by omega),h 1 (by omega)⟩
theorem sqC3 {w:World} {g o c:Nat} {cs:List Value} (h:∀ j,j<c→w.cell? ⟨g,o+j,none⟩=cs[j]?) (k:3≤c):w.cell? ⟨g,o+0,none⟩=cs[0]?∧w.cell? ⟨g,o+1,none⟩=cs[1]?∧w.cell? ⟨g,o+2,none⟩=cs[2]?:=⟨h 0 (by omega),h 1 (by omega),h 2 (by omega)⟩
theorem sqC4 {w:World} {g o c:Nat} {cs:List Value} (h:∀ j,j<c→w.cell? ⟨g,o+j,none⟩=cs[j]?) (k:4≤c):w.cell? ⟨g,o+0,none⟩=cs[0]?∧w.cell? ⟨g,o+1,none⟩=cs[1]?∧w.cell? ⟨g,o+2,none⟩=cs[2]?∧w.cell? ⟨g,o+3,none⟩=cs[3]?:=⟨h 0 (by omega),h 1 (by omega),h 2 (by omega),h 3 (by omega)⟩
theorem sqC5 {w:World} {g o c:Nat} {cs:List Value} (h:∀ j,j<c→w.cell? ⟨g,o+j,none⟩=cs[j]?) (k:5≤c):w.cell? ⟨g,o+0,none⟩=cs[0]?∧w.cell? ⟨g,o+1,none⟩=cs[1]?∧w.cell? ⟨g,o+2,none⟩=cs[2]?∧w.cell? ⟨g,o+3,none⟩=cs[3]?∧w.cell? ⟨g,o+4,none⟩=cs[4]?:=⟨h 0 (by omega),h 1 (by omega),h 2 (by omega),h 3 (by omega),h 4 (by omega)⟩
theorem sqC6 {w:World} {g o c:Nat} {cs:List Value} (h:∀ j,j<c→w.cell? ⟨g,o+j,none⟩=cs[j]?) (k:6≤c):w.cell? ⟨g,o+0,none⟩=cs[0]?∧w.cell? ⟨g,o+1,none⟩=cs[1]?∧w.cell? ⟨g,o+2,none⟩=cs[2]?∧w.cell? ⟨g,o+3,none⟩=cs[3]?∧w.cell? ⟨g,o+4,none⟩=cs[4]?∧w.cell? ⟨g,o+5,none⟩=cs[5]?:=⟨h 0 (by omega),h 1 (by omega),h 2 (by omega),h 3 (by omega),h 4 (by omega),h 5 (by omega)⟩
theorem sqE {α:Type} {l:List α} {k:Nat} {x:α} (h:l[k]?=some x):l≠[]:=by rintro rfl;simp at h
theorem sqM {n c:Nat} (h:n≤c) (k:c≤maxLen):n≤9223372036854775807:=by unfold maxLen at k;omega
theorem sqO {S:Nat→Prop} {w w':World} (h:Below w.heap.size w w'):Ze S w w':=Ze.of_below h
theorem sqK {w w':World} {a:Addr} (h:w'.heap[a.block]?=w.heap[a.block]?):w'.cell? a=w.cell? a:=World.cell?_of_block h
theorem sqS {S:Nat→Prop} {w:World}:Ze S w w:=⟨Nat.le_refl _,fun _ _ _=>rfl⟩
theorem sqj {S:Nat→Prop} (g:Nat) (h:S g):S g:=h
abbrev Bz (w w':World):Prop:=Below w.heap.size w w'
section
def Zu (fp:List Nat) (w w':World):Prop:=∀ a ∈ fp,w'.heap[a]?=w.heap[a]?
theorem Zu.sub {fp fp':List Nat} {w w':World} (h:Zu fp w w') (hs:∀ a ∈ fp',a ∈ fp):Zu fp' w w':=λa ha=>h a (hs a ha)
theorem Zu.below {fp:List Nat} {w w':World} {N:Nat} (h:Below N w w') (hs:∀ a ∈ fp,a<N):Zu fp w w':=λa ha=>h.block a (hs a ha)
structure Off (fp:List Nat) (w w':World):Prop where
 os:w'.os=w.os
 tape:w'.tape=w.tape
 output:w'.output=w.output
 size:w.heap.size<=w'.heap.size
 block:∀ a,a<w.heap.size->a ∉ fp->w'.heap[a]?=w.heap[a]?
theorem Off.refl (fp:List Nat) (w:World):Off fp w w:=⟨rfl,rfl,rfl,Nat.le_refl _,λ_ _ _=>rfl⟩
theorem Off.trans {fp:List Nat} {a b c:World} (h:Off fp a b) (k:Off fp b c):Off fp a c :=
 ⟨k.os.trans h.os,k.tape.trans h.tape,k.output.trans h.output,Nat.le_trans h.size k.size,λg hg hf=>(k.block g (Nat.lt_of_lt_of_le hg h.size) hf).trans (h.block g hg hf)⟩
theorem Off.sub {fp fp':List Nat} {a b:World} (h:Off fp a b) (hs:∀ g ∈ fp,g ∈ fp'):Off fp' a b :=
 ⟨h.os,h.tape,h.output,h.size,λg hg hf=>h.block g hg (λhm=>hf (hs g hm))⟩
theorem Off.of_below {fp:List Nat} {a b:World} (h:Bz a b):Off fp a b:=⟨h.os,h.tape,h.output,h.size,λg hg _=>h.block g hg⟩
theorem Off.of_grown {fp:List Nat} {a b:World} {g:Nat} (h:a.grownBy b (some g)) (hg:g ∈ fp):Off fp a b :=
 ⟨h.os,h.tape,h.output,h.size,λj hj hf=>h.block j hj (by simp;intro e;exact hf (e ▸ hg))⟩
theorem Off.below {fp:List Nat} {a b:World} {N:Nat} (h:Off fp a b) (hs:∀ g ∈ fp,N<=g) (hN:N<=a.heap.size):Below N a b :=
 ⟨h.os,h.tape,h.output,h.size,λj hj=>h.block j (Nat.lt_of_lt_of_le hj hN) (λhm=>by have:=hs j hm;omega)⟩
theorem Off.keep {fp f:List Nat} {a b:World} (h:Off fp a b) (hs:∀ g ∈ f,g<a.heap.size/\g ∉ fp):Zu f a b:=λg hg=>h.block g (hs g hg).1 (hs g hg).2
theorem Off.under {fp:List Nat} {w A B:World} {N:Nat} (h:Off fp w A) (hN:w.heap.size<=N) (hb:Below N A B):Off fp w B :=
 ⟨hb.os.trans h.os,hb.tape.trans h.tape,hb.output.trans h.output,Nat.le_trans h.size hb.size,λg hg hf=>(hb.block g (by omega)).trans (h.block g hg hf)⟩
def Zy {α:Type} (w:World) (e:TypeId) (c:Nat) (R:List Value->α->List Nat->Prop) (v:Value) (xs:List α) (fp:List Nat):Prop :=
 (xs = []/\fp = []/\∃ p cap,v=.slice p 0 cap/\cap<=maxLen) \/
  (xs≠[]/\∃ (cells:List Value) (g cap:Nat) (fps:List (List Nat)),w.ownsRow 0 e c v xs.length cells/\v=.slice (some ⟨g,0,none⟩) xs.length cap/\fps.length=xs.length/\fp=g :: fps.flatten /\
   ∀ (i:Nat) x f,xs[i]?=some x->fps[i]?=some f->∃ cs:List Value,cs.length=c/\(∀ j,j<c->cells[i * c+j]?=cs[j]?)/\R cs x f)
theorem ZbB {w w':World} {e:TypeId} {c g n cap:Nat} {v:Value} {cells:List Value} (h:w.ownsRow 0 e c v n cells) (hv:v=.slice (some ⟨g,0,none⟩) n cap) (hk:w'.heap[g]?=w.heap[g]?):w'.ownsRow 0 e c v n cells:=by
 refine ⟨h.1,?_⟩
 rcases h.2 with hn | ⟨g',cap',cur,hv',hb,hg,hr⟩
 . exact .inl hn
 . have:g'=g:=by rw [hv] at hv';simp at hv';exact hv'.1.symm
   subst this;exact .inr ⟨g',cap',cur,hv',hb,hk.trans hg,hr⟩
theorem Zbh {w:World} {e:TypeId} {c g n cap:Nat} {v:Value} {cells:List Value} (h:w.ownsRow 0 e c v n cells) (hv:v=.slice (some ⟨g,0,none⟩) n cap):g<w.heap.size:=by
 rcases h.2 with hn | ⟨g',cap',cur,hv',hb,hg,hr⟩
 . rw [hn.1] at hv;cases hv
 . have:g'=g:=by rw [hv] at hv';simp at hv';exact hv'.1.symm
   subst this;exact (Array.getElem?_eq_some_iff.1 hg).1
theorem Zy.shape {α:Type} {w:World} {e:TypeId} {c:Nat} {R:List Value->α->List Nat->Prop} {v:Value} {xs:List α} {fp:List Nat} (h:Zy w e c R v xs fp):∃ p cap,v=.slice p xs.length cap/\xs.length<=cap/\cap<=maxLen:=by
 rcases h with ⟨rfl,_,p,cap,hv,hc⟩ | ⟨_,cells,g,cap,fps,ho,hv,_⟩
 . exact ⟨p,cap,hv,Nat.zero_le _,hc⟩
 . rcases ho.2 with hn | ⟨g',cap',cur,hv',hb,hg,hr⟩
   . rw [hn.1] at hv;cases hv
   . exact ⟨_,_,hv',hr.1,hr.2.1⟩
theorem Zy.rows {α:Type} {w:World} {e:TypeId} {c:Nat} {R:List Value->α->List Nat->Prop} {R':List Value->α->Prop} {S:Nat->Prop} {v:Value} {xs:List α} {fp:List Nat} (h:Zy w e c R v xs fp) (hS:∀ a ∈ fp,S a)
 (hR:∀ cs x f,x ∈ xs->(∀ a ∈ f,a ∈ fp)->R cs x f->R' cs x):Rows w S c R' v xs:=by
 obtain ⟨p,cap,hv,h1,h2⟩:=h.shape;refine ⟨p,cap,hv,h1,h2,λhne=>?_⟩
 rcases h with h | ⟨_,cells,g,cap',fps,ho,hv',hl,rfl,hat⟩
 . exact absurd h.1 hne
 have hp:p=some ⟨g,0,none⟩:=(by rw [hv] at hv';simp at hv';exact hv'.1);refine ⟨g,0,hp,hS g (by simp),Zbh ho hv',λi x hi=>?_⟩;have hil:i<xs.length:=(List.getElem?_eq_some_iff.1 hi).1;obtain ⟨f,hf⟩:∃ f,fps[i]?=some f:=⟨fps[i]'(by rw [hl];exact hil),List.getElem?_eq_getElem _⟩;obtain ⟨cs,hcl,hcs,hr⟩:=hat i x f hi hf;refine ⟨cs,hcl,λj hj=>?_,hR cs x f (List.mem_of_getElem? hi) (λa ha=>?_) hr⟩
 . rw [<-hcs j hj,Nat.zero_add]
   rw [hv'] at ho;refine ho.cellAt (i * c+j) ?_;have:i * c+c<=xs.length * c:=(by rw [<-Nat.succ_mul];exact Nat.mul_le_mul_right c hil);omega
 . exact List.mem_cons_of_mem _ (List.mem_flatten.2 ⟨f,List.mem_of_getElem? hf,ha⟩)
theorem Zy.keep {α:Type} {w w':World} {e:TypeId} {c:Nat} {R R':List Value->α->List Nat->Prop} {v:Value} {xs:List α} {fp:List Nat} (h:Zy w e c R v xs fp) (hk:Zu fp w w')
 (hR:∀ cs x f,x ∈ xs->(∀ a ∈ f,a ∈ fp)->R cs x f->R' cs x f):Zy w' e c R' v xs fp:=by
 rcases h with h | ⟨hne,cells,g,cap',fps,ho,hv',hl,rfl,hat⟩
 . exact .inl h
 refine .inr ⟨hne,cells,g,cap',fps,ZbB ho hv' (hk g (by simp)),hv',hl,rfl,λi x f hi hf=>?_⟩;obtain ⟨cs,hcl,hcs,hr⟩:=hat i x f hi hf;exact ⟨cs,hcl,hcs,hR cs x f (List.mem_of_getElem? hi) (λa ha=>List.mem_cons_of_mem _ (List.mem_flatten.2 ⟨f,List.mem_of_getElem? hf,ha⟩)) hr⟩
theorem Zy.lt {α:Type} {w:World} {e:TypeId} {c:Nat} {R:List Value->α->List Nat->Prop} {v:Value} {xs:List α} {fp:List Nat} (h:Zy w e c R v xs fp) (hR:∀ cs x f,R cs x f->∀ a ∈ f,a<w.heap.size):∀ a ∈ fp,a<w.heap.size:=by
 rcases h with ⟨_,rfl,_⟩ | ⟨hne,cells,g,cap',fps,ho,hv',hl,rfl,hat⟩
 . intro a ha;simp at ha
 . intro a ha
   rcases List.mem_cons.1 ha with rfl | ha
   . exact Zbh ho hv'
   . obtain ⟨f,hf,ha⟩:=List.mem_flatten.1 ha
     obtain ⟨i,hi,rfl⟩:=List.mem_iff_getElem.1 hf;obtain ⟨cs,_,_,hr⟩:=hat i (xs[i]'(by rw [<-hl];exact hi)) _ (List.getElem?_eq_getElem _) (List.getElem?_eq_getElem hi);exact hR _ _ _ hr a ha
theorem Zy.set {α:Type} {w':World} {e:TypeId} {c:Nat} {R R':List Value->α->List Nat->Prop} {v:Value} {xs:List α} {cells cells':List Value} {g cap:Nat} {fps:List (List Nat)} {i:Nat} {x':α} {f:List Nat}
 (hne:xs≠[]) (ho:w'.ownsRow 0 e c v xs.length cells') (hv:v=.slice (some ⟨g,0,none⟩) xs.length cap) (hl:fps.length=xs.length)
 (hat:∀ (i:Nat) x f,xs[i]?=some x->fps[i]?=some f->∃ cs:List Value,cs.length=c/\(∀ j,j<c->cells[i * c+j]?=cs[j]?)/\R cs x f) (hf:fps[i]?=some f)
 (hother:∀ m,(m<i * c\/i * c+c<=m)->cells'[m]?=cells[m]?) (cs':List Value) (hcl:cs'.length=c) (hcs:∀ j,j<c->cells'[i * c+j]?=cs'[j]?) (hr:R' cs' x' f)
 (hk:∀ (j:Nat) y f' cs,j≠i->fps[j]?=some f'->R cs y f'->R' cs y f'):Zy w' e c R' v (xs.set i x') (g :: fps.flatten):=by
 refine .inr ⟨λh=>hne (by cases xs with | nil=>rfl | cons a l=>cases i <;> simp at h),cells',g,cap,fps,by rw [List.length_set];exact ho,by rw [List.length_set];exact hv,by rw [List.length_set];exact hl,rfl,λj y f' hj hf'=>?_⟩;by_cases hji:j=i
 . subst hji
   have hjl:j<xs.length:=(by rw [<-hl];exact (List.getElem?_eq_some_iff.1 hf).1);rw [List.getElem?_set_self hjl] at hj;obtain rfl:=Option.some.inj hj;obtain rfl:=Option.some.inj (hf.symm.trans hf');exact ⟨cs',hcl,hcs,hr⟩
 . rw [List.getElem?_set_ne (λh=>hji h.symm)] at hj
   obtain ⟨cs,h1,h2,h3⟩:=hat j y f' hj hf';refine ⟨cs,h1,λq hq=>?_,hk j y f' cs hji hf' h3⟩;rw [hother _ ?_]
   . exact h2 q hq
   . rcases Nat.lt_or_gt_of_ne hji with h | h
     . left;have:j * c+c<=i * c:=by rw [<-Nat.succ_mul];exact Nat.mul_le_mul_right c h
       omega
     . right;have:i * c+c<=j * c:=by rw [<-Nat.succ_mul];exact Nat.mul_le_mul_right c h
       omega
theorem ZbN {g:Nat} {fps:List (List Nat)} (h:(g :: fps.flatten).Nodup) :
 (∀ f ∈ fps,g ∉ f/\f.Nodup)/\∀ (i j:Nat) f f',i≠j->fps[i]?=some f->fps[j]?=some f'->∀ a ∈ f,a ∉ f':=by
 rw [List.nodup_cons] at h;obtain ⟨hg,hp⟩:=h;obtain ⟨h1,h2⟩:=List.pairwise_flatten.1 hp;refine ⟨λf hf=>⟨λhm=>hg (List.mem_flatten.2 ⟨f,hf,hm⟩),h1 f hf⟩,λi j f f' hij hi hj a ha ha'=>?_⟩;rw [List.pairwise_iff_getElem] at h2;obtain ⟨hi1,rfl⟩:=List.getElem?_eq_some_iff.1 hi;obtain ⟨hj1,rfl⟩:=List.getElem?_eq_some_iff.1 hj
 rcases Nat.lt_or_gt_of_ne hij with hlt | hlt
 . exact h2 i j hi1 hj1 hlt a ha a ha' rfl
 . exact h2 j i hj1 hi1 hlt a ha' a ha rfl
def mix {α:Type} (i:Nat) (ys xs:List α):List α:=ys.take i ++ xs.drop i
theorem Zds {α:Type} (ys xs:List α):mix 0 ys xs=xs:=by simp [mix]
theorem ZeM {α:Type} {ys xs:List α} {i:Nat} (hl:ys.length=xs.length) (h:xs.length<=i):mix i ys xs=ys:=by
 unfold mix;rw [List.take_of_length_le (by omega),List.drop_of_length_le h,List.append_nil]
theorem Zce {α:Type} {ys xs:List α} {i:Nat} (hl:ys.length=xs.length):(mix i ys xs).length=xs.length:=by
 unfold mix;rw [List.length_append,List.length_take,List.length_drop];omega
theorem Zgy {α:Type} {ys xs:List α} {i:Nat} (hl:ys.length=xs.length) (hi:i<xs.length):(mix i ys xs)[i]?=xs[i]?:=by
 unfold mix;rw [List.getElem?_append_right (by rw [List.length_take];omega),List.length_take,List.getElem?_drop]
 congr 1;omega
theorem Zdt {α:Type} {ys xs:List α} {i:Nat} {y:α} (hl:ys.length=xs.length) (hy:ys[i]?=some y):(mix i ys xs).set i y=mix (i+1) ys xs:=by
 have hi:i<ys.length:=(List.getElem?_eq_some_iff.1 hy).1;unfold mix;rw [List.set_append_right (h:=by rw [List.length_take];omega),List.length_take,Nat.min_eq_left (by omega),Nat.sub_self,List.take_add_one,hy,List.append_assoc]
 congr 1
 rw [List.drop_eq_getElem_cons (i:=i) (l:=xs) (by omega)]
 rfl
def ZQ {α:Type} (f:Nat->α->α) (c:α->Nat):Nat->List α->List α
 | _,[]=>[]
 | k,x :: xs=>f k x :: ZQ f c (k+c x) xs
theorem ZX {α:Type} (f:Nat->α->α) (c:α->Nat):∀ (k:Nat) (xs:List α),(ZQ f c k xs).length=xs.length
 | _,[]=>rfl
 | k,x :: xs=>by simp [ZQ,ZX f c (k+c x) xs]
theorem Zbb {α:Type} (f:Nat->α->α) (c:α->Nat):∀ (k:Nat) (xs:List α) (i:Nat) (x:α),xs[i]?=some x->(ZQ f c k xs)[i]?=some (f (k+((xs.take i).map c).sum) x)
 | _,[],i,x,h=>by simp at h
 | k,y :: xs,0,x,h=>by simp at h;subst h;simp [ZQ]
 | k,y :: xs,i+1,x,h=>by
  simp at h;simp only [ZQ,List.getElem?_cons_succ,Zbb f c (k+c y) xs i x h,List.take_succ_cons,List.map_cons,List.sum_cons,Nat.add_assoc]
variable {α:Type} {w wr:World} {G n c k:Nat} {e:TypeId} {O:World->List Value->α->List Nat->Prop} {es:List α} {xs:List Value} {fps:List (List Nat)}
end
def OCl (w:World) (O:List Value->Ex->List Nat->Prop) (cs:List Value) (c:Cl) (fp:List Nat):Prop :=
 ∃ pv bv f1 f2,cs = [pv,bv]/\fp=f1 ++ f2/\Zy w 108 6 O pv c.1 f1/\Zy w 108 6 O bv c.2 f2
def OEx (w:World):Nat->List Value->Ex->List Nat->Prop
 | 0,_,_,_=>False
 | d+1,cs,e,fp=>∃ kv cv f1 f2,cs = [.int .i64 e.kind,.int .i64 e.n,.string e.text,.string e.mod,kv,cv]/\fp=f1 ++ f2/\okI e.kind/\okI e.n/\okS e.text/\okS e.mod /\
  Zy w 108 6 (OEx w d) kv e.kids f1/\Zy w 64 2 (OCl w (OEx w d)) cv e.clauses f2
abbrev OCls (w:World) (d:Nat):List Value->Cl->List Nat->Prop:=OCl w (OEx w d)
theorem OCl.keep' {w w':World} {O O':List Value->Ex->List Nat->Prop} {cs:List Value} {c:Cl} {fp:List Nat} (h:OCl w O cs c fp) (hk:Zu fp w w') (hO:∀ cs x f,(∀ a ∈ f,a ∈ fp)->O cs x f->O' cs x f):OCl w' O' cs c fp:=by
 obtain ⟨pv,bv,f1,f2,rfl,rfl,h1,h2⟩:=h;refine ⟨pv,bv,f1,f2,rfl,rfl,h1.keep (hk.sub (λa ha=>by simp [ha])) (λcs x f _ hs=>hO cs x f (λa ha=>by simp [hs a ha])),h2.keep (hk.sub (λa ha=>by simp [ha])) (λcs x f _ hs=>hO cs x f (λa ha=>by simp [hs a ha]))⟩
theorem OEx.keep {w w':World}:∀ {d:Nat} {cs:List Value} {e:Ex} {fp:List Nat},OEx w d cs e fp->Zu fp w w'->OEx w' d cs e fp
 | 0,_,_,_,h,_=>h.elim
 | d+1,cs,e,fp,h,hk=>by
  obtain ⟨kv,cv,f1,f2,rfl,rfl,h1,h2,h3,h4,hr,hc⟩:=h;refine ⟨kv,cv,f1,f2,rfl,rfl,h1,h2,h3,h4,hr.keep (hk.sub (λa ha=>by simp [ha])) (λcs x f _ hs h=>h.keep (hk.sub (λa ha=>by simp [hs a ha]))),hc.keep (hk.sub (λa ha=>by simp [ha])) (λcs x f _ hs h=>?_)⟩;exact h.keep' (hk.sub (λa ha=>by simp [hs a ha])) (λcs x g hg h=>h.keep (hk.sub (λa ha=>by simp [hs a (hg a ha)])))
theorem OCls.keep {w w':World} {d:Nat} {cs:List Value} {c:Cl} {fp:List Nat} (h:OCl w (OEx w d) cs c fp) (hk:Zu fp w w'):OCl w' (OEx w' d) cs c fp :=
 h.keep' hk (λcs x g hg h=>h.keep (hk.sub hg))
theorem OCl.tree' {w:World} {S:Nat->Prop} {O:List Value->Ex->List Nat->Prop} {R:List Value->Ex->Prop} {cs:List Value} {c:Cl} {fp:List Nat} (h:OCl w O cs c fp) (hS:∀ a ∈ fp,S a) (hO:∀ cs x f,(∀ a ∈ f,a ∈ fp)->O cs x f->R cs x):HCl w S R cs c:=by
 obtain ⟨pv,bv,f1,f2,rfl,rfl,h1,h2⟩:=h;exact ⟨pv,bv,rfl,h1.rows (λa ha=>hS a (by simp [ha])) (λcs x f _ hs=>hO cs x f (λa ha=>by simp [hs a ha])),h2.rows (λa ha=>hS a (by simp [ha])) (λcs x f _ hs=>hO cs x f (λa ha=>by simp [hs a ha]))⟩
theorem OEx.tree {w:World} {S:Nat->Prop}:∀ {d:Nat} {cs:List Value} {e:Ex} {fp:List Nat},OEx w d cs e fp->(∀ a ∈ fp,S a)->HEx w S d cs e
 | 0,_,_,_,h,_=>h.elim
 | d+1,cs,e,fp,h,hS=>by
  obtain ⟨kv,cv,f1,f2,rfl,rfl,h1,h2,h3,h4,hr,hc⟩:=h;refine ⟨kv,cv,rfl,h1,h2,h3,h4,hr.rows (λa ha=>hS a (by simp [ha])) (λcs x f _ hs h=>h.tree (λa ha=>hS a (by simp [hs a ha]))),hc.rows (λa ha=>hS a (by simp [ha])) (λcs x f _ hs h=>?_)⟩;exact h.tree' (λa ha=>hS a (by simp [hs a ha])) (λcs x g hg h=>h.tree (λa ha=>hS a (by simp [hs a (hg a ha)])))
theorem OCls.tree {w:World} {S:Nat->Prop} {d:Nat} {cs:List Value} {c:Cl} {fp:List Nat} (h:OCl w (OEx w d) cs c fp) (hS:∀ a ∈ fp,S a):HCl w S (HEx w S d) cs c :=
 h.tree' hS (λcs x g hg h=>h.tree (λa ha=>hS a (hg a ha)))
theorem OCl.lt' {w:World} {O:List Value->Ex->List Nat->Prop} {cs:List Value} {c:Cl} {fp:List Nat} (h:OCl w O cs c fp) (hO:∀ cs x f,O cs x f->∀ a ∈ f,a<w.heap.size):∀ a ∈ fp,a<w.heap.size:=by
 obtain ⟨pv,bv,f1,f2,rfl,rfl,h1,h2⟩:=h;intro a ha
 rcases List.mem_append.1 ha with ha | ha
 . exact h1.lt hO a ha
 . exact h2.lt hO a ha
theorem OEx.lt {w:World}:∀ {d:Nat} {cs:List Value} {e:Ex} {fp:List Nat},OEx w d cs e fp->∀ a ∈ fp,a<w.heap.size
 | 0,_,_,_,h=>h.elim
 | d+1,cs,e,fp,h=>by
  obtain ⟨kv,cv,f1,f2,rfl,rfl,h1,h2,h3,h4,hr,hc⟩:=h;intro a ha
  rcases List.mem_append.1 ha with ha | ha
  . exact hr.lt (λcs x f h=>h.lt) a ha
  . exact hc.lt (λcs x f h=>h.lt' (λcs x f h=>h.lt)) a ha
theorem OEx.shape {w:World} {d:Nat} {cs:List Value} {x:Ex} {fp:List Nat} (h:OEx w d cs x fp):∃ sk sn st se p1 n1 q1 p2 n2 q2,cs = [.int .i64 sk,.int .i64 sn,.string st,.string se,.slice p1 n1 q1,.slice p2 n2 q2]:=by
 cases d with
 | zero=>exact h.elim
 | succ d =>
  obtain ⟨kv,cv,f1,f2,rfl,rfl,_,_,_,_,hr,hc⟩:=h;obtain ⟨p1,c1,rfl,_⟩:=hr.shape;obtain ⟨p2,c2,rfl,_⟩:=hc.shape;exact ⟨_,_,_,_,_,_,_,_,_,_,rfl⟩
def ORf (_:World) (_:Nat) (cs:List Value) (r:Rf) (fp:List Nat):Prop:=HRf cs r/\fp = []
def OFn (w:World) (d:Nat) (cs:List Value) (f:Fn') (fp:List Nat):Prop :=
 ∃ cv,cs = [.string f.name,.int .i64 f.arity,cv]/\okS f.name/\okI f.arity/\Zy w 64 2 (OCl w (OEx w d)) cv f.clauses fp
def OMd (w:World) (d:Nat) (cs:List Value) (m:Md) (fp:List Nat):Prop :=
 ∃ ev fv f1 f2,cs = [.string m.name,ev,fv]/\fp=f1 ++ f2/\okS m.name/\Zy w 59 2 (ORf w d) ev m.exports f1/\Zy w 40 3 (OFn w d) fv m.funs f2
theorem ORf.lt {w:World} {d:Nat} {cs:List Value} {r:Rf} {fp:List Nat} (h:ORf w d cs r fp):∀ a ∈ fp,a<w.heap.size:=by rw [h.2];simp
theorem OFn.keep {w w':World} {d:Nat} {cs:List Value} {f:Fn'} {fp:List Nat} (h:OFn w d cs f fp) (hk:Zu fp w w'):OFn w' d cs f fp:=by
 obtain ⟨cv,rfl,h1,h2,h3⟩:=h;exact ⟨cv,rfl,h1,h2,h3.keep hk (λcs x f _ hs h=>OCls.keep h (hk.sub hs))⟩
theorem OFn.tree {w:World} {S:Nat->Prop} {d:Nat} {cs:List Value} {f:Fn'} {fp:List Nat} (h:OFn w d cs f fp) (hS:∀ a ∈ fp,S a):HFn w S d cs f:=by
 obtain ⟨cv,rfl,h1,h2,h3⟩:=h;exact ⟨cv,rfl,h1,h2,h3.rows hS (λcs x f _ hs h=>OCls.tree h (λa ha=>hS a (hs a ha)))⟩
theorem OFn.lt {w:World} {d:Nat} {cs:List Value} {f:Fn'} {fp:List Nat} (h:OFn w d cs f fp):∀ a ∈ fp,a<w.heap.size:=by
 obtain ⟨cv,rfl,h1,h2,h3⟩:=h;exact h3.lt (λcs x f h=>h.lt' (λcs x f h=>h.lt))
theorem OMd.keep {w w':World} {d:Nat} {cs:List Value} {m:Md} {fp:List Nat} (h:OMd w d cs m fp) (hk:Zu fp w w'):OMd w' d cs m fp:=by
 obtain ⟨ev,fv,f1,f2,rfl,rfl,h1,h2,h3⟩:=h;exact ⟨ev,fv,f1,f2,rfl,rfl,h1,h2.keep (hk.sub (λa ha=>by simp [ha])) (λcs x f _ hs h=>h),h3.keep (hk.sub (λa ha=>by simp [ha])) (λcs x f _ hs h=>h.keep (hk.sub (λa ha=>by simp [hs a ha])))⟩
theorem OMd.tree {w:World} {S:Nat->Prop} {d:Nat} {cs:List Value} {m:Md} {fp:List Nat} (h:OMd w d cs m fp) (hS:∀ a ∈ fp,S a):HMd w S d cs m:=by
 obtain ⟨ev,fv,f1,f2,rfl,rfl,h1,h2,h3⟩:=h;exact ⟨ev,fv,rfl,h1,h2.rows (λa ha=>hS a (by simp [ha])) (λcs x f _ hs h=>h.1),h3.rows (λa ha=>hS a (by simp [ha])) (λcs x f _ hs h=>h.tree (λa ha=>hS a (by simp [hs a ha])))⟩
theorem OMd.lt {w:World} {d:Nat} {cs:List Value} {m:Md} {fp:List Nat} (h:OMd w d cs m fp):∀ a ∈ fp,a<w.heap.size:=by
 obtain ⟨ev,fv,f1,f2,rfl,rfl,h1,h2,h3⟩:=h;intro a ha
 rcases List.mem_append.1 ha with ha | ha
 . exact h2.lt (λcs x f h=>h.lt) a ha
 . exact h3.lt (λcs x f h=>h.lt) a ha
section
open Go.Proofs.Tryz
theorem Zcb {d:Nat} (hE:EqC 127 (λw v e=>∃ cs,v=.agg cs.toArray/\HEx w All d cs e)) :
 EqC 117 (λw v es=>Rows w All 6 (HEx w All d) v es):=by
 intro w v1 v2 es h1 h2;obtain ⟨p,cap,rfl,hcl,hcm,hx⟩:=h1;obtain ⟨q,cap',rfl,hcl',hcm',hy⟩:=h2;generalize hn:es.length=n at *;have HN:=hid hn;have HX:Hid _:=hx;have HY:Hid _:=hy;have hnb:=sqM hcl hcm;clear hx hy hn;go_enter func117,ntmps117;go_wp2
 go_loopw [5] (λiv wr=>∃ k:Nat,k<=n/\iv=.int .i64 k/\Bz w wr) (λiv _=>n - (intOf iv).toNat)
 case atStart=>exact ⟨0,Nat.zero_le _,rfl,Below.refl _ _⟩
 case round =>
  obtain ⟨k,hk,rfl,hb⟩:=hrel;have HB:=hid hb;by_cases hlt:k<n
  . obtain ⟨x,hxk⟩:=sqA (l:=es) (k:=k) HN.out hlt
    have hne:es≠[]:=(sqE hxk);obtain ⟨g,off,rfl,_,hgl,hat⟩:=HX.out hne;obtain ⟨g',off',rfl,_,hgl',hat'⟩:=HY.out hne;obtain ⟨cs,hcl6,hcs,hex⟩:=hat k x hxk;obtain ⟨cs',hcl6',hcs',hex'⟩:=hat' k x hxk;have E1:∀ w',Ze All wr w'->HEx w' All d cs x:=λw' hw=>hex.mono (Ze.trans (sqO hb) hw) sqj;have E2:∀ w',Ze All wr w'->HEx w' All d cs' x:=λw' hw=>hex'.mono (Ze.trans (sqO hb) hw) sqj;obtain ⟨c0,c1,c2,c3,c4,c5,rfl⟩:=len6 hcl6;obtain ⟨d0,d1,d2,d3,d4,d5,rfl⟩:=len6 hcl6';have a0:=hcs 0 (by omega);have b0:=hcs' 0 (by omega);have a1:=hcs 1 (by omega);have b1:=hcs' 1 (by omega);have a2:=hcs 2 (by omega);have b2:=hcs' 2 (by omega);have a3:=hcs 3 (by omega);have b3:=hcs' 3 (by omega);have a4:=hcs 4 (by omega);have b4:=hcs' 4 (by omega);have a5:=hcs 5 (by omega);have b5:=hcs' 5 (by omega);rw [<-hb.cell (p:=⟨g,_,none⟩) hgl] at a0 a1 a2 a3 a4 a5;rw [<-hb.cell (p:=⟨g',_,none⟩) hgl'] at b0 b1 b2 b3 b4 b5;simp at a0 a1 a2 a3 a4 a5 b0 b1 b2 b3 b4 b5;clear hb hcs hat hex hcl6 hcs' hat' hex' hcl6' hne;go_wp2
    go_region_with ((go_at_call 127;refine (hE _ _ _ x ⟨_,rfl,E1 _ (by exact sqS)⟩ ⟨_,rfl,E2 _ (by exact sqS)⟩).mono ?_;rintro e w1 ⟨rfl,hb1⟩;have HB1:Hid _:=hb1;clear hb1))
    all_goals go_wp2
    all_goals
     have hbe:Bz w w1:=by
      refine Below.trans ?_ (HB1.out.mono (by exact HB.out.size))
      repeat (first | exact HB.out | apply Below.drew)
     exact ⟨⟨k+1,by omega,by go_num,hbe⟩,by simp [intOf];omega⟩
  . go_wp2
    go_ret;exact ⟨rfl,HB.out⟩
theorem Zdo {d:Nat} (hE:EqC 107 (λw v e=>∃ cs,v=.agg cs.toArray/\HCl w All (HEx w All d) cs e)) :
 EqC 87 (λw v es=>Rows w All 2 (HCl w All (HEx w All d)) v es):=by
 intro w v1 v2 es h1 h2;obtain ⟨p,cap,rfl,hcl,hcm,hx⟩:=h1;obtain ⟨q,cap',rfl,hcl',hcm',hy⟩:=h2;generalize hn:es.length=n at *;have HN:=hid hn;have HX:Hid _:=hx;have HY:Hid _:=hy;have hnb:=sqM hcl hcm;clear hx hy hn;go_enter func87,ntmps87;go_wp2
 go_loopw [5] (λiv wr=>∃ k:Nat,k<=n/\iv=.int .i64 k/\Bz w wr) (λiv _=>n - (intOf iv).toNat)
 case atStart=>exact ⟨0,Nat.zero_le _,rfl,Below.refl _ _⟩
 case round =>
  obtain ⟨k,hk,rfl,hb⟩:=hrel;have HB:=hid hb;by_cases hlt:k<n
  . obtain ⟨x,hxk⟩:=sqA (l:=es) (k:=k) HN.out hlt
    have hne:es≠[]:=(sqE hxk);obtain ⟨g,off,rfl,_,hgl,hat⟩:=HX.out hne;obtain ⟨g',off',rfl,_,hgl',hat'⟩:=HY.out hne;obtain ⟨cs,hcl6,hcs,hex⟩:=hat k x hxk;obtain ⟨cs',hcl6',hcs',hex'⟩:=hat' k x hxk;have E1:∀ w',Ze All wr w'->HCl w' All (HEx w' All d) cs x:=λw' hw=>hex.mono (Ze.trans (sqO hb) hw) sqj (λ_ _=>HEx.mono (Ze.trans (sqO hb) hw) sqj);have E2:∀ w',Ze All wr w'->HCl w' All (HEx w' All d) cs' x:=λw' hw=>hex'.mono (Ze.trans (sqO hb) hw) sqj (λ_ _=>HEx.mono (Ze.trans (sqO hb) hw) sqj);obtain ⟨c0,c1,rfl⟩:=len2 hcl6;obtain ⟨d0,d1,rfl⟩:=len2 hcl6';have a0:=hcs 0 (by omega);have b0:=hcs' 0 (by omega);have a1:=hcs 1 (by omega);have b1:=hcs' 1 (by omega);rw [<-hb.cell (p:=⟨g,_,none⟩) hgl] at a0 a1;rw [<-hb.cell (p:=⟨g',_,none⟩) hgl'] at b0 b1;simp at a0 a1 b0 b1;clear hb hcs hat hex hcl6 hcs' hat' hex' hcl6' hne;go_wp2
    go_region_with ((go_at_call 107;refine (hE _ _ _ x ⟨_,rfl,E1 _ (by exact sqS)⟩ ⟨_,rfl,E2 _ (by exact sqS)⟩).mono ?_;rintro e w1 ⟨rfl,hb1⟩;have HB1:Hid _:=hb1;clear hb1))
    all_goals go_wp2
    all_goals
     have hbe:Bz w w1:=by
      refine Below.trans ?_ (HB1.out.mono (by exact HB.out.size))
      repeat (first | exact HB.out | apply Below.drew)
     exact ⟨⟨k+1,by omega,by go_num,hbe⟩,by simp [intOf];omega⟩
  . go_wp2
    go_ret;exact ⟨rfl,HB.out⟩
theorem ZiB {d:Nat} (hE:EqC 49 (λw v e=>∃ cs,v=.agg cs.toArray/\HFn w All d cs e)) :
 EqC 19 (λw v es=>Rows w All 3 (HFn w All d) v es):=by
 intro w v1 v2 es h1 h2;obtain ⟨p,cap,rfl,hcl,hcm,hx⟩:=h1;obtain ⟨q,cap',rfl,hcl',hcm',hy⟩:=h2;generalize hn:es.length=n at *;have HN:=hid hn;have HX:Hid _:=hx;have HY:Hid _:=hy;have hnb:=sqM hcl hcm;clear hx hy hn;go_enter func19,ntmps19;go_wp2
 go_loopw [5] (λiv wr=>∃ k:Nat,k<=n/\iv=.int .i64 k/\Bz w wr) (λiv _=>n - (intOf iv).toNat)
 case atStart=>exact ⟨0,Nat.zero_le _,rfl,Below.refl _ _⟩
 case round =>
  obtain ⟨k,hk,rfl,hb⟩:=hrel;have HB:=hid hb;by_cases hlt:k<n
  . obtain ⟨x,hxk⟩:=sqA (l:=es) (k:=k) HN.out hlt
    have hne:es≠[]:=(sqE hxk);obtain ⟨g,off,rfl,_,hgl,hat⟩:=HX.out hne;obtain ⟨g',off',rfl,_,hgl',hat'⟩:=HY.out hne;obtain ⟨cs,hcl6,hcs,hex⟩:=hat k x hxk;obtain ⟨cs',hcl6',hcs',hex'⟩:=hat' k x hxk;have E1:∀ w',Ze All wr w'->HFn w' All d cs x:=λw' hw=>hex.mono (Ze.trans (sqO hb) hw) sqj;have E2:∀ w',Ze All wr w'->HFn w' All d cs' x:=λw' hw=>hex'.mono (Ze.trans (sqO hb) hw) sqj;obtain ⟨c0,c1,c2,rfl⟩:=len3 hcl6;obtain ⟨d0,d1,d2,rfl⟩:=len3 hcl6';have a0:=hcs 0 (by omega);have b0:=hcs' 0 (by omega);have a1:=hcs 1 (by omega);have b1:=hcs' 1 (by omega);have a2:=hcs 2 (by omega);have b2:=hcs' 2 (by omega);rw [<-hb.cell (p:=⟨g,_,none⟩) hgl] at a0 a1 a2;rw [<-hb.cell (p:=⟨g',_,none⟩) hgl'] at b0 b1 b2;simp at a0 a1 a2 b0 b1 b2;clear hb hcs hat hex hcl6 hcs' hat' hex' hcl6' hne;go_wp2
    go_region_with ((go_at_call 49;refine (hE _ _ _ x ⟨_,rfl,E1 _ (by exact sqS)⟩ ⟨_,rfl,E2 _ (by exact sqS)⟩).mono ?_;rintro e w1 ⟨rfl,hb1⟩;have HB1:Hid _:=hb1;clear hb1))
    all_goals go_wp2
    all_goals
     have hbe:Bz w w1:=by
      refine Below.trans ?_ (HB1.out.mono (by exact HB.out.size))
      repeat (first | exact HB.out | apply Below.drew)
     exact ⟨⟨k+1,by omega,by go_num,hbe⟩,by simp [intOf];omega⟩
  . go_wp2
    go_ret;exact ⟨rfl,HB.out⟩
theorem ZiC {d:Nat} (hE:EqC 48 (λw v e=>∃ cs,v=.agg cs.toArray/\HRf cs e)) :
 EqC 18 (λw v es=>Rows w All 2 (HRf) v es):=by
 intro w v1 v2 es h1 h2;obtain ⟨p,cap,rfl,hcl,hcm,hx⟩:=h1;obtain ⟨q,cap',rfl,hcl',hcm',hy⟩:=h2;generalize hn:es.length=n at *;have HN:=hid hn;have HX:Hid _:=hx;have HY:Hid _:=hy;have hnb:=sqM hcl hcm;clear hx hy hn;go_enter func18,ntmps18;go_wp2
 go_loopw [5] (λiv wr=>∃ k:Nat,k<=n/\iv=.int .i64 k/\Bz w wr) (λiv _=>n - (intOf iv).toNat)
 case atStart=>exact ⟨0,Nat.zero_le _,rfl,Below.refl _ _⟩
 case round =>
  obtain ⟨k,hk,rfl,hb⟩:=hrel;have HB:=hid hb;by_cases hlt:k<n
  . obtain ⟨x,hxk⟩:=sqA (l:=es) (k:=k) HN.out hlt
    have hne:es≠[]:=(sqE hxk);obtain ⟨g,off,rfl,_,hgl,hat⟩:=HX.out hne;obtain ⟨g',off',rfl,_,hgl',hat'⟩:=HY.out hne;obtain ⟨cs,hcl6,hcs,hex⟩:=hat k x hxk;obtain ⟨cs',hcl6',hcs',hex'⟩:=hat' k x hxk;have E1:∀ w',Ze All wr w'->HRf cs x:=λw' hw=>hex;have E2:∀ w',Ze All wr w'->HRf cs' x:=λw' hw=>hex';obtain ⟨c0,c1,rfl⟩:=len2 hcl6;obtain ⟨d0,d1,rfl⟩:=len2 hcl6';have a0:=hcs 0 (by omega);have b0:=hcs' 0 (by omega);have a1:=hcs 1 (by omega);have b1:=hcs' 1 (by omega);rw [<-hb.cell (p:=⟨g,_,none⟩) hgl] at a0 a1;rw [<-hb.cell (p:=⟨g',_,none⟩) hgl'] at b0 b1;simp at a0 a1 b0 b1;clear hb hcs hat hex hcl6 hcs' hat' hex' hcl6' hne;go_wp2
    go_region_with ((go_at_call 48;refine (hE _ _ _ x ⟨_,rfl,E1 _ (by exact sqS)⟩ ⟨_,rfl,E2 _ (by exact sqS)⟩).mono ?_;rintro e w1 ⟨rfl,hb1⟩;have HB1:Hid _:=hb1;clear hb1))
    all_goals go_wp2
    all_goals
     have hbe:Bz w w1:=by
      refine Below.trans ?_ (HB1.out.mono (by exact HB.out.size))
      repeat (first | exact HB.out | apply Below.drew)
     exact ⟨⟨k+1,by omega,by go_num,hbe⟩,by simp [intOf];omega⟩
  . go_wp2
    go_ret;exact ⟨rfl,HB.out⟩
theorem Zjq {d:Nat} (h0:EqC 117 (λw v es=>Rows w All 6 (HEx w All d) v es)) (h1:EqC 87 (λw v es=>Rows w All 2 (HCl w All (HEx w All d)) v es)) :
 EqC 127 (λw v e=>∃ cs,v=.agg cs.toArray/\HEx w All (d+1) cs e):=by
 intro w v1 v2 e i1 i2;obtain ⟨cs,rfl,kv,cv,rfl,p1,p2,p3,p4,f0,f1⟩:=i1;obtain ⟨cs,rfl,kv',cv',rfl,p1',p2',p3',p4',f0',f1'⟩:=i2;have hal:Bz w ((w.alloc (.cells #[.int .i64 e.kind,.int .i64 e.n,.string e.text,.string e.mod,kv,cv] 108)).alloc (.cells #[.int .i64 e.kind,.int .i64 e.n,.string e.text,.string e.mod,kv',cv'] 108)):=((sqN _ _)).alloc (by simp) _;have HA:=hid hal;have g0:∀ w',Ze All w w'->Rows w' All 6 (HEx w' All d) kv e.kids:=λw' hw=>f0.mono (hw) sqj (λ_ _ _=>HEx.mono (hw) sqj);have g0':∀ w',Ze All w w'->Rows w' All 6 (HEx w' All d) kv' e.kids:=λw' hw=>f0'.mono (hw) sqj (λ_ _ _=>HEx.mono (hw) sqj);have g1:∀ w',Ze All w w'->Rows w' All 2 (HCl w' All (HEx w' All d)) cv e.clauses:=λw' hw=>f1.mono (hw) sqj (λ_ _ _ h=>h.mono (hw) sqj (λ_ _=>HEx.mono (hw) sqj));have g1':∀ w',Ze All w w'->Rows w' All 2 (HCl w' All (HEx w' All d)) cv' e.clauses:=λw' hw=>f1'.mono (hw) sqj (λ_ _ _ h=>h.mono (hw) sqj (λ_ _=>HEx.mono (hw) sqj));clear hal f0 f0' f1 f1';go_enter func127,ntmps127;go_wp2_with (first | (go_at_call 87;(refine (h1 _ _ _ e.clauses (g1 _ (sqO (HA.out.trans (HB0.out.mono HA.out.size)))) (g1' _ (sqO (HA.out.trans (HB0.out.mono HA.out.size))))).mono ?_;rintro e w1 ⟨rfl,hb1⟩;have HB1:Hid _:=hb1;clear hb1)) | (go_at_call 117;(refine (h0 _ _ _ e.kids (g0 _ (sqO HA.out)) (g0' _ (sqO HA.out))).mono ?_;rintro e w0 ⟨rfl,hb0⟩;have HB0:Hid _:=hb0;have k0:=(hb0.cell (p:=⟨w.heap.size,5,none⟩) (by simp only [Zg];omega)).trans ((sqK (a:=⟨w.heap.size,5,none⟩) (Below.heap_alloc _ _ _ (by simp))).trans (ZaG _ _ _ 5 cv rfl));have m0:=(hb0.cell (p:=⟨(w.alloc (.cells #[.int .i64 e.kind,.int .i64 e.n,.string e.text,.string e.mod,kv,cv] 108)).heap.size,5,none⟩) (by simp)).trans (ZaG _ _ _ 5 cv' rfl);simp only [Zg] at m0;clear hb0)));go_ret;exact ⟨rfl,((HA.out.trans (HB0.out.mono HA.out.size)).trans (HB1.out.mono (HA.out.trans (HB0.out.mono HA.out.size)).size))⟩
theorem Zd8 {d:Nat} (h0:EqC 117 (λw v es=>Rows w All 6 (HEx w All d) v es)) (h1:EqC 117 (λw v es=>Rows w All 6 (HEx w All d) v es)) :
 EqC 107 (λw v e=>∃ cs,v=.agg cs.toArray/\HCl w All (HEx w All d) cs e):=by
 intro w v1 v2 e i1 i2;obtain ⟨cs,rfl,kv,cv,rfl,f0,f1⟩:=i1;obtain ⟨cs,rfl,kv',cv',rfl,f0',f1'⟩:=i2;have hal:Bz w ((w.alloc (.cells #[kv,cv] 64)).alloc (.cells #[kv',cv'] 64)):=((sqN _ _)).alloc (by simp) _;have HA:=hid hal;have g0:∀ w',Ze All w w'->Rows w' All 6 (HEx w' All d) kv e.1:=λw' hw=>f0.mono (hw) sqj (λ_ _ _=>HEx.mono (hw) sqj);have g0':∀ w',Ze All w w'->Rows w' All 6 (HEx w' All d) kv' e.1:=λw' hw=>f0'.mono (hw) sqj (λ_ _ _=>HEx.mono (hw) sqj);have g1:∀ w',Ze All w w'->Rows w' All 6 (HEx w' All d) cv e.2:=λw' hw=>f1.mono (hw) sqj (λ_ _ _=>HEx.mono (hw) sqj);have g1':∀ w',Ze All w w'->Rows w' All 6 (HEx w' All d) cv' e.2:=λw' hw=>f1'.mono (hw) sqj (λ_ _ _=>HEx.mono (hw) sqj);clear hal f0 f0' f1 f1';go_enter func107,ntmps107;go_wp2_with (first | (go_at_call 117;(refine (h1 _ _ _ e.2 (g1 _ (sqO (HA.out.trans (HB0.out.mono HA.out.size)))) (g1' _ (sqO (HA.out.trans (HB0.out.mono HA.out.size))))).mono ?_;rintro e w1 ⟨rfl,hb1⟩;have HB1:Hid _:=hb1;clear hb1)) | (go_at_call 117;(refine (h0 _ _ _ e.1 (g0 _ (sqO HA.out)) (g0' _ (sqO HA.out))).mono ?_;rintro e w0 ⟨rfl,hb0⟩;have HB0:Hid _:=hb0;have k0:=(hb0.cell (p:=⟨w.heap.size,1,none⟩) (by simp only [Zg];omega)).trans ((sqK (a:=⟨w.heap.size,1,none⟩) (Below.heap_alloc _ _ _ (by simp))).trans (ZaG _ _ _ 1 cv rfl));have m0:=(hb0.cell (p:=⟨(w.alloc (.cells #[kv,cv] 64)).heap.size,1,none⟩) (by simp)).trans (ZaG _ _ _ 1 cv' rfl);simp only [Zg] at m0;clear hb0)));go_ret;exact ⟨rfl,((HA.out.trans (HB0.out.mono HA.out.size)).trans (HB1.out.mono (HA.out.trans (HB0.out.mono HA.out.size)).size))⟩
theorem Zjr {d:Nat} (h0:EqC 87 (λw v es=>Rows w All 2 (HCl w All (HEx w All d)) v es)) :
 EqC 49 (λw v e=>∃ cs,v=.agg cs.toArray/\HFn w All d cs e):=by
 intro w v1 v2 e i1 i2;obtain ⟨cs,rfl,cv,rfl,p1,p2,f0⟩:=i1;obtain ⟨cs,rfl,cv',rfl,p1',p2',f0'⟩:=i2;have hal:Bz w ((w.alloc (.cells #[.string e.name,.int .i64 e.arity,cv] 40)).alloc (.cells #[.string e.name,.int .i64 e.arity,cv'] 40)):=((sqN _ _)).alloc (by simp) _;have HA:=hid hal;have g0:∀ w',Ze All w w'->Rows w' All 2 (HCl w' All (HEx w' All d)) cv e.clauses:=λw' hw=>f0.mono (hw) sqj (λ_ _ _ h=>h.mono (hw) sqj (λ_ _=>HEx.mono (hw) sqj));have g0':∀ w',Ze All w w'->Rows w' All 2 (HCl w' All (HEx w' All d)) cv' e.clauses:=λw' hw=>f0'.mono (hw) sqj (λ_ _ _ h=>h.mono (hw) sqj (λ_ _=>HEx.mono (hw) sqj));clear hal f0 f0';go_enter func49,ntmps49;go_wp2_with (first | (go_at_call 87;(refine (h0 _ _ _ e.clauses (g0 _ (sqO HA.out)) (g0' _ (sqO HA.out))).mono ?_;rintro e w0 ⟨rfl,hb0⟩;have HB0:Hid _:=hb0;clear hb0)));go_ret;exact ⟨rfl,(HA.out.trans (HB0.out.mono HA.out.size))⟩
theorem Zjs {d:Nat}  :
 EqC 48 (λw v e=>∃ cs,v=.agg cs.toArray/\HRf cs e):=by
 intro w v1 v2 e i1 i2;obtain ⟨cs,rfl,rfl,p1,p2⟩:=i1;obtain ⟨cs,rfl,rfl,p1',p2'⟩:=i2;go_enter func48,ntmps48;go_wp2;go_ret;exact ⟨rfl,((sqN _ _)).alloc (by simp) _⟩
theorem Zgu {d:Nat} (h0:EqC 18 (λw v es=>Rows w All 2 (HRf) v es)) (h1:EqC 19 (λw v es=>Rows w All 3 (HFn w All d) v es)) :
 EqC 6 (λw v e=>∃ cs,v=.agg cs.toArray/\HMd w All d cs e):=by
 intro w v1 v2 e i1 i2;obtain ⟨cs,rfl,kv,cv,rfl,p1,f0,f1⟩:=i1;obtain ⟨cs,rfl,kv',cv',rfl,p1',f0',f1'⟩:=i2;have hal:Bz w ((w.alloc (.cells #[.string e.name,kv,cv] 25)).alloc (.cells #[.string e.name,kv',cv'] 25)):=((sqN _ _)).alloc (by simp) _;have HA:=hid hal;have g0:∀ w',Ze All w w'->Rows w' All 2 HRf kv e.exports:=λw' hw=>f0.mono (hw) sqj (λ_ _ _ h=>h);have g0':∀ w',Ze All w w'->Rows w' All 2 HRf kv' e.exports:=λw' hw=>f0'.mono (hw) sqj (λ_ _ _ h=>h);have g1:∀ w',Ze All w w'->Rows w' All 3 (HFn w' All d) cv e.funs:=λw' hw=>f1.mono (hw) sqj (λ_ _ _ h=>h.mono (hw) sqj);have g1':∀ w',Ze All w w'->Rows w' All 3 (HFn w' All d) cv' e.funs:=λw' hw=>f1'.mono (hw) sqj (λ_ _ _ h=>h.mono (hw) sqj);clear hal f0 f0' f1 f1';go_enter func6,ntmps6;go_wp2_with (first | (go_at_call 19;(refine (h1 _ _ _ e.funs (g1 _ (sqO (HA.out.trans (HB0.out.mono HA.out.size)))) (g1' _ (sqO (HA.out.trans (HB0.out.mono HA.out.size))))).mono ?_;rintro e w1 ⟨rfl,hb1⟩;have HB1:Hid _:=hb1;clear hb1)) | (go_at_call 18;(refine (h0 _ _ _ e.exports (g0 _ (sqO HA.out)) (g0' _ (sqO HA.out))).mono ?_;rintro e w0 ⟨rfl,hb0⟩;have HB0:Hid _:=hb0;have k0:=(hb0.cell (p:=⟨w.heap.size,2,none⟩) (by simp only [Zg];omega)).trans ((sqK (a:=⟨w.heap.size,2,none⟩) (Below.heap_alloc _ _ _ (by simp))).trans (ZaG _ _ _ 2 cv rfl));have m0:=(hb0.cell (p:=⟨(w.alloc (.cells #[.string e.name,kv,cv] 25)).heap.size,2,none⟩) (by simp)).trans (ZaG _ _ _ 2 cv' rfl);simp only [Zg] at m0;clear hb0)));go_ret;exact ⟨rfl,((HA.out.trans (HB0.out.mono HA.out.size)).trans (HB1.out.mono (HA.out.trans (HB0.out.mono HA.out.size)).size))⟩
theorem Zcc:∀ d,EqC 127 (λw v e=>∃ cs,v=.agg cs.toArray/\HEx w All d cs e)
 | 0=>λw v v' x ⟨_,_,h⟩ _=>h.elim
 | d+1=>Zjq (Zcb (Zcc d)) (Zdo (Zd8 (Zcb (Zcc d)) (Zcb (Zcc d))))
theorem Zfb (d:Nat):EqC 87 (λw v es=>Rows w All 2 (HCl w All (HEx w All d)) v es) :=
 Zdo (Zd8 (Zcb (Zcc d)) (Zcb (Zcc d)))
theorem Zdp (d:Nat):EqC 6 (λw v m=>∃ cs,v=.agg cs.toArray/\HMd w All d cs m) :=
 Zgu (ZiC (d:=0) (Zjs (d:=0))) (ZiB (Zjr (Zfb d)))
end
end Go.Proofs.YtacioihbhkcdcaaGreatDoor
