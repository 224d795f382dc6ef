/-
  TokKit Scan SkipGap Number
-/
import Derived.Test.YtacioihbhkcdcaaGreatDoorP08
import Derived.Lib.ItoaNum
set_option maxHeartbeats 16000000
set_option linter.unusedVariables false
set_option maxRecDepth 100000
namespace Go.Proofs.YtacioihbhkcdcaaGreatDoor
open Go.ChangeShapes Go.WideShapes Go.ChangeAt Go.RowKit
theorem Zf {a b c:World} {r:Option Nat} (h:a.grownBy b r) (k:b.grownBy c r):a.grownBy c r :=
 ⟨k.os.trans h.os,k.tape.trans h.tape,k.output.trans h.output,Nat.le_trans h.size k.size,λj hj hr=>(k.block j (Nat.lt_of_lt_of_le hj h.size) hr).trans (h.block j hj hr)⟩
theorem ZbA {a b:World} {B g:Nat} (h:a.grownBy b (some g)) (hB:B<=g) (hs:B<=a.heap.size):Below B a b :=
 ⟨h.os,h.tape,h.output,h.size,λj hj=>h.block j (by omega) (by simp;omega)⟩
section
open Go.Proofs.Tryz
def Sc (w:World) (C:Nat) (s:ByteArray) (i:Nat) (line:Int) (d:Int) (V:Option Nat):Prop :=
 w.heap[C]?=some (.cells #[.string s,.int .i64 i,.int .i64 line,.int .u32 d,.int .i32 0,.int .u32 0,.map V] 86 (0,0))
theorem Sc.cells {w:World} {C:Nat} {s:ByteArray} {i:Nat} {line d:Int} {V:Option Nat} (h:Sc w C s i line d V) :
 w.cell? ⟨C,0,none⟩=some (.string s)/\w.cell? ⟨C,1,none⟩=some (.int .i64 i)/\w.cell? ⟨C,2,none⟩=some (.int .i64 line)/\w.cell? ⟨C,3,none⟩=some (.int .u32 d) /\
 w.cell? ⟨C,4,none⟩=some (.int .i32 0)/\w.cell? ⟨C,5,none⟩=some (.int .u32 0)/\w.cell? ⟨C,6,none⟩=some (.map V):=by
 unfold Sc at h
 refine ⟨?_,?_,?_,?_,?_,?_,?_⟩ <;> (rw [cell_of_row w C _ _ _ (0,0) h];rfl)
theorem Sc.frozen {w:World} {C:Nat} {s:ByteArray} {i:Nat} {line d:Int} {V:Option Nat} (h:Sc w C s i line d V) (j:Nat):w.frozen? ⟨C,j,none⟩=false :=
 frozen_of_row w C j _ _ h
theorem Sc.lt {w:World} {C:Nat} {s:ByteArray} {i:Nat} {line d:Int} {V:Option Nat} (h:Sc w C s i line d V):C<w.heap.size:=(Array.getElem?_eq_some_iff.1 h).1
theorem Sc.at_ {w:World} {C:Nat} {s:ByteArray} {i:Nat} {line d:Int} {V:Option Nat} (h:Sc w C s i line d V) (k:Nat):Sc (w.setCell ⟨C,1,none⟩ (.int .i64 k)) C s k line d V :=
 (heap_setCell_same w C 1 _ _ _ h).trans rfl
theorem Sc.atI {w:World} {C:Nat} {s:ByteArray} {i:Nat} {line d:Int} {V:Option Nat} (h:Sc w C s i line d V) (m:Int) (k:Nat) (hm:m=k):Sc (w.setCell ⟨C,1,none⟩ (.int .i64 m)) C s k line d V:=by
 subst hm;exact h.at_ k
def Zgl (w:World) (C:Nat):Nat:=match w.cell? ⟨C,1,none⟩ with | some v=>(intOf v).toNat | none=>0
theorem Sc.pos {w:World} {C:Nat} {s:ByteArray} {i:Nat} {line d:Int} {V:Option Nat} (h:Sc w C s i line d V):Zgl w C=i:=by
 unfold Zgl;rw [h.cells.2.1];simp [intOf]
theorem Sc.line_ {w:World} {C:Nat} {s:ByteArray} {i:Nat} {line d:Int} {V:Option Nat} (h:Sc w C s i line d V) (k:Int):Sc (w.setCell ⟨C,2,none⟩ (.int .i64 k)) C s i k d V :=
 (heap_setCell_same w C 2 _ _ _ h).trans rfl
theorem Sc.of_heap {w w':World} {C:Nat} {s:ByteArray} {i:Nat} {line d:Int} {V:Option Nat} (h:Sc w C s i line d V) (e:w'.heap[C]?=w.heap[C]?):Sc w' C s i line d V:=e.trans h
theorem Sc.below {w w':World} {C:Nat} {s:ByteArray} {i:Nat} {line d:Int} {V:Option Nat} (h:Sc w C s i line d V) (hb:Bz w w'):Sc w' C s i line d V:=h.of_heap (hb.block C h.lt)
theorem Zan (w:World) (C j:Nat) (v:Value):w.grownBy (w.setCell ⟨C,j,none⟩ v) (some C) :=
 ⟨rfl,rfl,rfl,by simp,λk _ hk=>heap_setCell_other w ⟨C,j,none⟩ k v (λe=>hk (by simp [e]))⟩
theorem Zz (w:World) (n:Nat) (r:Option Nat):w.grownBy (w.drewN n) r:=⟨rfl,rfl,rfl,Nat.le_refl _,λ_ _ _=>rfl⟩
theorem Sc.other {w:World} {C:Nat} {s:ByteArray} {i:Nat} {line d:Int} {V:Option Nat} (h:Sc w C s i line d V) {b:Nat} (hb:C≠b) (o:Nat) (v:Value):Sc (w.setCell ⟨b,o,none⟩ v) C s i line d V :=
 h.of_heap (heap_setCell_other w ⟨b,o,none⟩ C v hb)
theorem Sc.drew {w:World} {C:Nat} {s:ByteArray} {i:Nat} {line d:Int} {V:Option Nat} (h:Sc w C s i line d V):Sc w.drew C s i line d V:=h
theorem ZcM {w w1:World} {r:Option Nat} (h:w.grownBy w1 r) {b:Nat} (hb:w.heap.size<=b) (o:Nat) (v:Value):w.grownBy (w1.setCell ⟨b,o,none⟩ v) r :=
 ⟨h.os,h.tape,h.output,by simpa using h.size,λk hk hr=>(heap_setCell_other w1 ⟨b,o,none⟩ k v (λe=>by simp at e;omega)).trans (h.block k hk hr)⟩
theorem ZeB {w w1:World} {r:Option Nat} (h:w.grownBy w1 r):w.grownBy w1.drew r:=⟨h.os,h.tape,h.output,h.size,h.block⟩
theorem Zjb {w w1:World} {r:Option Nat} (h:w.grownBy w1 r) (n:Nat):w.grownBy (w1.drewN n) r:=⟨h.os,h.tape,h.output,h.size,h.block⟩
theorem Sc.store4 {w:World} {C:Nat} {s:ByteArray} {i:Nat} {line d:Int} {V:Option Nat} (h:Sc w C s i line d V) {b:Nat} (hb:C≠b) (x0 x1 x2 x3:Value):Sc ((((w.setCell ⟨b,0,none⟩ x0).setCell ⟨b,1,none⟩ x1).setCell ⟨b,2,none⟩ x2).setCell ⟨b,3,none⟩ x3) C s i line d V :=
 (((h.other hb 0 x0).other hb 1 x1).other hb 2 x2).other hb 3 x3
theorem ZU {w w1:World} {r:Option Nat} (h:w.grownBy w1 r) {b:Nat} (hb:w.heap.size<=b) (x0 x1 x2 x3:Value):w.grownBy ((((w1.setCell ⟨b,0,none⟩ x0).setCell ⟨b,1,none⟩ x1).setCell ⟨b,2,none⟩ x2).setCell ⟨b,3,none⟩ x3) r :=
 ZcM (ZcM (ZcM (ZcM h hb 0 x0) hb 1 x1) hb 2 x2) hb 3 x3
theorem Zdn (n:Int) (w:World) (h0:0<=n) (h1:n<256) :
 Calls prog 64 #[.int .u8 n] w λe w'=>e=.returned (.bool (n != 10))/\w'=w:=by
 go_enter func64,ntmps64;go_wp2;go_ret;exact ⟨rfl,rfl⟩
theorem Zhu (C:Nat) (s:ByteArray) (i:Nat) (line d:Int) (V:Option Nat) (w:World) (hs:s.size<=4000) (hi:i<=s.size) (h:Sc w C s i line d V) :
 Calls prog 63 #[.pointer (some ⟨C,0,none⟩),.func (.func 65) #[] #[]] w λe w'=>e=.returned (.string (s.extract i (runEnd digB s.data.toList i)))/\Sc w' C s (runEnd digB s.data.toList i) line d V/\w.grownBy w' (some C):=by
 obtain ⟨c0,c1,c2,c3,c4,c5,c6⟩:=h.cells;have H:=hid h;have HLL:Hid (s.data.toList.length=s.size):=(by show s.data.toList.length=s.size;simp);clear h c2 c3 c4 c5 c6;go_enter func63,ntmps63;go_wp2;clear c0 c1
 go_loopw [] (λwr=>∃ k:Nat,i<=k/\k<=s.size/\runEnd digB s.data.toList i=runEnd digB s.data.toList k/\Sc wr C s k line d V/\w.grownBy wr (some C)) (λwr=>s.size - Zgl wr C)
 case atStart=>exact ⟨i,Nat.le_refl _,hi,rfl,H.out,World.grownBy.refl _ _⟩
 case round =>
  obtain ⟨k,hik,hk,hrun,hsc,hgr⟩:=hrel;obtain ⟨c0,c1,c2,c3,c4,c5,c6⟩:=hsc.cells;have f1:=hsc.frozen 1;have HS:=hid hsc;have HG:=hid hgr;have HR:=hid hrun;clear hsc hgr hrun c2 c3 c4 c5 c6;by_cases hlt:k<s.size
  . have hbk:=Zas s k hlt
    have HGB:=hid (Zae s k hlt)
    have hc:inB (s[k].toNat:Int) 48 57=true\/inB (s[k].toNat:Int) 48 57=false:=by cases inB (s[k].toNat:Int) 48 57 <;> simp
    rcases hc with hc | hc
    . have HST:Hid (runEnd digB s.data.toList k=runEnd digB s.data.toList (k+1)):=ZaN _ _ _ (by rw [HLL.out];exact hlt) (by rw [HGB.out];exact hc)
      go_wp2
      go_quiet ((go_at_call 65;exact Calls.quiet_of_same (ZaZ _ _ hbk.1 hbk.2)))
      go_wp2;have hsc2:Sc ((wr.drewN nq).setCell ⟨C,1,none⟩ (.int .i64 ((k:Int)+1))) C s (k+1) line d V:=Sc.atI (w:=wr.drewN nq) HS.out _ (k+1) (by omega);refine ⟨⟨k+1,by omega,by omega,HR.out.trans HST.out,hsc2,Zf HG.out (Zf (Zz wr nq _) (Zan _ _ _ _))⟩,?_⟩;rw [hsc2.pos,HS.out.pos];omega
    . have hst:runEnd digB s.data.toList k=k:=Zag _ _ _ (.inr (by rw [HGB.out];exact hc))
      have HKE:=hid (HR.out.trans hst);clear hst HR;go_wp2
      go_quiet ((go_at_call 65;exact Calls.quiet_of_same (ZaZ _ _ hbk.1 hbk.2)))
      go_wp2
      go_quiet (fail)
      go_wp2;go_ret;exact ⟨by rw [HKE.out];rfl,by rw [HKE.out];exact HS.out,Zf HG.out (Zf (Zz wr _ _) (Zz _ _ _))⟩
  . have hst:runEnd digB s.data.toList k=k:=Zag _ _ _ (.inl (by rw [HLL.out];omega))
    have HKE:=hid (HR.out.trans hst);clear hst HR;have hdec:decide ((k:Int)<(s.size:Int))=false:=(by rw [decide_eq_false_iff_not];omega);go_wp2
    go_quiet (fail)
    go_wp2
    go_quiet (fail)
    go_wp2;go_ret;exact ⟨by rw [HKE.out];rfl,by rw [HKE.out];exact HS.out,Zf HG.out (Zf (Zz wr _ _) (Zz _ _ _))⟩
theorem Zil (C:Nat) (s:ByteArray) (i:Nat) (line d:Int) (V:Option Nat) (w:World) (hs:s.size<=4000) (hi:i<=s.size) (h:Sc w C s i line d V) :
 Calls prog 63 #[.pointer (some ⟨C,0,none⟩),.func (.func 67) #[] #[]] w λe w'=>e=.returned (.string (s.extract i (runEnd ZD s.data.toList i)))/\Sc w' C s (runEnd ZD s.data.toList i) line d V/\w.grownBy w' (some C):=by
 obtain ⟨c0,c1,c2,c3,c4,c5,c6⟩:=h.cells;have H:=hid h;have HLL:Hid (s.data.toList.length=s.size):=(by show s.data.toList.length=s.size;simp);clear h c2 c3 c4 c5 c6;go_enter func63,ntmps63;go_wp2;clear c0 c1
 go_loopw [] (λwr=>∃ k:Nat,i<=k/\k<=s.size/\runEnd ZD s.data.toList i=runEnd ZD s.data.toList k/\Sc wr C s k line d V/\w.grownBy wr (some C)) (λwr=>s.size - Zgl wr C)
 case atStart=>exact ⟨i,Nat.le_refl _,hi,rfl,H.out,World.grownBy.refl _ _⟩
 case round =>
  obtain ⟨k,hik,hk,hrun,hsc,hgr⟩:=hrel;obtain ⟨c0,c1,c2,c3,c4,c5,c6⟩:=hsc.cells;have f1:=hsc.frozen 1;have HS:=hid hsc;have HG:=hid hgr;have HR:=hid hrun;clear hsc hgr hrun c2 c3 c4 c5 c6;by_cases hlt:k<s.size
  . have hbk:=Zas s k hlt
    have HGB:=hid (Zae s k hlt)
    have hc:signB (s[k].toNat:Int)=true\/signB (s[k].toNat:Int)=false:=by cases signB (s[k].toNat:Int) <;> simp
    rcases hc with hc | hc
    . have HST:Hid (runEnd ZD s.data.toList k=runEnd ZD s.data.toList (k+1)):=ZaN _ _ _ (by rw [HLL.out];exact hlt) (by rw [HGB.out];exact hc)
      go_wp2
      go_quiet ((go_at_call 67;exact Calls.quiet_of_same (Zay _ _ hbk.1 hbk.2)))
      go_wp2;have hsc2:Sc ((wr.drewN nq).setCell ⟨C,1,none⟩ (.int .i64 ((k:Int)+1))) C s (k+1) line d V:=Sc.atI (w:=wr.drewN nq) HS.out _ (k+1) (by omega);refine ⟨⟨k+1,by omega,by omega,HR.out.trans HST.out,hsc2,Zf HG.out (Zf (Zz wr nq _) (Zan _ _ _ _))⟩,?_⟩;rw [hsc2.pos,HS.out.pos];omega
    . have hst:runEnd ZD s.data.toList k=k:=Zag _ _ _ (.inr (by rw [HGB.out];exact hc))
      have HKE:=hid (HR.out.trans hst);clear hst HR;go_wp2
      go_quiet ((go_at_call 67;exact Calls.quiet_of_same (Zay _ _ hbk.1 hbk.2)))
      go_wp2
      go_quiet (fail)
      go_wp2;go_ret;exact ⟨by rw [HKE.out];rfl,by rw [HKE.out];exact HS.out,Zf HG.out (Zf (Zz wr _ _) (Zz _ _ _))⟩
  . have hst:runEnd ZD s.data.toList k=k:=Zag _ _ _ (.inl (by rw [HLL.out];omega))
    have HKE:=hid (HR.out.trans hst);clear hst HR;have hdec:decide ((k:Int)<(s.size:Int))=false:=(by rw [decide_eq_false_iff_not];omega);go_wp2
    go_quiet (fail)
    go_wp2
    go_quiet (fail)
    go_wp2;go_ret;exact ⟨by rw [HKE.out];rfl,by rw [HKE.out];exact HS.out,Zf HG.out (Zf (Zz wr _ _) (Zz _ _ _))⟩
theorem Zgm (C:Nat) (s:ByteArray) (i:Nat) (line d:Int) (V:Option Nat) (w:World) (hs:s.size<=4000) (hi:i<=s.size) (h:Sc w C s i line d V) :
 Calls prog 63 #[.pointer (some ⟨C,0,none⟩),.func (.func 64) #[] #[]] w λe w'=>e=.returned (.string (s.extract i (runEnd Za9 s.data.toList i)))/\Sc w' C s (runEnd Za9 s.data.toList i) line d V/\w.grownBy w' (some C):=by
 obtain ⟨c0,c1,c2,c3,c4,c5,c6⟩:=h.cells;have H:=hid h;have HLL:Hid (s.data.toList.length=s.size):=(by show s.data.toList.length=s.size;simp);clear h c2 c3 c4 c5 c6;go_enter func63,ntmps63;go_wp2;clear c0 c1
 go_loopw [] (λwr=>∃ k:Nat,i<=k/\k<=s.size/\runEnd Za9 s.data.toList i=runEnd Za9 s.data.toList k/\Sc wr C s k line d V/\w.grownBy wr (some C)) (λwr=>s.size - Zgl wr C)
 case atStart=>exact ⟨i,Nat.le_refl _,hi,rfl,H.out,World.grownBy.refl _ _⟩
 case round =>
  obtain ⟨k,hik,hk,hrun,hsc,hgr⟩:=hrel;obtain ⟨c0,c1,c2,c3,c4,c5,c6⟩:=hsc.cells;have f1:=hsc.frozen 1;have HS:=hid hsc;have HG:=hid hgr;have HR:=hid hrun;clear hsc hgr hrun c2 c3 c4 c5 c6;by_cases hlt:k<s.size
  . have hbk:=Zas s k hlt
    have HGB:=hid (Zae s k hlt)
    have hc:((s[k].toNat:Int) != 10)=true\/((s[k].toNat:Int) != 10)=false:=by cases ((s[k].toNat:Int) != 10) <;> simp
    rcases hc with hc | hc
    . have HST:Hid (runEnd Za9 s.data.toList k=runEnd Za9 s.data.toList (k+1)):=ZaN _ _ _ (by rw [HLL.out];exact hlt) (by rw [HGB.out];first | (rw [Za9,bne_iff_ne];rw [bne_iff_ne] at hc;omega) | (rw [Za9,bne_eq_false_iff_eq];rw [bne_eq_false_iff_eq] at hc;omega))
      go_wp2
      go_quiet ((go_at_call 64;exact Calls.quiet_of_same (Zdn _ _ hbk.1 hbk.2)))
      go_wp2;have hsc2:Sc ((wr.drewN nq).setCell ⟨C,1,none⟩ (.int .i64 ((k:Int)+1))) C s (k+1) line d V:=Sc.atI (w:=wr.drewN nq) HS.out _ (k+1) (by omega);refine ⟨⟨k+1,by omega,by omega,HR.out.trans HST.out,hsc2,Zf HG.out (Zf (Zz wr nq _) (Zan _ _ _ _))⟩,?_⟩;rw [hsc2.pos,HS.out.pos];omega
    . have hst:runEnd Za9 s.data.toList k=k:=Zag _ _ _ (.inr (by rw [HGB.out];first | (rw [Za9,bne_iff_ne];rw [bne_iff_ne] at hc;omega) | (rw [Za9,bne_eq_false_iff_eq];rw [bne_eq_false_iff_eq] at hc;omega)))
      have HKE:=hid (HR.out.trans hst);clear hst HR;go_wp2
      go_quiet ((go_at_call 64;exact Calls.quiet_of_same (Zdn _ _ hbk.1 hbk.2)))
      go_wp2
      go_quiet (fail)
      go_wp2;go_ret;exact ⟨by rw [HKE.out];rfl,by rw [HKE.out];exact HS.out,Zf HG.out (Zf (Zz wr _ _) (Zz _ _ _))⟩
  . have hst:runEnd Za9 s.data.toList k=k:=Zag _ _ _ (.inl (by rw [HLL.out];omega))
    have HKE:=hid (HR.out.trans hst);clear hst HR;have hdec:decide ((k:Int)<(s.size:Int))=false:=(by rw [decide_eq_false_iff_not];omega);go_wp2
    go_quiet (fail)
    go_wp2
    go_quiet (fail)
    go_wp2;go_ret;exact ⟨by rw [HKE.out];rfl,by rw [HKE.out];exact HS.out,Zf HG.out (Zf (Zz wr _ _) (Zz _ _ _))⟩
def Reaches (l:List UInt8) (i:Nat) (line:Int) (i':Nat) (line':Int):Prop :=
 ∀ acc f,l.length - i<f->∃ f',l.length - i'<f'/\lexF l f i line acc=lexF l f' i' line' acc
theorem Reaches.refl (l:List UInt8) (i:Nat) (line:Int):Reaches l i line i line:=λacc f hf=>⟨f,hf,rfl⟩
theorem Reaches.trans {l:List UInt8} {a b c:Nat} {x y z:Int} (h:Reaches l a x b y) (k:Reaches l b y c z):Reaches l a x c z:=by
 intro acc f hf;obtain ⟨f1,h1,e1⟩:=h acc f hf;obtain ⟨f2,h2,e2⟩:=k acc f1 h1;exact ⟨f2,h2,e1.trans e2⟩
theorem Reaches.gap {l:List UInt8} {i:Nat} {line:Int} {i':Nat} {line':Int} (hi:i<l.length) (h:Zav l i line=some (i',line')):Reaches l i line i' line':=by
 intro acc f hf;obtain ⟨g,rfl⟩:∃ g,f=g+1:=⟨f - 1,by omega⟩;have:=ZbF hi h;exact ⟨g,by omega,ZcB hi h⟩
theorem Zd2 (C:Nat) (s:ByteArray) (i:Nat) (line d:Int) (V:Option Nat) (w:World) (hs:s.size<=4000) (hi:i<=s.size) (hl1:1<=line) (hl2:line<=i+1) (h:Sc w C s i line d V) :
 Calls prog 38 #[.pointer (some ⟨C,0,none⟩)] w λe w'=>e=.returned (.tuple #[])/\∃ (i':Nat) (line':Int),Sc w' C s i' line' d V/\w.grownBy w' (some C)/\i<=i'/\i'<=s.size/\1<=line'/\line'<=i'+1/\Reaches s.data.toList i line i' line'/\(i'<s.size->Zav s.data.toList i' line'=none):=by
 have H:=hid h;have HLL:Hid (s.data.toList.length=s.size):=(by show s.data.toList.length=s.size;simp);clear h;go_enter func38,ntmps38;go_wp2
 go_loopw [] (λwr=>∃ (k:Nat) (ln:Int),i<=k/\k<=s.size/\1<=ln/\ln<=k+1/\Reaches s.data.toList i line k ln/\Sc wr C s k ln d V/\w.grownBy wr (some C)) (λwr=>s.size - Zgl wr C)
 case atStart=>exact ⟨i,line,Nat.le_refl _,hi,hl1,hl2,Reaches.refl _ _ _,H.out,World.grownBy.refl _ _⟩
 case round =>
  obtain ⟨k,ln,hik,hk,hln1,hln2,hrch,hsc,hgr⟩:=hrel;obtain ⟨c0,c1,c2,c3,c4,c5,c6⟩:=hsc.cells;have f1:=hsc.frozen 1;have f2:=hsc.frozen 2;have HS:=hid hsc;have HG:=hid hgr;have HR:=hid hrch;clear hsc hgr hrch c3 c4 c5 c6;by_cases hlt:k<s.size
  . have hltl:k<s.data.toList.length:=by rw [HLL.out];exact hlt
    have hbk:=Zas s k hlt;by_cases h32:(s[k].toNat:Int)=32
    . have h32b:((s[k].toNat:Int) == 32)=true:=by rw [beq_iff_eq];exact h32
      have HR':=hid (HR.out.trans (.gap hltl (Zjy hlt h32)));have HX:=hid h32;clear h32 HR;go_wp2
      go_quiet (fail)
      go_wp2
      go_quiet (fail)
      go_wp2;generalize hW:wr.drewN _=wd;have hscd:Sc wd C s k ln d V:=(by rw [<-hW];exact HS.out);have hgd:wr.grownBy wd (some C):=(by rw [<-hW];exact Zz _ _ _);have hsc2:Sc (wd.setCell ⟨C,1,none⟩ (.int .i64 ((k:Int)+1))) C s (k+1) ln d V:=hscd.atI _ (k+1) (by omega);refine ⟨⟨k+1,ln,by omega,by omega,hln1,by omega,HR'.out,hsc2,Zf HG.out (Zf hgd (Zan _ _ _ _))⟩,?_⟩;rw [hsc2.pos,HS.out.pos];omega
    . have h32b:((s[k].toNat:Int) == 32)=false:=by rw [beq_eq_false_iff_ne];exact h32
      have H32:=hid h32;clear h32;by_cases h10:(s[k].toNat:Int)=10
      . have h10b:((s[k].toNat:Int) == 10)=true:=by rw [beq_iff_eq];exact h10
        have HR':=hid (HR.out.trans (.gap hltl (Zjz hlt h10)));have HX:=hid h10;clear h10 HR;go_wp2
        go_quiet (fail)
        go_wp2
        go_quiet (fail)
        go_wp2;generalize hW:wr.drewN _=wd;have hscd:Sc wd C s k ln d V:=(by rw [<-hW];exact HS.out);have hgd:wr.grownBy wd (some C):=(by rw [<-hW];exact Zz _ _ _);have hsc2:Sc ((wd.setCell ⟨C,1,none⟩ (.int .i64 ((k:Int)+1))).setCell ⟨C,2,none⟩ (.int .i64 (ln+1))) C s (k+1) (ln+1) d V:=(hscd.atI _ (k+1) (by omega)).line_ _;refine ⟨⟨k+1,ln+1,by omega,by omega,by omega,by omega,HR'.out,hsc2,Zf HG.out (Zf hgd (Zf (Zan _ _ _ _) (Zan _ _ _ _)))⟩,?_⟩;rw [hsc2.pos,HS.out.pos];omega
      . have h10b:((s[k].toNat:Int) == 10)=false:=by rw [beq_eq_false_iff_ne];exact h10
        by_cases h37:(s[k].toNat:Int)=37
        . have h37b:((s[k].toNat:Int) == 37)=true:=by rw [beq_iff_eq];exact h37
          have hgs:=Zjx (line:=ln) hlt h37;have HR':=hid (HR.out.trans (.gap hltl hgs));have HGT:Hid (k<runEnd Za9 s.data.toList k):=(ZbF hltl hgs).1;have HLE:Hid (runEnd Za9 s.data.toList k<=s.size):=(by have:=(ZbF hltl hgs).2;rw [HLL.out] at this;exact this);have HX:=hid h37;clear h37 HR hgs h10;go_wp2
          go_quiet (fail)
          go_wp2
          go_quiet (fail)
          go_wp2_with fail;generalize hW:wr.drewN _=wd;have hscd:Sc wd C s k ln d V:=(by rw [<-hW];exact HS.out);have hgd:wr.grownBy wd (some C):=(by rw [<-hW];exact Zz _ _ _);clear hW;refine (Zgm C s k ln d V wd hs (by omega) hscd).mono ?_;rintro e w1 ⟨rfl,hsc1,hg1⟩;have HS1:=hid hsc1;have HG1:=hid hg1;have HGD:=hid hgd;clear hsc1 hg1 hgd hscd c0 c1 c2 f1 f2;go_wp2;refine ⟨⟨runEnd Za9 s.data.toList k,ln,by have:=HGT.out;omega,HLE.out,hln1,by have:=HGT.out;omega,HR'.out,HS1.out,Zf HG.out (Zf HGD.out HG1.out)⟩,?_⟩;rw [HS1.out.pos,HS.out.pos];have:=HGT.out;have:=HLE.out;omega
        . have h37b:((s[k].toNat:Int) == 37)=false:=by rw [beq_eq_false_iff_ne];exact h37
          have HNG:Hid (Zav s.data.toList k ln=none):=ZjA hlt h37 H32.out h10;clear h37 h10;go_wp2
          go_quiet (fail)
          go_wp2
          go_quiet (fail)
          go_wp2
          first | go_end0 | (simp only [Exit.inBlock,Exit.then];refine bodyPost_ret (results_none rfl _ _ _) rfl ?_) | refine bodyPost_ret (results_none rfl _ _ _) rfl ?_
          exact ⟨rfl,k,ln,HS.out,Zf HG.out (Zz wr _ _),hik,hk,hln1,hln2,HR.out,λ_=>HNG.out⟩
  . go_wp2
    go_quiet (fail)
    go_wp2;go_end0;exact ⟨rfl,k,ln,HS.out,Zf HG.out (Zz wr _ _),hik,hk,hln1,hln2,HR.out,λh=>absurd h hlt⟩
def Zg3 (l:List UInt8) (i:Nat) (line:Int) (tv:Value) (ok:Bool) (k:Nat):Prop :=
 (ok=true/\∃ t,Zaf l i line=some (t,k)/\tv=t.agg)\/(ok=false/\Zaf l i line=none/\tv=.agg #[.int .i64 0,.string ⟨#[]⟩,.int .i64 0,.int .i64 0])
theorem ZfG {l:List UInt8} {i:Nat} {line:Int} (hd:digB (l.getD i 0)=true) (h:¬ runEnd digB l i - i<=9):Zaf l i line=none:=by
 simp only [Zaf];rw [if_pos hd,if_neg h]
theorem Ze5 {l:List UInt8} {i:Nat} {line:Int} (hd:digB (l.getD i 0)=true) (h9:runEnd digB l i - i<=9):Zaf l i line=some (⟨2,[],valOf (cut l i (runEnd digB l i)),line⟩,runEnd digB l i):=by
 simp only [Zaf];rw [if_pos hd,if_pos h9]
theorem Zhv (l:List UInt8) (i:Nat):Zba (cut l i (runEnd digB l i))=true:=by
 unfold Zba cut runEnd;rw [Nat.add_sub_cancel_left]
 have e:(l.drop i).take ((l.drop i).takeWhile digB).length=(l.drop i).takeWhile digB:=by
  conv=>lhs;rw [<-List.takeWhile_append_dropWhile (p:=digB) (l:=l.drop i)]
  rw [List.takeWhile_append_dropWhile];have:=List.prefix_iff_eq_take.1 (List.takeWhile_prefix digB (l:=l.drop i));exact this.symm
 rw [e];exact List.all_takeWhile
theorem Zhw (C:Nat) (s:ByteArray) (i:Nat) (line d:Int) (V:Option Nat) (w:World) (hs:s.size<=4000) (hi:i<s.size) (hd:digB (s.data.toList.getD i 0)=true) (h:Sc w C s i line d V) :
 Calls prog 66 #[.pointer (some ⟨C,0,none⟩)] w λe w'=>∃ tv ok,e=.returned (.tuple #[tv,.bool ok])/\Zg3 s.data.toList i line tv ok (runEnd digB s.data.toList i)/\Sc w' C s (runEnd digB s.data.toList i) line d V/\w.grownBy w' (some C):=by
 have HD:Hid (digB (s.data.toList.getD i 0)=true):=hd;have hC:=h.lt;have HLL:Hid (s.data.toList.length=s.size):=(by show s.data.toList.length=s.size;simp);have hle:runEnd digB s.data.toList i<=s.size:=(by have:=Zbl digB s.data.toList i (by rw [HLL.out];omega);rw [HLL.out] at this;exact this);have hge:=ZbE digB s.data.toList i;have hal:=Zhv s.data.toList i;have HAL:Hid (Zba (cut s.data.toList i (runEnd digB s.data.toList i))=true):=hal;have H0:Hid (Sc (w.alloc (.cells #[.int .i64 0,.string ⟨#[]⟩,.int .i64 0,.int .i64 0] 43)) C s i line d V):=h.below ((sqN _ _));have HT1:=Ze5 (line:=line) hd;have HT2:=ZfG (line:=line) hd;generalize hk:runEnd digB s.data.toList i=k at *;have HT1':Hid (k - i<=9->Zaf s.data.toList i line=some (⟨2,[],valOf (cut s.data.toList i k),line⟩,k)):=HT1;have HT2':Hid (¬ k - i<=9->Zaf s.data.toList i line=none):=HT2;have HK:Hid (runEnd digB s.data.toList i=k):=hk;clear hd h hal HT1 HT2 hk;have hex:=Zaw s i k;have HEX:Hid (s.extract i k=Zad (cut s.data.toList i k)):=hex;have hsz:(s.extract i k).size=k - i:=(by rw [ByteArray.size_extract];omega);clear hex;go_enter func66,ntmps66;go_wp2_with fail;have htk:=Zhu C s i line d V _ hs (by omega) H0.out;rw [HK.out] at htk;refine htk.mono ?_;rintro e w1 ⟨rfl,hsc1,hg1⟩;clear htk;have hne:some w.heap.size≠some C:=(by simp;omega);have hblk:=hg1.block w.heap.size (by simp) hne;have hc1:∀ o,w1.cell? ⟨w.heap.size,o,none⟩=(w.alloc (.cells #[.int .i64 0,.string ⟨#[]⟩,.int .i64 0,.int .i64 0] 43)).cell? ⟨w.heap.size,o,none⟩:=λo=>sqK (a:=⟨w.heap.size,o,none⟩) hblk;have hf1:∀ o,w1.frozen? ⟨w.heap.size,o,none⟩=(w.alloc (.cells #[.int .i64 0,.string ⟨#[]⟩,.int .i64 0,.int .i64 0] 43)).frozen? ⟨w.heap.size,o,none⟩:=λo=>World.frozen?_of_block (a:=⟨w.heap.size,o,none⟩) hblk;obtain ⟨_,_,c2,_,_,_,_⟩:=hsc1.cells;have HS1:Hid (Sc w1 C s k line d V):=hsc1;have HG1:Hid ((w.alloc (.cells #[.int .i64 0,.string ⟨#[]⟩,.int .i64 0,.int .i64 0] 43)).grownBy w1 (some C)):=hg1;have hz1:w.heap.size<w1.heap.size:=(by have:=hg1.size;simp at this;omega);have HGA:Hid (w.grownBy w1 (some C)):=Zf (World.grownBy_alloc _ _ _) hg1;have hCb:C≠w.heap.size:=(by omega);clear hblk hsc1 hg1 hne;by_cases h9:k - i<=9
 . have HT:Hid _:=HT1'.out h9
   go_wp2
   go_region_with ((go_at_call 95;refine (ZdS _ _ (by rw [hsz];omega) (by rw [HEX.out];exact HAL.out)).mono ?_;rintro e w' ⟨rfl,rfl⟩))
   all_goals go_wp2
   all_goals
    refine bodyPost_ret (v:=.tuple #[.agg #[.int .i64 2,.string ⟨#[]⟩,.int .i64 (valOf (cut s.data.toList i k)),.int .i64 line],.bool true]) (by simp [results,results66,go_sem,hc1,cut]) rfl ⟨_,_,rfl,.inl ⟨rfl,_,HT.out,rfl⟩,?_,?_⟩
    . exact (Sc.store4 HS1.out hCb _ _ _ _).drew
    . exact ZeB (ZU HGA.out (sqR _) _ _ _ _)
 . have HT:Hid _:=HT2'.out h9
   go_wp2;refine bodyPost_ret (v:=.tuple #[.agg #[.int .i64 0,.string ⟨#[]⟩,.int .i64 0,.int .i64 0],.bool false]) (by simp [results,results66,go_sem,hc1]) rfl ⟨_,_,rfl,.inr ⟨rfl,HT.out,rfl⟩,?_,?_⟩
   . exact Sc.store4 HS1.out hCb _ _ _ _
   . exact ZU HGA.out (sqR _) _ _ _ _
end
end Go.Proofs.YtacioihbhkcdcaaGreatDoor
