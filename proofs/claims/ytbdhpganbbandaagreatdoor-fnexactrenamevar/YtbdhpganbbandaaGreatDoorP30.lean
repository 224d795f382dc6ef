/-
  CheckMath FindSpec CheckSpecA CheckSpecB LooseMath
-/
import Derived.Test.YtbdhpganbbandaaGreatDoorP21
import Derived.Test.YtbdhpganbbandaaGreatDoorP26
set_option maxHeartbeats 16000000
set_option linter.unusedVariables false
set_option maxRecDepth 100000
namespace Go.Proofs.YtbdhpganbbandaaGreatDoor
open Go.ChangeShapes Go.WideShapes Go.ChangeAt Go.RowKit
def cCall:ByteArray:=⟨#[99,97,108,108]⟩
def cFar:ByteArray:=⟨#[102,97,114]⟩
def cLoose:ByteArray:=⟨#[108,111,111,115,101]⟩
def cExport:ByteArray:=⟨#[101,120,112,111,114,116]⟩
def findI {α:Type} (f:α->Bool) (xs:List α):Int:=match xs.findIdx? f with
 | some k=>k
 | none=>-1
theorem findI_none {α:Type} {f:α->Bool} {xs:List α} (h:xs.any f=false):findI f xs = -1:=by
 have:xs.findIdx? f=none:=by
  rw [List.findIdx?_eq_none_iff];intro x hx
  exact Bool.eq_false_iff.2 λe=>by
   have:=List.any_eq_false.1 h x hx;exact this e
 simp [findI,this]
theorem findI_at {α:Type} {f:α->Bool} {xs:List α} {k:Nat} {x:α} (h:(xs.take k).any f=false) (hx:xs[k]?=some x) (hf:f x=true):findI f xs=k:=by
 have:xs.findIdx? f=some k:=by
  rw [List.findIdx?_eq_some_iff_getElem];obtain ⟨hk,he⟩:=List.getElem?_eq_some_iff.1 hx;refine ⟨hk,by rw [he];exact hf,λj hj=>?_⟩;have:=List.any_eq_false.1 h (xs[j]) (List.mem_of_getElem? (i:=j) (by rw [List.getElem?_take,if_pos hj];exact List.getElem?_eq_getElem _));exact this
 simp [findI,this]
theorem findI_cases {α:Type} (f:α->Bool) (xs:List α):(xs.any f=false/\findI f xs = -1)\/(∃ k x,xs.any f=true/\xs[k]?=some x/\f x=true/\findI f xs=(k:Nat)/\xs.find? f=some x):=by
 cases h:xs.any f with
 | false=>exact Or.inl ⟨rfl,findI_none h⟩
 | true =>
  right
  rw [List.any_eq_true] at h;obtain ⟨x,hx,hf⟩:=h
  cases hi:xs.findIdx? f with
  | none =>
   rw [List.findIdx?_eq_none_iff] at hi;rw [hi x hx] at hf;cases hf
  | some k =>
   rw [List.findIdx?_eq_some_iff_getElem] at hi;obtain ⟨hk,hfk,hj⟩:=hi;refine ⟨k,xs[k],rfl,List.getElem?_eq_getElem _,hfk,?_,?_⟩
   . exact findI_at (x:=xs[k]) (by
      rw [List.any_eq_false];intro y hy;obtain ⟨j,hj'⟩:=List.mem_iff_getElem?.1 hy;rw [List.getElem?_take] at hj'
      split at hj'
      . rename_i hjk
        obtain ⟨h1,rfl⟩:=List.getElem?_eq_some_iff.1 hj'
        simpa using hj j hjk
      . cases hj') (List.getElem?_eq_getElem _) hfk
   . rw [List.find?_eq_some_iff_getElem]
     exact ⟨hfk,k,hk,rfl,λj hj'=>by simpa using hj j hj'⟩
def hasF (m:Md) (s:ByteArray) (n:Int):Bool:=m.funs.any (sameR ⟨s,n⟩)
def sameRf (s:ByteArray) (n:Int) (q:Rf):Bool:=q.name.toList == s.toList && q.arity == n
def hasX (m:Md) (s:ByteArray) (n:Int):Bool:=m.exports.any (sameRf s n)
def named (s:ByteArray) (m:Md):Bool:=m.name.toList == s.toList
def isPutB (s:ByteArray) (n:Int):Bool:=s.toList == [112,117,116] && n == 1
def offersB (ms:List Md) (mod s:ByteArray) (n:Int):Bool:=match ms.find? (named mod) with
 | none=>false
 | some q=>hasX q s n && hasF q s n
def callC (ms:List Md) (m:Md) (x:Ex):ByteArray :=
 if x.mod.toList = [] then (if hasF m x.text x.kids.length || isPutB x.text x.kids.length then ⟨#[]⟩ else cCall)
 else (if offersB ms x.mod x.text x.kids.length then ⟨#[]⟩ else cFar)
def callL (ms:List Md) (m:Md) (x:Ex):List ByteArray:=if x.kind=8 then (if (callC ms m x).toList = [] then [] else [callC ms m x]) else []
def bodiesOf (cl:List Cl):List Ex:=cl.flatMap λc:Cl=>c.2
theorem bodiesOf_snoc (cl:List Cl) (k:Nat) (c:Cl) (h:cl[k]?=some c):bodiesOf (cl.take (k+1))=bodiesOf (cl.take k) ++ c.2:=by
 unfold bodiesOf;rw [List.take_add_one,h];simp
theorem bodiesOf_le (cl:List Cl) (k:Nat):(bodiesOf (cl.take k)).length<=(bodiesOf cl).length:=by
 conv=>rhs;rw [<-List.take_append_drop k cl]
 unfold bodiesOf;rw [List.flatMap_append,List.length_append];omega
def withinX (x:Ex):List Ex:=x.kids ++ bodiesOf x.clauses
def codesX (ms:List Md) (m:Md):Nat->Ex->List ByteArray
 | 0,_=>[]
 | d+1,x=>callL ms m x ++ (withinX x).flatMap (codesX ms m d)
theorem l05Mod_any (d:Nat) (w:World) (v:Value) (ms:List Md) (s:ByteArray) (h:Rows w All 3 (HMd w All d) v ms) :
    Calls Tryz.prog 48 #[v,.string s] w fun e w'=>e=.returned (.int .i64 (findI (named s) ms))∧w'=w:=by
  obtain ⟨p,cap,rfl,hcl,hcm,hx⟩:=h
  have hnb:ms.length≤9223372036854775807:=by unfold maxLen at hcm;omega
  generalize hn:ms.length=n at *
  have HN:Hid (ms.length=n):=hn
  have HX:Hid (ms≠[]→∃ g off,p=some ⟨g,off,none⟩∧All g∧g<w.heap.size∧∀ i x,ms[i]?=some x→∃ cs,cs.length=3∧(∀ j,j<3→w.cell? ⟨g,off+i * 3+j,none⟩=cs[j]?)∧HMd w All d cs x):=hx
  clear hx hn
  go_enter Tryz.func48,Tryz.ntmps48
  go_wp2
  go_loop [5] (fun iv=>∃ k:Nat,k≤n∧iv=.int .i64 k∧Hid ((ms.take k).any (named s)=false)) (fun iv=>n - (intOf iv).toNat)
  case atStart=>exact ⟨0,Nat.zero_le _,rfl,by show _=_;simp⟩
  case round =>
    obtain ⟨k,hk,rfl,hno⟩:=hrel
    by_cases hlt:k<n
    · obtain ⟨x,hxk⟩:∃ x,ms[k]?=some x:=⟨ms[k]'(by rw [HN.out];exact hlt),List.getElem?_eq_getElem _⟩
      obtain ⟨g,off,rfl,-,hgl,hat⟩:=HX.out (by intro h;rw [h] at hxk;simp at hxk)
      obtain ⟨cs,hcsl,hcs,ev,fv,rfl,-⟩:=hat k x hxk
      have a0:=hcs 0 (by omega)
      simp at a0
      have hki:(k:Int)<(n:Int):=by omega
      have hk0:(0:Int)≤(k:Int):=by omega
      clear hcs hat hcsl
      cases hq:(x.name.toList == s.toList) with
      | true =>
        have HS:Hid (findI (named s) ms=k):=findI_at hno.out hxk hq
        go_wp2
        go_ret
        exact ⟨by rw [HS.out];rfl,rfl⟩
      | false =>
        have HS:Hid ((ms.take (k+1)).any (named s)=false):=anyT_succ' _ ms k x hxk hno.out hq
        go_wp2
        go_round
        case rel=>exact ⟨k+1,by omega,by go_num,HS⟩
        case measure=>simp [intOf];omega
    · have HS:Hid (findI (named s) ms = -1):=findI_none (by
        have:=hno.out
        rwa [List.take_of_length_le (by rw [HN.out];omega)] at this)
      go_wp2
      go_ret
      exact ⟨by rw [HS.out];rfl,rfl⟩
theorem l02FindI_any (d:Nat) (w:World) (cs:List Value) (m:Md) (rs:ByteArray) (rn:Int) (h:HMd w All d cs m) :
    Calls Tryz.prog 49 #[.agg cs.toArray,.string rs,.int .i64 rn] w fun e w'=>e=.returned (.int .i64 (findI (sameR ⟨rs,rn⟩) m.funs))∧Below w.heap.size w w':=by
  obtain ⟨ev,fv,rfl,hs,⟨pe,ce,rfl,-⟩,h⟩:=h
  obtain ⟨ms,es,fs⟩:=m
  simp only at *
  obtain ⟨pf,cf,rfl,hcl,hcm,hx⟩:=h
  have hnb:fs.length≤9223372036854775807:=by unfold maxLen at hcm;omega
  generalize hn:fs.length=nf at *
  generalize es.length=ne at *
  have HN:Hid (fs.length=nf):=hn
  have HX:Hid (fs≠[]→∃ g off,pf=some ⟨g,off,none⟩∧All g∧g<w.heap.size∧∀ i x,fs[i]?=some x→∃ cs,cs.length=3∧(∀ j,j<3→w.cell? ⟨g,off+i * 3+j,none⟩=cs[j]?)∧HFn w All d cs x):=hx
  obtain ⟨W1,hW1⟩:∃ W1,W1=w.alloc (.cells #[.string ms,.slice pe ne ce,.slice pf nf cf] 61):=⟨_,rfl⟩
  have bA:Hid (Blk W1 w.heap.size #[.string ms,.slice pe ne ce,.slice pf nf cf] 61):=by show Blk _ _ _ _;rw [hW1];exact Blk.new
  have B1:Hid (Below w.heap.size w W1):=by show Below _ _ _;rw [hW1];exact (Below.refl _ _).alloc (Nat.le_refl _) _
  have xa2:=bA.out.cell 2 _ rfl
  have HW1:Hid (W1=w.alloc (.cells #[.string ms,.slice pe ne ce,.slice pf nf cf] 61)):=hW1
  clear hx hn hW1
  go_enter Tryz.func49,Tryz.ntmps49
  go_wp2_with fail
  rw [← HW1.out]
  go_loop [7] (fun iv=>∃ k:Nat,k≤nf∧iv=.int .i64 k∧Hid ((fs.take k).any (sameR ⟨rs,rn⟩)=false)) (fun iv=>nf - (intOf iv).toNat)
  case atStart=>exact ⟨0,Nat.zero_le _,rfl,by show _=_;simp⟩
  case round =>
    obtain ⟨k,hk,rfl,hall⟩:=hrel
    by_cases hlt:k<nf
    · obtain ⟨x,hxk⟩:∃ x,fs[k]?=some x:=⟨fs[k]'(by rw [HN.out];exact hlt),List.getElem?_eq_getElem _⟩
      obtain ⟨g,off,rfl,-,hgl,hat⟩:=HX.out (by intro h;rw [h] at hxk;simp at hxk)
      obtain ⟨cs,hcsl,hcs,r1⟩:=hat k x hxk
      obtain ⟨p1,n1,q1,rfl⟩:=fnShape r1
      have HC2:Hid (sameR ⟨rs,rn⟩ x=false→(fs.take (k+1)).any (sameR ⟨rs,rn⟩)=false):=fun h=>anyT_succ _ fs k _ hxk hall.out h
      have HC3:Hid (sameR ⟨rs,rn⟩ x=true→findI (sameR ⟨rs,rn⟩) fs=k):=fun h=>findI_at hall.out hxk h
      obtain ⟨xs,xn,xc⟩:=x
      simp only at *
      have hsm:sameR ⟨rs,rn⟩ ⟨xs,xn,xc⟩=(xs.toList == rs.toList && xn == rn):=rfl
      rw [hsm] at HC2 HC3
      have a0:=hcs 0 (by omega)
      have a1:=hcs 1 (by omega)
      have a2:=hcs 2 (by omega)
      rw [← B1.out.cell (p:=⟨g,_,none⟩) hgl] at a0 a1 a2
      simp at a0 a1 a2
      have hki:(k:Int)<(nf:Int):=by omega
      have hk0:(0:Int)≤(k:Int):=by omega
      clear hcs hat hcsl r1 hsm
      cases c1:(xs.toList == rs.toList) with
      | false =>
        have HT':Hid ((fs.take (k+1)).any (sameR ⟨rs,rn⟩)=false):=HC2.out (by rw [c1];rfl)
        clear HC2 HC3
        go_wp2
        go_round
        case rel=>exact ⟨k+1,by omega,by go_num,HT'⟩
        case measure=>simp [intOf];omega
      | true =>
        cases c2:(xn == rn) with
        | false =>
          have HT':Hid ((fs.take (k+1)).any (sameR ⟨rs,rn⟩)=false):=HC2.out (by rw [c2,Bool.and_false])
          clear HC2 HC3
          go_wp2
          go_round
          case rel=>exact ⟨k+1,by omega,by go_num,HT'⟩
          case measure=>simp [intOf];omega
        | true =>
          have HF:Hid (findI (sameR ⟨rs,rn⟩) fs=k):=HC3.out (by rw [c1,c2];rfl)
          clear HC2 HC3
          go_wp2
          go_ret
          exact ⟨by rw [HF.out];rfl,B1.out⟩
    · have HS:Hid (findI (sameR ⟨rs,rn⟩) fs = -1):=findI_none (by
        have:=hall.out
        rwa [List.take_of_length_le (by rw [HN.out];omega)] at this)
      go_wp2
      go_ret
      exact ⟨by rw [HS.out];rfl,B1.out⟩
theorem l05Exported_any (d:Nat) (w:World) (cs:List Value) (m:Md) (rs:ByteArray) (rn:Int) (h:HMd w All d cs m) :
    Calls Tryz.prog 163 #[.agg cs.toArray,.agg #[.string rs,.int .i64 rn]] w fun e w'=>e=.returned (.bool (hasX m rs rn))∧Below w.heap.size w w':=by
  obtain ⟨ev,fv,rfl,hs,h,⟨pf,cf,rfl,-⟩⟩:=h
  obtain ⟨ms,es,fs⟩:=m
  have hv:hasX ⟨ms,es,fs⟩ rs rn=es.any (sameRf rs rn):=rfl
  rw [hv]
  clear hv
  simp only at *
  obtain ⟨pe,ce,rfl,hcl,hcm,hx⟩:=h
  have hnb:es.length≤9223372036854775807:=by unfold maxLen at hcm;omega
  generalize hn:es.length=ne at *
  generalize fs.length=nf at *
  have HN:Hid (es.length=ne):=hn
  have HX:Hid (es≠[]→∃ g off,pe=some ⟨g,off,none⟩∧All g∧g<w.heap.size∧∀ i x,es[i]?=some x→∃ cs,cs.length=2∧(∀ j,j<2→w.cell? ⟨g,off+i * 2+j,none⟩=cs[j]?)∧HRf cs x):=hx
  obtain ⟨W1,hW1⟩:∃ W1,W1=(w.alloc (.cells #[.string ms,.slice pe ne ce,.slice pf nf cf] 61)).alloc (.cells #[.string rs,.int .i64 rn] 110):=⟨_,rfl⟩
  have bA:Hid (Blk W1 w.heap.size #[.string ms,.slice pe ne ce,.slice pf nf cf] 61):=by show Blk _ _ _ _;rw [hW1];exact Blk.new.alloc
  have bB:Hid (Blk W1 (w.heap.size+1) #[.string rs,.int .i64 rn] 110):=by
    show Blk _ _ _ _
    rw [hW1]
    have:=Blk.new (w:=w.alloc (.cells #[.string ms,.slice pe ne ce,.slice pf nf cf] 61)) (cs:=#[.string rs,.int .i64 rn]) (t:=110)
    rwa [alloc_hs] at this
  have B1:Hid (Below w.heap.size w W1):=by show Below _ _ _;rw [hW1];exact ((Below.refl _ _).alloc (Nat.le_refl _) _).alloc (by simp only [alloc_hs];omega) _
  have xa1:=bA.out.cell 1 _ rfl
  have xb0:=bB.out.cell 0 _ rfl
  have xb1:=bB.out.cell 1 _ rfl
  have HW1:Hid (W1=(w.alloc (.cells #[.string ms,.slice pe ne ce,.slice pf nf cf] 61)).alloc (.cells #[.string rs,.int .i64 rn] 110)):=hW1
  clear hx hn hW1
  go_enter Tryz.func163,Tryz.ntmps163
  go_wp2_with fail
  rw [← HW1.out]
  go_loopw [5] (fun iv wr=>∃ k:Nat,k≤ne∧iv=.int .i64 k∧Hid ((es.take k).any (sameRf rs rn)=false)∧Hid (SameOn All W1 wr)∧Below w.heap.size w wr) (fun iv _=>ne - (intOf iv).toNat)
  case atStart=>exact ⟨0,Nat.zero_le _,rfl,by show _=_;simp,⟨Nat.le_refl _,fun _ _ _=>rfl⟩,B1.out⟩
  case round =>
    obtain ⟨k,hk,rfl,hall,hso,hb⟩:=hrel
    clear xa1 xb0 xb1
    have HB:Hid (Below w.heap.size w wr):=hb
    have bM:=bA.out.same_on hso.out
    have bR:=bB.out.same_on hso.out
    have xa1:=bM.cell 1 _ rfl
    by_cases hlt:k<ne
    · obtain ⟨x,hxk⟩:∃ x,es[k]?=some x:=⟨es[k]'(by rw [HN.out];exact hlt),List.getElem?_eq_getElem _⟩
      obtain ⟨g,off,rfl,-,hgl,hat⟩:=HX.out (by intro h;rw [h] at hxk;simp at hxk)
      obtain ⟨cs,hcsl,hcs,rfl,-,-⟩:=hat k x hxk
      obtain ⟨xs,xn⟩:=x
      simp only at *
      have a0:=hcs 0 (by omega)
      have a1:=hcs 1 (by omega)
      rw [← hb.cell (p:=⟨g,_,none⟩) hgl] at a0 a1
      simp at a0 a1
      have hki:(k:Int)<(ne:Int):=by omega
      have hk0:(0:Int)≤(k:Int):=by omega
      have hgw:g<wr.heap.size:=Nat.lt_of_lt_of_le hgl hb.size
      have y0:=bR.cell 0 _ rfl
      have y1:=bR.cell 1 _ rfl
      have l0:=bM.lt
      have l1:=bR.lt
      have qx1:∀ m:Wd (fun w'=>SameOn All wr w'∧Below w.heap.size w w'),m.val.cell? ⟨w.heap.size,1,none⟩=some (.slice (some ⟨g,off,none⟩) ne ce):=fun m=>(World.cell?_of_block (m.ok.1.2 w.heap.size trivial l0)).trans xa1
      have qy0:∀ m:Wd (fun w'=>SameOn All wr w'∧Below w.heap.size w w'),m.val.cell? ⟨w.heap.size+1,0,none⟩=some (.string rs):=fun m=>(World.cell?_of_block (m.ok.1.2 (w.heap.size+1) trivial l1)).trans y0
      have qy1:∀ m:Wd (fun w'=>SameOn All wr w'∧Below w.heap.size w w'),m.val.cell? ⟨w.heap.size+1,1,none⟩=some (.int .i64 rn):=fun m=>(World.cell?_of_block (m.ok.1.2 (w.heap.size+1) trivial l1)).trans y1
      have qz0:∀ m:Wd (fun w'=>SameOn All wr w'∧Below w.heap.size w w'),m.val.cell? ⟨g,off+k * 2,none⟩=some (.string xs):=fun m=>(World.cell?_of_block (m.ok.1.2 g trivial hgw)).trans a0
      have qz1:∀ m:Wd (fun w'=>SameOn All wr w'∧Below w.heap.size w w'),m.val.cell? ⟨g,off+k * 2+1,none⟩=some (.int .i64 xn):=fun m=>(World.cell?_of_block (m.ok.1.2 g trivial hgw)).trans a1
      clear hb hcs hat hcsl y0 y1 l0 l1 bR bM a0 a1
      go_wp2_with fail
      have e1:=refG
      have e2:=refE
      have hCne:Nonempty (Wd (fun w'=>SameOn All wr w'∧Below w.heap.size w w')):=⟨⟨wr.drew,⟨⟨Nat.le_refl _,fun _ _ _=>rfl⟩,HB.out.drew⟩⟩⟩
      refine wp_region_class (fun w'=>SameOn All wr w'∧Below w.heap.size w w') (by kernel_rfl) (by kernel_rfl) ⟨⟨Nat.le_refl _,fun _ _ _=>rfl⟩,HB.out.drew⟩ ?_
      repeat (go_big_quiet_step (fail))
      refine wpQuiet_nil ?_
      rintro _ ⟨mq,rfl⟩
      have HB4:Hid (Below w.heap.size w mq.val):=mq.ok.2
      have HS4:Hid (SameOn All W1 mq.val):=hso.out.trans mq.ok.1
      generalize mq.val=w4 at HB4 HS4 ⊢
      generalize hcv:(xs.toList == rs.toList && xn == rn)=cv
      have HC2:Hid (cv=false→(es.take (k+1)).any (sameRf rs rn)=false):=fun h=>anyT_succ _ es k _ hxk hall.out (show (xs.toList == rs.toList && xn == rn)=false from hcv.trans h)
      have HC3:Hid (cv=true→es.any (sameRf rs rn)=true):=fun h=>anyT_at _ es k _ hxk (show (xs.toList == rs.toList && xn == rn)=true from hcv.trans h)
      clear hcv
      cases cv with
      | false =>
        have HT':Hid _:=HC2.out rfl
        clear HC2 HC3
        go_wp2_with fail
        exact ⟨⟨k+1,by omega,by go_num,HT'.out,HS4.out,HB4.out⟩,by simp [intOf];omega⟩
      | true =>
        have HF:Hid _:=HC3.out rfl
        clear HC2 HC3
        go_wp2_with fail
        go_ret
        exact ⟨by rw [HF.out];rfl,HB4.out⟩
    · have HS:Hid (es.any (sameRf rs rn)=false):=by
        have:=hall.out
        rwa [List.take_of_length_le (by rw [HN.out];omega)] at this
      clear bM bR
      go_wp2
      go_ret
      exact ⟨by rw [HS.out];rfl,HB.out⟩
section
open Go.Proofs.Tryz
theorem l05Call_any (d dx:Nat) (w:World) (v:Value) (ms:List Md) (mc:List Value) (m:Md) (cs:List Value) (x:Ex) (h:Rows w All 3 (HMd w All d) v ms) (hm:HMd w All d mc m) (hx:HEx w All dx cs x) :
 Calls prog 134 #[v,.agg mc.toArray,.agg cs.toArray] w λe w'=>e=.returned (.string (callC ms m x))/\Bz w w':=by
 cases dx with
 | zero=>exact hx.elim
 | succ dx =>
 obtain ⟨ev,fv,rfl,-,⟨mpe,mce,rfl,-⟩,⟨mpf,mcf,rfl,-⟩⟩:=id hm;obtain ⟨kx,nx,tx,mx,ks,cl⟩:=x;obtain ⟨kv,cv,rfl,-,-,-,-,⟨p1,q1,rfl,-⟩,⟨p2,q2,rfl,-⟩⟩:=hx;simp only [Ex.kind,Ex.n,Ex.text,Ex.mod,Ex.kids,Ex.clauses] at *;have HMS:Hid (∀ w',Bz w w'->Rows w' All 3 (HMd w' All d) v ms):=λw' hw=>h.mono (sqO hw) sqj (λ_ _ _ h=>h.mono (sqO hw) sqj);have HMM:Hid (∀ w',Bz w w'->HMd w' All d [.string m.name,.slice mpe m.exports.length mce,.slice mpf m.funs.length mcf] m):=λw' hw=>hm.mono (sqO hw) sqj;obtain ⟨W3,hW3⟩:∃ W3,W3=((w.alloc (.cells #[.string m.name,.slice mpe m.exports.length mce,.slice mpf m.funs.length mcf] 61)).alloc (.cells #[.int .i64 kx,.int .i64 nx,.string tx,.string mx,.slice p1 ks.length q1,.slice p2 cl.length q2] 74)).alloc (.cells #[.string tx,.int .i64 (ks.length:Int)] 110):=⟨_,rfl⟩;have B3:Hid (Bz w W3):=(by show Below _ _ _;rw [hW3];exact (((sqN _ _)).alloc (by simp only [alloc_hs];omega) _).alloc (by simp only [alloc_hs];omega) _)
 have bR:Hid (Blk W3 (w.heap.size+1+1) #[.string tx,.int .i64 (ks.length:Int)] 110):=by
  show Blk _ _ _ _;rw [hW3];have:=Blk.new (w:=(w.alloc (.cells #[.string m.name,.slice mpe m.exports.length mce,.slice mpf m.funs.length mcf] 61)).alloc (.cells #[.int .i64 kx,.int .i64 nx,.string tx,.string mx,.slice p1 ks.length q1,.slice p2 cl.length q2] 74)) (cs:=#[.string tx,.int .i64 (ks.length:Int)]) (t:=110);simp only [alloc_hs] at this;exact this
 have HW3:Hid (W3=((w.alloc (.cells #[.string m.name,.slice mpe m.exports.length mce,.slice mpf m.funs.length mcf] 61)).alloc (.cells #[.int .i64 kx,.int .i64 nx,.string tx,.string mx,.slice p1 ks.length q1,.slice p2 cl.length q2] 74)).alloc (.cells #[.string tx,.int .i64 (ks.length:Int)] 110)):=hW3;clear hW3;have HV:Hid (callC ms m (.mk kx nx tx mx ks cl)=if mx.toList = [] then (if hasF m tx ks.length || isPutB tx ks.length then ⟨#[]⟩ else cCall) else (if offersB ms mx tx ks.length then ⟨#[]⟩ else cFar)):=rfl;by_cases hmx:mx.toList = []
 . have hmb:mx.toList.isEmpty=true:=by rw [hmx];rfl
   have HV2:Hid (callC ms m (.mk kx nx tx mx ks cl)=if hasF m tx ks.length || isPutB tx ks.length then ⟨#[]⟩ else cCall):=HV.out.trans (if_pos hmx);clear HV hm h
   rcases findI_cases (sameR ⟨tx,(ks.length:Int)⟩) m.funs with ⟨hf,hfi⟩ | ⟨k,y,hf,hk,-,hfi,-⟩
   . have HFI:Hid (findI (sameR ⟨tx,(ks.length:Int)⟩) m.funs = -1):=hfi
     have HF:Hid (hasF m tx ks.length=false):=hf;clear hf hfi
     cases hp:(tx.toList == [112,117,116]) with
     | false =>
      have hp2:¬ tx.toList = [112,117,116]:=(by simpa using hp);have HV3:Hid (callC ms m (.mk kx nx tx mx ks cl)=cCall):=(by show _=_;rw [HV2.out,HF.out];simp [isPutB,hp]);clear HV2 HF;go_enter func134,ntmps134;go_wp2_with fail;rw [<-HW3.out];refine (l02FindI_any d _ _ m tx ks.length (HMM.out _ B3.out)).mono ?_;rintro e w4 ⟨rfl,hb⟩;rw [HFI.out];have B4:Hid (Bz w w4):=B3.out.trans (hb.mono B3.out.size);have b4:=bR.out.next hb;obtain ⟨r0,r1⟩:=sqB2 b4;clear hb b4;go_wp2;go_ret;exact ⟨by rw [HV3.out];rfl,B4.out⟩
     | true =>
      have hp2:tx.toList = [112,117,116]:=by simpa using hp
      cases hq:((ks.length:Int) == 1) with
      | false =>
       have hq2:¬ (ks.length:Int)=1:=(by simpa using hq);have hq3:((ks.length:Int) != 1)=true:=(by simpa using hq2);have HV3:Hid (callC ms m (.mk kx nx tx mx ks cl)=cCall):=(by show _=_;rw [HV2.out,HF.out];simp [isPutB,hp,hq]);clear HV2 HF;go_enter func134,ntmps134;go_wp2_with fail;rw [<-HW3.out];refine (l02FindI_any d _ _ m tx ks.length (HMM.out _ B3.out)).mono ?_;rintro e w4 ⟨rfl,hb⟩;rw [HFI.out];have B4:Hid (Bz w w4):=B3.out.trans (hb.mono B3.out.size);have b4:=bR.out.next hb;obtain ⟨r0,r1⟩:=sqB2 b4;clear hb b4;go_wp2;go_ret;exact ⟨by rw [HV3.out];rfl,B4.out⟩
      | true =>
       have hq3:((ks.length:Int) != 1)=false:=(by simpa using hq);have HV3:Hid (callC ms m (.mk kx nx tx mx ks cl)=⟨#[]⟩):=(by show _=_;rw [HV2.out,HF.out];simp [isPutB,hp,hq]);clear HV2 HF;go_enter func134,ntmps134;go_wp2_with fail;rw [<-HW3.out];refine (l02FindI_any d _ _ m tx ks.length (HMM.out _ B3.out)).mono ?_;rintro e w4 ⟨rfl,hb⟩;rw [HFI.out];have B4:Hid (Bz w w4):=B3.out.trans (hb.mono B3.out.size);have b4:=bR.out.next hb;obtain ⟨r0,r1⟩:=sqB2 b4;clear hb b4;go_wp2;go_ret;exact ⟨by rw [HV3.out];rfl,B4.out⟩
   . have HFI:Hid (findI (sameR ⟨tx,(ks.length:Int)⟩) m.funs=(k:Int)):=hfi
     have HV3:Hid (callC ms m (.mk kx nx tx mx ks cl)=⟨#[]⟩):=(by show _=_;rw [HV2.out,show hasF m tx ks.length=true from hf];simp);have hk0:¬ (k:Int)<0:=(by omega);clear HV2 hf hk hfi;go_enter func134,ntmps134;go_wp2_with fail;rw [<-HW3.out];refine (l02FindI_any d _ _ m tx ks.length (HMM.out _ B3.out)).mono ?_;rintro e w4 ⟨rfl,hb⟩;rw [HFI.out];have B4:Hid (Bz w w4):=B3.out.trans (hb.mono B3.out.size);have b4:=bR.out.next hb;obtain ⟨r0,r1⟩:=sqB2 b4;clear hb b4;go_wp2;go_ret;exact ⟨by rw [HV3.out];rfl,B4.out⟩
 . have hmb:mx.toList.isEmpty=false:=by simpa using hmx
   have HV2:Hid (callC ms m (.mk kx nx tx mx ks cl)=if offersB ms mx tx ks.length then ⟨#[]⟩ else cFar):=HV.out.trans (if_neg hmx);clear HV hm
   rcases findI_cases (named mx) ms with ⟨hf,hfi⟩ | ⟨k,y,hf,hk,-,hfi,hfd⟩
   . have HFI:Hid (findI (named mx) ms = -1):=hfi
     have HV3:Hid (callC ms m (.mk kx nx tx mx ks cl)=cFar):=by
      show _=_;rw [HV2.out];have:ms.find? (named mx)=none:=List.find?_eq_none.2 (λx hx=>by simpa using List.any_eq_false.1 hf x hx);simp [offersB,this]
     clear HV2 hf hfi;go_enter func134,ntmps134;go_wp2_with fail;rw [<-HW3.out];refine (l05Mod_any d _ _ ms mx (HMS.out _ B3.out)).mono ?_;rintro e w4 ⟨rfl,hw4⟩;rw [HFI.out,hw4];clear hw4;go_wp2_with fail;have hCne:Nonempty (Wd (λw'=>SameOn All W3 w'/\Bz w w')):=⟨⟨W3.drew,⟨sqS,B3.out.drew⟩⟩⟩;refine wp_region_class (λw'=>SameOn All W3 w'/\Bz w w') (by kernel_rfl) (by kernel_rfl) ⟨sqS,B3.out.drew⟩ ?_
     repeat (go_big_quiet_step (fail))
     refine wpQuiet_nil ?_;rintro _ ⟨mq,rfl⟩;have HB4:Hid (Bz w mq.val):=mq.ok.2;have HS4:Hid (SameOn All W3 mq.val):=mq.ok.1;generalize mq.val=w4 at HB4 HS4 ⊢;go_wp2;go_ret;exact ⟨by rw [HV3.out];rfl,HB4.out⟩
   . have HFI:Hid (findI (named mx) ms=(k:Int)):=hfi
     have HV3:Hid (callC ms m (.mk kx nx tx mx ks cl)=if hasX y tx ks.length && hasF y tx ks.length then ⟨#[]⟩ else cFar):=(by show _=_;rw [HV2.out];simp [offersB,hfd]);obtain ⟨p,cap,rfl,hcl,hcm,hx⟩:=h;obtain ⟨g,off,rfl,-,hgl,hat⟩:=hx (λe=>by rw [e] at hk;simp at hk);obtain ⟨cs,hcsl,hcs,hy⟩:=hat k y hk;have hkn:=(List.getElem?_eq_some_iff.1 hk).1;have HMY:Hid (∀ w',Bz w w'->HMd w' All d cs y):=λw' hw=>hy.mono (sqO hw) sqj;obtain ⟨s1,pe1,ne1,ce1,pf1,nf1,cf1,rfl⟩:=hy.shape;obtain ⟨a0,a1,a2⟩:=sqC3 hcs (by omega);rw [<-B3.out.cell (p:=⟨g,_,none⟩) hgl] at a0 a1 a2;simp at a0 a1 a2;generalize hn:ms.length=n at *;have hki:(k:Int)<(n:Int):=(by omega);have hk0:=sqI k;have hk1:¬ (k:Int)<0:=(by omega);have hk2:decide ((k:Int)<0)=false:=decide_eq_false hk1;have hg3:g<W3.heap.size:=Nat.lt_of_lt_of_le hgl B3.out.size;have HMS2:Hid (∀ w',Bz w w'->Rows w' All 3 (HMd w' All d) (.slice (some ⟨g,off,none⟩) n cap) ms):=HMS.out;have lR:=bR.out.lt;obtain ⟨r0,r1⟩:=sqB2 bR.out;have qa0:∀ m:Wd (λw'=>SameOn All W3 w'/\Bz w w'),m.val.cell? ⟨g,off+k * 3,none⟩=some (.string s1):=λm=>(sqK (m.ok.1.2 g trivial hg3)).trans a0;have qa1:∀ m:Wd (λw'=>SameOn All W3 w'/\Bz w w'),m.val.cell? ⟨g,off+k * 3+1,none⟩=some (.slice pe1 ne1 ce1):=λm=>(sqK (m.ok.1.2 g trivial hg3)).trans a1;have qa2:∀ m:Wd (λw'=>SameOn All W3 w'/\Bz w w'),m.val.cell? ⟨g,off+k * 3+2,none⟩=some (.slice pf1 nf1 cf1):=λm=>(sqK (m.ok.1.2 g trivial hg3)).trans a2;have qr0:∀ m:Wd (λw'=>SameOn All W3 w'/\Bz w w'),m.val.cell? ⟨w.heap.size+1+1,0,none⟩=some (.string tx):=λm=>(sqK (m.ok.1.2 (w.heap.size+1+1) trivial lR)).trans r0;have qr1:∀ m:Wd (λw'=>SameOn All W3 w'/\Bz w w'),m.val.cell? ⟨w.heap.size+1+1,1,none⟩=some (.int .i64 (ks.length:Int)):=λm=>(sqK (m.ok.1.2 (w.heap.size+1+1) trivial lR)).trans r1;clear HMS HV2 hf hk hfi hfd hx hat hcs hcsl hy hn hcl hcm a0 a1 a2 r0 r1 lR
     cases hX:hasX y tx ks.length with
     | false =>
      have HCX:Hid (hasX y tx ks.length=false):=hX;have HV4:Hid (callC ms m (.mk kx nx tx mx ks cl)=cFar):=(by show _=_;rw [HV3.out,hX];rfl);clear HV3 hX;go_enter func134,ntmps134;go_wp2_with fail;rw [<-HW3.out];refine (l05Mod_any d _ _ ms mx (HMS2.out _ B3.out)).mono ?_;rintro e w4 ⟨rfl,hw4⟩;rw [HFI.out,hw4];clear hw4;go_wp2_with fail;have hCne:Nonempty (Wd (λw'=>SameOn All W3 w'/\Bz w w')):=⟨⟨W3.drew,⟨sqS,B3.out.drew⟩⟩⟩;refine wp_region_class (λw'=>SameOn All W3 w'/\Bz w w') (by kernel_rfl) (by kernel_rfl) ⟨sqS,B3.out.drew⟩ ?_
      repeat (go_big_quiet_step (first | (rename_i mm;go_at_call 163;refine (l05Exported_any d _ _ y tx ks.length (HMY.out _ mm.ok.2)).mono ?_;rintro e w1 ⟨rfl,hb1⟩;exact ⟨by rw [HCX.out],⟨⟨w1,⟨mm.ok.1.trans (sqO hb1),mm.ok.2.trans (hb1.mono mm.ok.2.size)⟩⟩,rfl⟩⟩)))
      refine wpQuiet_nil ?_;rintro _ ⟨mq,rfl⟩;have HB4:Hid (Bz w mq.val):=mq.ok.2;have HS4:Hid (SameOn All W3 mq.val):=mq.ok.1;generalize mq.val=w4 at HB4 HS4 ⊢;go_wp2;go_ret;exact ⟨by rw [HV4.out];rfl,HB4.out⟩
     | true =>
      have HCX:Hid (hasX y tx ks.length=true):=hX
      rcases findI_cases (sameR ⟨tx,(ks.length:Int)⟩) y.funs with ⟨hf,hfi⟩ | ⟨j,z,hf,-,-,hfi,-⟩
      . have HCF:Hid (findI (sameR ⟨tx,(ks.length:Int)⟩) y.funs = -1):=hfi
        have HV4:Hid (callC ms m (.mk kx nx tx mx ks cl)=cFar):=(by show _=_;rw [HV3.out,hX,show hasF y tx ks.length=false from hf];rfl);clear HV3 hX hf hfi;go_enter func134,ntmps134;go_wp2_with fail;rw [<-HW3.out];refine (l05Mod_any d _ _ ms mx (HMS2.out _ B3.out)).mono ?_;rintro e w4 ⟨rfl,hw4⟩;rw [HFI.out,hw4];clear hw4;go_wp2_with fail;have hCne:Nonempty (Wd (λw'=>SameOn All W3 w'/\Bz w w')):=⟨⟨W3.drew,⟨sqS,B3.out.drew⟩⟩⟩;refine wp_region_class (λw'=>SameOn All W3 w'/\Bz w w') (by kernel_rfl) (by kernel_rfl) ⟨sqS,B3.out.drew⟩ ?_
        repeat (go_big_quiet_step (first | (rename_i mm;go_at_call 163;refine (l05Exported_any d _ _ y tx ks.length (HMY.out _ mm.ok.2)).mono ?_;rintro e w1 ⟨rfl,hb1⟩;exact ⟨by rw [HCX.out],⟨⟨w1,⟨mm.ok.1.trans (sqO hb1),mm.ok.2.trans (hb1.mono mm.ok.2.size)⟩⟩,rfl⟩⟩) | (rename_i mm;go_at_call 49;refine (l02FindI_any d _ _ y tx ks.length (HMY.out _ mm.ok.2)).mono ?_;rintro e w1 ⟨rfl,hb1⟩;exact ⟨by rw [HCF.out],⟨⟨w1,⟨mm.ok.1.trans (sqO hb1),mm.ok.2.trans (hb1.mono mm.ok.2.size)⟩⟩,rfl⟩⟩)))
        refine wpQuiet_nil ?_;rintro _ ⟨mq,rfl⟩;have HB4:Hid (Bz w mq.val):=mq.ok.2;have HS4:Hid (SameOn All W3 mq.val):=mq.ok.1;generalize mq.val=w4 at HB4 HS4 ⊢;go_wp2;go_ret;exact ⟨by rw [HV4.out];rfl,HB4.out⟩
      . have HCF:Hid (findI (sameR ⟨tx,(ks.length:Int)⟩) y.funs=(j:Int)):=hfi
        have HV4:Hid (callC ms m (.mk kx nx tx mx ks cl)=⟨#[]⟩):=(by show _=_;rw [HV3.out,hX,show hasF y tx ks.length=true from hf];rfl);have hj1:¬ (j:Int)<0:=(by omega);have hj2:decide ((j:Int)<0)=false:=decide_eq_false hj1;clear HV3 hX hf hfi;go_enter func134,ntmps134;go_wp2_with fail;rw [<-HW3.out];refine (l05Mod_any d _ _ ms mx (HMS2.out _ B3.out)).mono ?_;rintro e w4 ⟨rfl,hw4⟩;rw [HFI.out,hw4];clear hw4;go_wp2_with fail;have hCne:Nonempty (Wd (λw'=>SameOn All W3 w'/\Bz w w')):=⟨⟨W3.drew,⟨sqS,B3.out.drew⟩⟩⟩;refine wp_region_class (λw'=>SameOn All W3 w'/\Bz w w') (by kernel_rfl) (by kernel_rfl) ⟨sqS,B3.out.drew⟩ ?_
        repeat (go_big_quiet_step (first | (rename_i mm;go_at_call 163;refine (l05Exported_any d _ _ y tx ks.length (HMY.out _ mm.ok.2)).mono ?_;rintro e w1 ⟨rfl,hb1⟩;exact ⟨by rw [HCX.out],⟨⟨w1,⟨mm.ok.1.trans (sqO hb1),mm.ok.2.trans (hb1.mono mm.ok.2.size)⟩⟩,rfl⟩⟩) | (rename_i mm;go_at_call 49;refine (l02FindI_any d _ _ y tx ks.length (HMY.out _ mm.ok.2)).mono ?_;rintro e w1 ⟨rfl,hb1⟩;exact ⟨by rw [HCF.out],⟨⟨w1,⟨mm.ok.1.trans (sqO hb1),mm.ok.2.trans (hb1.mono mm.ok.2.size)⟩⟩,rfl⟩⟩)))
        refine wpQuiet_nil ?_;rintro _ ⟨mq,rfl⟩;have HB4:Hid (Bz w mq.val):=mq.ok.2;have HS4:Hid (SameOn All W3 mq.val):=mq.ok.1;generalize mq.val=w4 at HB4 HS4 ⊢;go_wp2;go_ret;exact ⟨by rw [HV4.out];rfl,HB4.out⟩
end
def looseB (d:Nat) (c:Cl):Bool:=!(listV (freeV d) (bndV d) (foldV (patV d) [] c.1) c.2).isEmpty
def looseF (d:Nat) (f:Fn'):Bool:=f.clauses.any (looseB d)
def rfOf (f:Fn'):Rf:=⟨f.name,f.arity⟩
def looseL (d:Nat) (fs:List Fn'):List Rf:=(fs.filter (looseF d)).map rfOf
def looseM (d:Nat) (m:Md):List Rf:=if mdOk d m then looseL d m.funs else []
theorem looseB_in (d:Nat) (c:Cl):looseB d c=true ↔ ∃ z,inK z (listV (freeV d) (bndV d) (foldV (patV d) [] c.1) c.2):=by
 unfold looseB inK
 cases listV (freeV d) (bndV d) (foldV (patV d) [] c.1) c.2 with
 | nil=>simp
 | cons x xs=>simp only [List.isEmpty_cons,Bool.not_false,true_iff];exact ⟨keyS x,by simp⟩
theorem looseL_snoc (d:Nat) (fs:List Fn') (k:Nat) (f:Fn') (h:fs[k]?=some f):looseL d (fs.take (k+1))=if looseF d f then looseL d (fs.take k) ++ [rfOf f] else looseL d (fs.take k):=by
 unfold looseL;rw [List.take_add_one,h];simp only [Option.toList_some,List.filter_append,List.map_append]
 cases hf:looseF d f <;> simp [hf]
theorem looseL_len (d:Nat) (fs:List Fn'):(looseL d fs).length<=fs.length:=by
 unfold looseL;rw [List.length_map];exact List.length_filter_le _ _
theorem looseL_mem {d:Nat} {fs:List Fn'} {r:Rf} (h:r ∈ looseL d fs):∃ f ∈ fs,r=rfOf f:=by
 unfold looseL at h;obtain ⟨f,hf,rfl⟩:=List.mem_map.1 h;exact ⟨f,(List.mem_filter.1 hf).1,rfl⟩
theorem mdOk_clauses {d:Nat} {m:Md} (h:mdOk d m=true):∀ f ∈ m.funs,∀ c ∈ f.clauses,(∀ y ∈ c.1,exOk d y true 40=true)/\∀ y ∈ c.2,exOk d y false 40=true:=by
 intro f hf c hc;unfold mdOk fnsB at h;simp only [Bool.and_eq_true,List.all_eq_true] at h;obtain ⟨i,hi⟩:=List.mem_iff_getElem?.1 hf;have hl:i<m.funs.length:=(List.getElem?_eq_some_iff.1 hi).1;have h1:=h.2.2.2 i (by simpa using hl);unfold fnsAt at h1;rw [hi] at h1;simp only [Bool.and_eq_true] at h1;have h2:=h1.1;unfold fnB at h2;simp only [Bool.and_eq_true,List.all_eq_true] at h2;have h3:=h2.2.2 c hc;unfold clB at h3;simp only [Bool.and_eq_true,List.all_eq_true] at h3;exact ⟨h3.2.2.1,h3.2.2.2⟩
end Go.Proofs.YtbdhpganbbandaaGreatDoor
