/-
  Texts of the proof, packed: ModOkSpecE, ModOkImplD, ProgOkA, CheckMath, PlBase, NameMath, NameMath2, NameSpecA, NameSpecB, NameSpecE, AtMath, AtImplA, NameSpecD, NameSpecF, AtSpecA, CheckSpecA, AtSpecB, AtImplB, ConcatEx, NameImplA, RangeBound, Iter, NameImplB, NameImplC, NameMath3, Tight, NameList, AtImplC, Pb, Boxes.
-/
import Derived.Test.YtdhlonogmnkemaaGreatDoorPackA
import Derived.Test.YtdhlonogmnkemaaGreatDoorPackB
import Derived.Deep.RegionLaw
import Derived.Deep.RegionHeldLaw
import Derived.Deep.AppendLies
import Derived.Deep.QuietTactic
import Derived.BigQuiet
import Derived.Deep.RegionHeld3
import Derived.Lib.AppendZerosOnto
import Derived.Lib.SliceRun
import Derived.Maps.Own
import Derived.Maps.OwnSet
import Derived.StringKeys
import Derived.RangeFuncNested
import Derived.RangeFuncBound
import Derived.RangeFuncCalls
import Derived.RangeFuncLeaves
import Derived.Shelf.Abstract
import Derived.Shelf.RegionOpen
import Derived.WalkKit
import Derived.OwnWalkIn
import Derived.TacticsInMore
import Derived.LoopNIn
import Derived.LoopIn
import Derived.Maps.OwnIn
import Derived.Maps.AppendAt
import Derived.Shelf.SlIter.Nil
import Derived.Shelf.SortM.Plain
import Derived.Shelf.SortM.SortNone
import Derived.Ground.GgzProg
import Derived.Ground.SlgmProg
import Derived.Test.YtdhlonogmnkemaaGreatDoorProg
import Derived.Sort.Walk0
set_option maxHeartbeats 16000000
namespace Go.Proofs.YtdhlonogmnkemaaGreatDoor
open Go.ChangeShapes Go.WideShapes Go.ChangeAt Go.RowKit Go.Proofs.Tryz
set_option linter.unusedVariables false
set_option maxRecDepth 100000
theorem any_take_lt {α:Type} (f:α→Bool) (xs:List α) (i k:Nat) (x:α) (h:xs[k]?=some x) (hf:f x=true) (hki:k<i):(xs.take i).any f=true:=by
 rw [List.any_eq_true];refine ⟨x,List.mem_of_getElem? (i:=k) ?_,hf⟩;rw [List.getElem?_take,if_pos hki];exact h
theorem l02Find_any (d:Nat) (w:World) (ms:ByteArray) (pe:Option Addr) (ne ce:Nat) (v:Value) (fs:List Fn') (i:Nat) (f:Fn') (h:Rows w All 3 (HFn w All d) v fs) (hi:fs[i]?=some f) :
 Calls prog 64 #[.agg #[.string ms,.slice pe ne ce,v],.string f.name,.int .i64 f.arity] w fun e w'=>∃ r:Int,e=.returned (.int .i64 r)∧(r == (i:Int)) = !(fs.take i).any (sameR ⟨f.name,f.arity⟩)∧Bz w w':=by
 obtain ⟨pf,cf,rfl,hcl,hcm,hx⟩:=h;have hnb:=sqM hcl hcm;have HI:=hid hi;have hself:sameR ⟨f.name,f.arity⟩ f=true:=(by simp [sameR]);have HSELF:=hid hself;obtain ⟨rs,rn,fcl⟩:=f;simp only at *;generalize hn:fs.length=nf at *;have HN:=hid hn;have HX:=hid hx;obtain ⟨W1,hW1⟩:∃ W1,W1=w.alloc (.cells #[.string ms,.slice pe ne ce,.slice pf nf cf] 63):=⟨_,rfl⟩;have bA:Hid (Blk W1 w.heap.size #[.string ms,.slice pe ne ce,.slice pf nf cf] 63):=(by show Blk _ _ _ _;rw [hW1];exact Blk.new);have B1:Hid (Bz w W1):=(by show Below _ _ _;rw [hW1];exact (sqN _ _));have xa2:=bA.out.cell 2 _ rfl;have HW1:=hid hW1;clear hx hn hi hself hW1;go_enter func64,ntmps64;go_wp2_with fail;rw [← HW1.out]
 go_loop [7] (fun iv=>∃ k:Nat,k≤nf∧iv=.int .i64 k∧Hid ((fs.take k).any (sameR ⟨rs,rn⟩)=false)) (fun iv=>nf - (intOf iv).toNat)
 case atStart=>exact ⟨0,Nat.zero_le _,rfl,by show _=_;simp⟩
 case round =>
  obtain ⟨k,hk,rfl,hall⟩:=hrel;by_cases hlt:k<nf
  · obtain ⟨x,hxk⟩:=sqA (l:=fs) (k:=k) HN.out hlt
    obtain ⟨g,off,rfl,-,hgl,hat⟩:=HX.out (sqE hxk);obtain ⟨cs,hcsl,hcs,r1⟩:=hat k x hxk;obtain ⟨p1,n1,q1,rfl⟩:=fnShape r1;have HC2:Hid (sameR ⟨rs,rn⟩ x=false→(fs.take (k+1)).any (sameR ⟨rs,rn⟩)=false):=fun h=>anyT_succ _ fs k _ hxk hall.out h
    have HC3:Hid (sameR ⟨rs,rn⟩ x=true→((k:Int) == (i:Int)) = !(fs.take i).any (sameR ⟨rs,rn⟩)):=fun h=>by
     have hki:k≤i:=Classical.byContradiction fun hc=>by
      have:=any_take_lt (sameR ⟨rs,rn⟩) fs k i _ HI.out HSELF.out (by omega);rw [hall.out] at this;cases this
     by_cases he:k=i
     · subst he;rw [hall.out];simp
     · rw [any_take_lt (sameR ⟨rs,rn⟩) fs i k x hxk h (by omega)];simp;omega
    obtain ⟨xs,xn,xc⟩:=x;simp only at *;have hsm:sameR ⟨rs,rn⟩ ⟨xs,xn,xc⟩=(xs.toList == rs.toList && xn == rn):=rfl;rw [hsm] at HC2 HC3;obtain ⟨a0,a1,a2⟩:=sqC3 hcs (by omega);rw [← B1.out.cell (p:=⟨g,_,none⟩) hgl] at a0 a1 a2;simp at a0 a1 a2;have hki:(k:Int)<(nf:Int):=(by omega);have hk0:=sqI k;clear hcs hat hcsl r1 hsm
    cases c1:(xs.toList == rs.toList) with
    | false =>
     have HT':Hid ((fs.take (k+1)).any (sameR ⟨rs,rn⟩)=false):=HC2.out (by rw [c1];rfl);clear HC2 HC3;go_wp2
     go_round
     case rel=>exact ⟨k+1,by omega,by go_num,HT'⟩
     case measure=>simp [intOf];omega
    | true =>
     cases c2:(xn == rn) with
     | false =>
      have HT':Hid ((fs.take (k+1)).any (sameR ⟨rs,rn⟩)=false):=HC2.out (by rw [c2,Bool.and_false]);clear HC2 HC3;go_wp2
      go_round
      case rel=>exact ⟨k+1,by omega,by go_num,HT'⟩
      case measure=>simp [intOf];omega
     | true =>
      have HF:Hid (((k:Int) == (i:Int)) = !(fs.take i).any (sameR ⟨rs,rn⟩)):=HC3.out (by rw [c1,c2];rfl);clear HC2 HC3;go_wp2;go_ret;exact ⟨_,rfl,HF.out,B1.out⟩
  · exfalso
    have h1:=hall.out
    have h2:=any_take_lt (sameR ⟨rs,rn⟩) fs k i _ HI.out HSELF.out (by
     have:=(List.getElem?_eq_some_iff.1 HI.out).1;have:=HN.out
     omega)
    rw [h1] at h2;cases h2
theorem specModuleOk_any (d:Nat) (w:World) (cs:List Value) (m:Md) (h:HMd w All d cs m) :
 Calls prog 101 #[.agg cs.toArray] w fun e w'=>e=.returned (.bool (mdOk d m))∧Bz w w':=by
 obtain ⟨ev,fv,rfl,hs,f0,f1⟩:=h;obtain ⟨ms,es,fs⟩:=m;simp only at *;have FR:∀ w',Bz w w'→Rows w' All 3 (HFn w' All d) fv fs:=fun w' hw=>f1.mono (sqO hw) (fun _ h=>h) (fun _ _ _ h=>h.mono (sqO hw) (fun _ h=>h));obtain ⟨pe,ce,rfl,hce,hcme,hxe⟩:=f0;obtain ⟨pf,cf,rfl,hcf,hcmf,hxf⟩:=f1;have hne:es.length≤9223372036854775807:=(by unfold maxLen at hcme;omega);have hnf:fs.length≤9223372036854775807:=(by unfold maxLen at hcmf;omega);have hv:mdOk d ⟨ms,es,fs⟩=(atomB ms && ((decide (es.length≤20) && (List.range es.length).all (rfsAt es)) && (inB fs.length 1 30 && (List.range fs.length).all (fnsAt d fs)))):=rfl;rw [hv];clear hv;generalize hn:es.length=ne at *;generalize hn2:fs.length=nf at *;have HN:=hid hn;have HN2:=hid hn2;have HE:=hid hxe;have HF0:=hid hxf;obtain ⟨W1,hW1⟩:∃ W1,W1=w.alloc (.cells #[.string ms,.slice pe ne ce,.slice pf nf cf] 63):=⟨_,rfl⟩;have bA:Hid (Blk W1 w.heap.size #[.string ms,.slice pe ne ce,.slice pf nf cf] 63):=(by show Blk _ _ _ _;rw [hW1];exact Blk.new);have B1:Hid (Bz w W1):=(by show Below _ _ _;rw [hW1];exact (sqN _ _));have HW1:=hid hW1;clear hxe hxf hn hn2 hW1
 cases ha:atomB ms with
 | false =>
  go_enter func101,ntmps101;go_wp2_with (first | (go_at_call 40;go_must (refine (specAtomOk_any _ _ hs).mono ?_;rintro e w9 ⟨rfl,rfl⟩;rw [ha])));rw [← HW1.out];go_ret;exact ⟨by simp,B1.out⟩
 | true =>
 by_cases h20:¬ ne≤20
 · have h21:(20:Int)<(ne:Int):=by omega
   rw [decide_eq_false h20];go_enter func101,ntmps101;go_wp2_with (first | (go_at_call 40;go_must (refine (specAtomOk_any _ _ hs).mono ?_;rintro e w9 ⟨rfl,rfl⟩;rw [ha])));rw [← HW1.out];go_ret;exact ⟨by simp,B1.out⟩
 replace h20:ne≤20:=by omega
 have h21:¬ (20:Int)<(ne:Int):=(by omega);rw [decide_eq_true h20]
 cases hin:inB nf 1 30 with
 | false =>
  go_enter func101,ntmps101;go_wp2_with (first | (go_at_call 40;go_must (refine (specAtomOk_any _ _ hs).mono ?_;rintro e w9 ⟨rfl,rfl⟩;rw [ha])) | (go_at_call 55;go_must (refine (l01In_any _ _ _ _).mono ?_;rintro e w9 ⟨rfl,rfl⟩;rw [hin])));rw [← HW1.out];go_ret;exact ⟨by simp,B1.out⟩
 | true =>
 simp only [Bool.true_and];go_enter func101,ntmps101;go_wp2_with (first | (go_at_call 40;go_must (refine (specAtomOk_any _ _ hs).mono ?_;rintro e w9 ⟨rfl,rfl⟩;rw [ha])) | (go_at_call 55;go_must (refine (l01In_any _ _ _ _).mono ?_;rintro e w9 ⟨rfl,rfl⟩;rw [hin])));rw [← HW1.out]
 go_loopw [3] (fun iv wr=>∃ k:Nat,k≤ne∧iv=.int .i64 k∧Hid ((List.range k).all (rfsAt es)=true)∧Hid (SameOn All W1 wr)∧Bz w wr) (fun iv _=>ne - (intOf iv).toNat)
 case atStart=>exact ⟨0,Nat.zero_le _,rfl,by show _=_;simp,⟨Nat.le_refl _,fun _ _ _=>rfl⟩,B1.out⟩
 case round =>
  obtain ⟨k,hk,rfl,hall,hso,hb⟩:=hrel;have HB:=hid hb;have b1:=bA.out.same_on hso.out;have hlw:=b1.lt;obtain ⟨xa0,xa1,xa2⟩:=sqB3 b1;clear b1;by_cases hlt:k<ne
  · obtain ⟨x,hxk⟩:=sqA (l:=es) (k:=k) HN.out hlt
    obtain ⟨g,off,rfl,-,hgl,hat⟩:=HE.out (sqE hxk);obtain ⟨cs,hcsl,hcs,r1⟩:=hat k x hxk;obtain ⟨rfl,hxs,-⟩:=r1;have hgw:g<wr.heap.size:=Nat.lt_of_lt_of_le hgl hb.size;have HAT0:Hid (k=0→rfsAt es k=refB x):=fun h=>rfsAt_zero h hxk
    have HATS:Hid (∀ j,k=j+1→∃ q:Rf,rfsAt es k=(refB x && lessB q x)∧wr.cell? ⟨g,off+j * 2,none⟩=some (.string q.name)∧wr.cell? ⟨g,off+j * 2+1,none⟩=some (.int .i64 q.arity)):=fun j hj=>by
     obtain ⟨q,hq⟩:∃ q,es[j]?=some q:=⟨es[j]'(by rw [HN.out];omega),List.getElem?_eq_getElem _⟩;obtain ⟨cs',_,hcs',rfl,hqs,_⟩:=hat j q hq;obtain ⟨b0,b1⟩:=sqC2 hcs' (by omega);rw [← hb.cell (p:=⟨g,_,none⟩) hgl] at b0 b1;exact ⟨q,rfsAt_succ (by omega) (by rw [hj];exact hq) hxk,by simpa using b0,by simpa using b1⟩
    obtain ⟨a0,a1⟩:=sqC2 hcs (by omega);rw [← hb.cell (p:=⟨g,_,none⟩) hgl] at a0 a1;simp at a0 a1;have hki:(k:Int)<(ne:Int):=(by omega);have hk0:=sqI k;obtain ⟨xs,xn⟩:=x;simp only at *;have hrf:refB ⟨xs,xn⟩=(atomB xs && inB xn 0 6):=rfl;rw [hrf] at HAT0 HATS;generalize hca:atomB xs=ca at *;have HCA:=hid hca;generalize hci:inB xn 0 6=ci at *;have HCI:=hid hci;obtain ⟨W5,hW5⟩:∃ W5,W5=wr.alloc (.cells #[.string xs,.int .i64 xn] 84):=⟨_,rfl⟩;have bF:Hid (Blk W5 wr.heap.size #[.string xs,.int .i64 xn] 84):=(by show Blk _ _ _ _;rw [hW5];exact Blk.new);have K5:Hid (Bz wr W5):=(by show Below _ _ _;rw [hW5];exact (sqN _ _));have B5:Hid (Bz w W5):=hb.trans (K5.out.mono hb.size);have S5:Hid (SameOn All W1 W5):=hso.out.trans (sqO K5.out);have HW5:=hid hW5;have hg5:g<W5.heap.size:=Nat.lt_of_lt_of_le hgw K5.out.size;obtain ⟨z0,z1⟩:=sqB2 bF.out;have l2:=bF.out.lt;have bM:=bA.out.same_on S5.out;have u1:=bM.cell 1 _ rfl;have l3:=bM.lt;have qz0:∀ m:Wd (fun w'=>SameOn All W5 w'∧Bz w w'),m.val.cell? ⟨wr.heap.size,0,none⟩=some (.string xs):=fun m=>(sqK (m.ok.1.2 wr.heap.size trivial l2)).trans z0;have qz1:∀ m:Wd (fun w'=>SameOn All W5 w'∧Bz w w'),m.val.cell? ⟨wr.heap.size,1,none⟩=some (.int .i64 xn):=fun m=>(sqK (m.ok.1.2 wr.heap.size trivial l2)).trans z1;have qu1:∀ m:Wd (fun w'=>SameOn All W5 w'∧Bz w w'),m.val.cell? ⟨w.heap.size,1,none⟩=some (.slice (some ⟨g,off,none⟩) ne ce):=fun m=>(sqK (m.ok.1.2 w.heap.size trivial l3)).trans u1;clear hb hcs hat hcsl hW5 z0 z1 l2 hca hci bM u1 l3;by_cases hac:(ca && ci)=false
    · have HF:Hid ((List.range ne).all (rfsAt es)=false):=rangeT_at _ ne k hlt (by
       rcases Nat.eq_zero_or_pos k with h | h
       · rw [HAT0.out h,hac]
       · obtain ⟨q,hq,_⟩:=HATS.out (k - 1) (by omega)
         rw [hq,hac];rfl)
      clear HAT0 HATS
      cases ca with
      | false =>
       go_wp2_with fail;rw [← HW5.out];have hCne:Nonempty (Wd (fun w'=>SameOn All W5 w'∧Bz w w')):=⟨⟨W5.drew,⟨⟨Nat.le_refl _,fun _ _ _=>rfl⟩,B5.out.drew⟩⟩⟩;refine wp_region_class (fun w'=>SameOn All W5 w'∧Bz w w') (by kernel_rfl) (by kernel_rfl) ⟨⟨Nat.le_refl _,fun _ _ _=>rfl⟩,B5.out.drew⟩ ?_
       repeat (go_big_quiet_step (first | (rename_i m;go_at_call 40;refine (specAtomOk_any _ _ hxs).mono ?_;rintro e w1 ⟨rfl,rfl⟩;exact ⟨by rw [HCA.out],⟨m,rfl⟩⟩)))
       refine wpQuiet_nil ?_;rintro _ ⟨mq,rfl⟩;have HB4:Hid (Bz w mq.val):=mq.ok.2;have HS4:Hid (SameOn All W5 mq.val):=mq.ok.1;generalize mq.val=w4 at HB4 HS4 ⊢;go_wp2_with fail;go_ret;exact ⟨by rw [HF.out];rfl,HB4.out⟩
      | true =>
       obtain rfl:ci=false:=(by simpa using hac);clear hac;go_wp2_with fail;rw [← HW5.out];have hCne:Nonempty (Wd (fun w'=>SameOn All W5 w'∧Bz w w')):=⟨⟨W5.drew,⟨⟨Nat.le_refl _,fun _ _ _=>rfl⟩,B5.out.drew⟩⟩⟩;refine wp_region_class (fun w'=>SameOn All W5 w'∧Bz w w') (by kernel_rfl) (by kernel_rfl) ⟨⟨Nat.le_refl _,fun _ _ _=>rfl⟩,B5.out.drew⟩ ?_
       repeat (go_big_quiet_step (first | (rename_i m;go_at_call 40;refine (specAtomOk_any _ _ hxs).mono ?_;rintro e w1 ⟨rfl,rfl⟩;exact ⟨by rw [HCA.out],⟨m,rfl⟩⟩) | (rename_i m;go_at_call 55;refine (l01In_any _ _ _ _).mono ?_;rintro e w1 ⟨rfl,rfl⟩;exact ⟨by rw [HCI.out],⟨m,rfl⟩⟩)))
       refine wpQuiet_nil ?_;rintro _ ⟨mq,rfl⟩;have HB4:Hid (Bz w mq.val):=mq.ok.2;have HS4:Hid (SameOn All W5 mq.val):=mq.ok.1;generalize mq.val=w4 at HB4 HS4 ⊢;go_wp2_with fail;go_ret;exact ⟨by rw [HF.out];rfl,HB4.out⟩
    · obtain ⟨rfl,rfl⟩:ca=true∧ci=true:=by simpa using hac
      clear hac
      rcases Nat.eq_zero_or_pos k with hz | hz
      · have HT':Hid ((List.range (k+1)).all (rfsAt es)=true):=rangeT_succ _ k hall.out (HAT0.out hz)
        have hz1:¬ (0:Int)<(k:Int):=(by omega);have hz3:¬ 0<k:=(by omega);have hz4:decide (0<k)=false:=decide_eq_false hz3;clear HAT0 HATS hz;go_wp2_with fail;rw [← HW5.out];have hCne:Nonempty (Wd (fun w'=>SameOn All W5 w'∧Bz w w')):=⟨⟨W5.drew,⟨⟨Nat.le_refl _,fun _ _ _=>rfl⟩,B5.out.drew⟩⟩⟩;refine wp_region_class (fun w'=>SameOn All W5 w'∧Bz w w') (by kernel_rfl) (by kernel_rfl) ⟨⟨Nat.le_refl _,fun _ _ _=>rfl⟩,B5.out.drew⟩ ?_
        repeat (go_big_quiet_step (first | (rename_i m;go_at_call 40;refine (specAtomOk_any _ _ hxs).mono ?_;rintro e w1 ⟨rfl,rfl⟩;exact ⟨by rw [HCA.out],⟨m,rfl⟩⟩) | (rename_i m;go_at_call 55;refine (l01In_any _ _ _ _).mono ?_;rintro e w1 ⟨rfl,rfl⟩;exact ⟨by rw [HCI.out],⟨m,rfl⟩⟩)))
        refine wpQuiet_nil ?_;rintro _ ⟨mq,rfl⟩;have HB4:Hid (Bz w mq.val):=mq.ok.2;have HS4:Hid (SameOn All W5 mq.val):=mq.ok.1;generalize mq.val=w4 at HB4 HS4 ⊢;have HS9:Hid (SameOn All W1 w4):=S5.out.trans HS4.out;go_wp2_with fail;exact ⟨⟨k+1,by omega,by go_num,HT'.out,HS9.out,HB4.out⟩,by simp [intOf];omega⟩
      · obtain ⟨j,rfl⟩:∃ j,k=j+1:=⟨k - 1,by omega⟩
        obtain ⟨q,hat,y0,y1⟩:=HATS.out j rfl;have HAT:=hid hat;obtain ⟨qs,qn⟩:=q;simp only at *;have qy0:∀ m:Wd (fun w'=>SameOn All W5 w'∧Bz w w'),m.val.cell? ⟨g,off+j * 2,none⟩=some (.string qs):=fun m=>(sqK (m.ok.1.2 g trivial hg5)).trans (cell_next K5.out y0);have qy1:∀ m:Wd (fun w'=>SameOn All W5 w'∧Bz w w'),m.val.cell? ⟨g,off+j * 2+1,none⟩=some (.int .i64 qn):=fun m=>(sqK (m.ok.1.2 g trivial hg5)).trans (cell_next K5.out y1);have hji:(j:Int)<(ne:Int):=(by omega);have hj0:=sqI j;have hj1:(0:Int)<(j:Int)+1:=(by omega);generalize hz9:lessB ⟨qs,qn⟩ ⟨xs,xn⟩=z;have HCL:=hid hz9;have HT2:Hid (z=true→(List.range (j+1+1)).all (rfsAt es)=true):=fun h=>rangeT_succ _ (j+1) hall.out (by rw [HAT.out,hz9,h];rfl);have HF2:Hid (z=false→(List.range ne).all (rfsAt es)=false):=fun h=>rangeT_at _ ne (j+1) hlt (by rw [HAT.out,hz9,h];rfl);clear HAT0 HATS hat hz y0 y1 hz9;go_wp2_with fail;rw [← HW5.out];have hCne:Nonempty (Wd (fun w'=>SameOn All W5 w'∧Bz w w')):=⟨⟨W5.drew,⟨⟨Nat.le_refl _,fun _ _ _=>rfl⟩,B5.out.drew⟩⟩⟩;refine wp_region_class (fun w'=>SameOn All W5 w'∧Bz w w') (by kernel_rfl) (by kernel_rfl) ⟨⟨Nat.le_refl _,fun _ _ _=>rfl⟩,B5.out.drew⟩ ?_
        repeat (go_big_quiet_step (first | (rename_i m;go_at_call 40;refine (specAtomOk_any _ _ hxs).mono ?_;rintro e w1 ⟨rfl,rfl⟩;exact ⟨by rw [HCA.out],⟨m,rfl⟩⟩) | (rename_i m;go_at_call 55;refine (l01In_any _ _ _ _).mono ?_;rintro e w1 ⟨rfl,rfl⟩;exact ⟨by rw [HCI.out],⟨m,rfl⟩⟩) | (rename_i m;go_at_call 83;refine (l02Less_any ⟨qs,qn⟩ ⟨xs,xn⟩ _).mono ?_;rintro e w1 ⟨rfl,hb1⟩;exact ⟨by rw [HCL.out],⟨⟨w1,⟨(SameOn.trans m.ok.1 (sqO hb1)),m.ok.2.trans (hb1.mono m.ok.2.size)⟩⟩,rfl⟩⟩)))
        refine wpQuiet_nil ?_;rintro _ ⟨mq,rfl⟩;have HB4:Hid (Bz w mq.val):=mq.ok.2;have HS4:Hid (SameOn All W5 mq.val):=mq.ok.1;generalize mq.val=w4 at HB4 HS4 ⊢;have HS9:Hid (SameOn All W1 w4):=S5.out.trans HS4.out
        cases z with
        | true =>
         have HT':Hid _:=HT2.out rfl;clear HT2 HF2;go_wp2_with fail;exact ⟨⟨j+1+1,by omega,by go_num,HT'.out,HS9.out,HB4.out⟩,by simp [intOf];omega⟩
        | false =>
         have HF':Hid _:=HF2.out rfl;clear HT2 HF2;go_wp2_with fail;go_ret;exact ⟨by rw [HF'.out];rfl,HB4.out⟩
  · have HDE:Hid ((List.range ne).all (rfsAt es)=true):=by
     obtain rfl:k=ne:=(by omega);exact hall.out
    clear hb;go_wp2_with fail;clear xa0 xa1 xa2
    go_loopw [5] (fun iv wr=>∃ k:Nat,k≤nf∧iv=.int .i64 k∧Hid ((List.range k).all (fnsAt d fs)=true)∧Hid (SameOn All W1 wr)∧Bz w wr) (fun iv _=>nf - (intOf iv).toNat)
    case atStart=>exact ⟨0,Nat.zero_le _,rfl,by show _=_;simp,hso.out,HB.out⟩
    case round =>
     clear HB hso;obtain ⟨k,hk,rfl,hall,hso,hb⟩:=hrel;have HB:=hid hb;have b1:=bA.out.same_on hso.out;have hlw:=b1.lt;obtain ⟨xa0,xa1,xa2⟩:=sqB3 b1;clear b1;by_cases hlt:k<nf
     · obtain ⟨x,hxk⟩:∃ x,fs[k]?=some x:=⟨fs[k]'(by rw [HN2.out];exact hlt),List.getElem?_eq_getElem _⟩
       obtain ⟨g,off,rfl,-,hgl,hat⟩:=HF0.out (sqE hxk);obtain ⟨cs,hcsl,hcs,r1⟩:=hat k x hxk;have HAT:Hid (fnsAt d fs k=(fnB d x && !(fs.take k).any (sameR ⟨x.name,x.arity⟩))):=fnsAt_eq hxk;have HFI:Hid (∀ w',Bz w w'→Calls prog 64 #[.agg #[.string ms,.slice pe ne ce,.slice (some ⟨g,off,none⟩) nf cf],.string x.name,.int .i64 x.arity] w' fun e w''=>∃ r:Int,e=.returned (.int .i64 r)∧(r == (k:Int)) = !(fs.take k).any (sameR ⟨x.name,x.arity⟩)∧Below w'.heap.size w' w''):=fun w' hw=>l02Find_any d w' ms pe ne ce _ fs k x (FR w' hw) hxk;obtain ⟨cv,rfl,hxs,-,hcr⟩:=r1;obtain ⟨xs,xn,xc⟩:=x;simp only at *;have CR:∀ w',Bz w w'→Rows w' All 2 (HCl w' All (HEx w' All d)) cv xc:=fun w' hw=>hcr.mono (sqO hw) (fun _ h=>h) (fun _ _ _ h=>h.mono (sqO hw) (fun _ h=>h) (fun _ _ h=>h.mono (sqO hw) (fun _ h=>h)));obtain ⟨pc,cc,rfl,hcc,hcmc,hxc⟩:=hcr;have hncb:xc.length≤9223372036854775807:=(by unfold maxLen at hcmc;omega);have hfb:fnB d ⟨xs,xn,xc⟩=((atomB xs && inB xn 0 6) && (inB xc.length 1 20 && xc.all (fun c=>clB (fun y q=>exOk d y q 40) c xn))):=rfl;rw [hfb] at HAT;clear hfb;generalize hn3:xc.length=nc at *;have HN3:=hid hn3;have HC0:=hid hxc;obtain ⟨a0,a1,a2⟩:=sqC3 hcs (by omega);rw [← hb.cell (p:=⟨g,_,none⟩) hgl] at a0 a1 a2;simp at a0 a1 a2;have hki:(k:Int)<(nf:Int):=(by omega);have hk0:=sqI k;generalize hcb:(fs.take k).any (sameR ⟨xs,xn⟩)=cb at *;obtain ⟨W5,hW5⟩:∃ W5,W5=wr.alloc (.cells #[.string xs,.int .i64 xn,.slice pc nc cc] 59):=⟨_,rfl⟩;have bF:Hid (Blk W5 wr.heap.size #[.string xs,.int .i64 xn,.slice pc nc cc] 59):=(by show Blk _ _ _ _;rw [hW5];exact Blk.new);have K5:Hid (Bz wr W5):=(by show Below _ _ _;rw [hW5];exact (sqN _ _));have B5:Hid (Bz w W5):=hb.trans (K5.out.mono hb.size);have S5:Hid (SameOn All W1 W5):=hso.out.trans (sqO K5.out);have HW5:=hid hW5;clear hb hcs hat hcsl hW5 hcb hxc hn3;by_cases hac:(atomB xs && inB xn 0 6)=false
       · have HF:Hid ((List.range nf).all (fnsAt d fs)=false):=rangeT_at _ nf k hlt (by rw [HAT.out,hac];rfl)
         clear HAT
         cases ca:atomB xs with
         | false =>
          go_wp2_with (first | (go_at_call 40;go_must (refine (specAtomOk_any _ _ hxs).mono ?_;rintro e w9 ⟨rfl,rfl⟩;rw [ca])));rw [← HW5.out];go_ret;exact ⟨by rw [HDE.out,HF.out];rfl,B5.out⟩
         | true =>
          have ci:inB xn 0 6=false:=(by rw [ca] at hac;simpa using hac);go_wp2_with (first | (go_at_call 40;go_must (refine (specAtomOk_any _ _ hxs).mono ?_;rintro e w9 ⟨rfl,rfl⟩;rw [ca])) | (go_at_call 55;go_must (refine (l01In_any _ _ _ _).mono ?_;rintro e w9 ⟨rfl,rfl⟩;rw [ci])));rw [← HW5.out];go_ret;exact ⟨by rw [HDE.out,HF.out];rfl,B5.out⟩
       obtain ⟨ca,ci⟩:atomB xs=true∧inB xn 0 6=true:=(by simpa using hac);rw [ca,ci] at HAT;clear hac;have bM:=bA.out.same_on S5.out;obtain ⟨u0,u1,u2⟩:=sqB3 bM;rw [HW5.out] at u0 u1 u2;clear bM
       cases cb with
       | true =>
        have HF:Hid ((List.range nf).all (fnsAt d fs)=false):=rangeT_at _ nf k hlt (by rw [HAT.out];simp);clear HAT;go_wp2_with (first | (go_at_call 40;go_must (refine (specAtomOk_any _ _ hxs).mono ?_;rintro e w9 ⟨rfl,rfl⟩;rw [ca])) | (go_at_call 55;go_must (refine (l01In_any _ _ _ _).mono ?_;rintro e w9 ⟨rfl,rfl⟩;rw [ci])));rw [← HW5.out];refine (HFI.out _ B5.out).mono ?_;rintro e w6 ⟨r,rfl,hri,hb6⟩;have hr2:(r != (k:Int))=true:=(by simpa using hri);have B6:Hid (Bz w w6):=B5.out.trans (hb6.mono B5.out.size);clear hri hb6;go_wp2_with fail;go_ret;exact ⟨by rw [HDE.out,HF.out];rfl,B6.out⟩
       | false =>
        cases cin:inB nc 1 20 with
        | false =>
         have HF:Hid ((List.range nf).all (fnsAt d fs)=false):=rangeT_at _ nf k hlt (by rw [HAT.out,cin];simp);clear HAT;go_wp2_with (first | (go_at_call 40;go_must (refine (specAtomOk_any _ _ hxs).mono ?_;rintro e w9 ⟨rfl,rfl⟩;rw [ca])) | (go_at_call 55;go_must (refine (l01In_any _ _ _ _).mono ?_;rintro e w9 ⟨rfl,rfl⟩;rw [ci])));rw [← HW5.out];refine (HFI.out _ B5.out).mono ?_;rintro e w6 ⟨r,rfl,hri,hb6⟩;obtain rfl:r=(k:Int):=(by simpa using hri);have B6:Hid (Bz w w6):=B5.out.trans (hb6.mono B5.out.size);have S6:Hid (SameOn All W5 w6):=sqO hb6;have bG:Hid (Blk w6 wr.heap.size #[.string xs,.int .i64 xn,.slice pc nc cc] 59):=bF.out.next hb6;obtain ⟨v0,v1,v2⟩:=sqB3 bG.out;clear hri hb6;go_wp2_with (first | (go_at_call 55;go_must (refine (l01In_any _ _ _ _).mono ?_;rintro e w9 ⟨rfl,hw9⟩;rw [cin,hw9];clear hw9 w9)));go_ret;exact ⟨by rw [HDE.out,HF.out];rfl,B6.out⟩
        | true =>
         rw [cin] at HAT;go_wp2_with (first | (go_at_call 40;go_must (refine (specAtomOk_any _ _ hxs).mono ?_;rintro e w9 ⟨rfl,rfl⟩;rw [ca])) | (go_at_call 55;go_must (refine (l01In_any _ _ _ _).mono ?_;rintro e w9 ⟨rfl,rfl⟩;rw [ci])));rw [← HW5.out];refine (HFI.out _ B5.out).mono ?_;rintro e w6 ⟨r,rfl,hri,hb6⟩;obtain rfl:r=(k:Int):=(by simpa using hri);have B6:Hid (Bz w w6):=B5.out.trans (hb6.mono B5.out.size);have S6:Hid (SameOn All W5 w6):=sqO hb6;have bG:Hid (Blk w6 wr.heap.size #[.string xs,.int .i64 xn,.slice pc nc cc] 59):=bF.out.next hb6;obtain ⟨v0,v1,v2⟩:=sqB3 bG.out;clear hri hb6;go_wp2_with (first | (go_at_call 55;go_must (refine (l01In_any _ _ _ _).mono ?_;rintro e w9 ⟨rfl,hw9⟩;rw [cin,hw9];clear hw9 w9)));clear v0 v1 v2 u0 u1 u2 xa0 xa1 xa2;obtain ⟨W6,hW6⟩:∃ W6,W6=wr.heap.size:=⟨_,rfl⟩;have HW6:=hid hW6;rw [← hW6] at bG ⊢;have S1:Hid (SameOn All W1 w6):=S5.out.trans S6.out;clear hW6 HW6 hlw bF HW5 K5 S5 S6 B5
         go_loopw [7] (fun iv wr=>∃ k2:Nat,k2≤nc∧iv=.int .i64 k2∧Hid ((xc.take k2).all (fun c=>clB (fun y q=>exOk d y q 40) c xn)=true)∧Hid (SameOn All w6 wr)∧Bz w wr) (fun iv _=>nc - (intOf iv).toNat)
         case atStart=>exact ⟨0,Nat.zero_le _,rfl,by show _=_;simp,⟨Nat.le_refl _,fun _ _ _=>rfl⟩,B6.out⟩
         case round =>
          clear HB hso;obtain ⟨k2,hk2,rfl,hall2,hso,hb⟩:=hrel;have HB:=hid hb;have b1:=bG.out.same_on hso.out;have hlw:=b1.lt;have xa1:=b1.cell 1 _ rfl;have xa2:=b1.cell 2 _ rfl;clear b1;by_cases hlt2:k2<nc
          · obtain ⟨c,hck⟩:∃ c,xc[k2]?=some c:=⟨xc[k2]'(by rw [HN3.out];exact hlt2),List.getElem?_eq_getElem _⟩
            obtain ⟨g2,off2,rfl,-,hgl2,hat2⟩:=HC0.out (sqE hck);obtain ⟨cs,hcsl,hcs,r1⟩:=hat2 k2 c hck;have E1:∀ w',SameOn All wr w'→HCl w' All (HEx w' All d) cs c:=fun w' hw=>r1.mono (SameOn.trans (sqO hb) hw) (fun _ h=>h) (fun _ _ h=>h.mono (SameOn.trans (sqO hb) hw) (fun _ h=>h));obtain ⟨c0,c1,rfl⟩:=len2 hcsl;obtain ⟨a0,a1⟩:=sqC2 hcs (by omega);rw [← hb.cell (p:=⟨g2,_,none⟩) hgl2] at a0 a1;simp at a0 a1;have hki2:(k2:Int)<(nc:Int):=(by omega);have hk02:=sqI k2;have hgw:g2<wr.heap.size:=Nat.lt_of_lt_of_le hgl2 hb.size;have qa0:∀ m:Wd (fun w'=>SameOn All wr w'∧Bz w w'),m.val.cell? ⟨g2,off2+k2 * 2,none⟩=some c0:=fun m=>(sqK (m.ok.1.2 g2 trivial hgw)).trans a0;have qa1:∀ m:Wd (fun w'=>SameOn All wr w'∧Bz w w'),m.val.cell? ⟨g2,off2+k2 * 2+1,none⟩=some c1:=fun m=>(sqK (m.ok.1.2 g2 trivial hgw)).trans a1;have qx1:∀ m:Wd (fun w'=>SameOn All wr w'∧Bz w w'),m.val.cell? ⟨W6,1,none⟩=some (.int .i64 xn):=fun m=>(sqK (m.ok.1.2 W6 trivial hlw)).trans xa1;have qx2:∀ m:Wd (fun w'=>SameOn All wr w'∧Bz w w'),m.val.cell? ⟨W6,2,none⟩=some (.slice (some ⟨g2,off2,none⟩) nc cc):=fun m=>(sqK (m.ok.1.2 W6 trivial hlw)).trans xa2;clear hb hcs hat2 hcsl r1;generalize hcv:clB (fun y q=>exOk d y q 40) c xn=cv;have HCV:=hid hcv;have HC2:Hid (cv=true→(xc.take (k2+1)).all (fun c=>clB (fun y q=>exOk d y q 40) c xn)=true):=fun h=>allT_succ _ xc k2 c hck hall2.out (hcv.trans h);have HC3:Hid (cv=false→(List.range nf).all (fnsAt d fs)=false):=fun h=>rangeT_at _ nf k hlt (by rw [HAT.out,allT_at _ xc k2 c hck (hcv.trans h)];rfl);clear hcv;go_wp2;have hCne:Nonempty (Wd (fun w'=>SameOn All wr w'∧Bz w w')):=⟨⟨wr.drew,⟨⟨Nat.le_refl _,fun _ _ _=>rfl⟩,HB.out.drew⟩⟩⟩;refine wp_region_class (fun w'=>SameOn All wr w'∧Bz w w') (by kernel_rfl) (by kernel_rfl) ⟨⟨Nat.le_refl _,fun _ _ _=>rfl⟩,HB.out.drew⟩ ?_
            repeat (go_big_quiet_step (first | (rename_i m;go_at_call 145;refine (clause_allS d _ _ c xn 40 (E1 _ m.ok.1) (by omega) (by omega)).mono ?_;rintro e w1 ⟨rfl,hb1⟩;exact ⟨by rw [HCV.out],⟨⟨w1,⟨(SameOn.trans m.ok.1 (sqO hb1)),m.ok.2.trans (hb1.mono m.ok.2.size)⟩⟩,rfl⟩⟩)))
            refine wpQuiet_nil ?_;rintro _ ⟨mq,rfl⟩;have HB4:Hid (Bz w mq.val):=mq.ok.2;have HS4:Hid (SameOn All w6 mq.val):=hso.out.trans mq.ok.1;generalize mq.val=w4 at HB4 HS4 ⊢;clear HCV
            cases cv with
            | true =>
             have HT':Hid _:=HC2.out rfl;clear HC2 HC3;go_wp2_with fail;exact ⟨⟨k2+1,by omega,by go_num,HT'.out,HS4.out,HB4.out⟩,by simp [intOf];omega⟩
            | false =>
             have HF:Hid _:=HC3.out rfl;clear HC2 HC3;go_wp2_with fail;go_ret;exact ⟨by rw [HDE.out,HF.out];rfl,HB4.out⟩
          · have HT':Hid ((List.range (k+1)).all (fnsAt d fs)=true):=rangeT_succ _ k hall.out (by
             have:=hall2.out;rw [List.take_of_length_le (by rw [HN3.out];omega)] at this
             rw [HAT.out,this];rfl)
            have HS9:Hid (SameOn All W1 wr):=S1.out.trans hso.out;clear hb;go_wp2_with fail;exact ⟨⟨k+1,by omega,by go_num,HT'.out,HS9.out,HB.out⟩,by simp [intOf];omega⟩
     · have HD:Hid ((List.range nf).all (fnsAt d fs)=true):=by
        obtain rfl:k=nf:=(by omega);exact hall.out
       clear hb;go_wp2_with fail;go_ret;exact ⟨by rw [HDE.out,HD.out];rfl,HB.out⟩
theorem exportsOk_any (w:World) (v:Value) (es:List Rf) (hT:Tabs w) (h:Rows w All 2 HRf v es) :
 Calls prog 183 #[v] w fun e w'=>e=.returned (.bool (decide (es.length≤20) && rfsB es))∧Bz w w':=by
 have HT:=hid hT;obtain ⟨p,cap,rfl,hcl,hcm,hx⟩:=h;have hnb:=sqM hcl hcm;have hfn:rfsB es=(List.range es.length).all (rfsAt es):=rfl;rw [hfn];clear hfn;generalize hn:es.length=n at *;have HN:=hid hn;have HX:=hid hx;clear hx hn hT;by_cases h20:n≤20
 · have h21:¬ (20:Int)<(n:Int):=by omega
   rw [decide_eq_true h20];go_enter func183,ntmps183;go_wp2_with fail
   go_loopw [10] (fun iv wr=>∃ k:Nat,k≤n∧iv=.int .i64 k∧Hid ((List.range k).all (rfsAt es)=true)∧Bz w wr) (fun iv _=>n - (intOf iv).toNat)
   case atStart=>exact ⟨0,Nat.zero_le _,rfl,by show _=_;simp,Below.refl _ _⟩
   case round =>
    obtain ⟨k,hk,rfl,hall,hb⟩:=hrel;have HB:=hid hb;by_cases hlt:k<n
    · obtain ⟨x,hxk⟩:=sqA (l:=es) (k:=k) HN.out hlt
      obtain ⟨g,off,rfl,-,hgl,hat⟩:=HX.out (sqE hxk);obtain ⟨cs,hcsl,hcs,r1⟩:=hat k x hxk;obtain ⟨rfl,hxs,-⟩:=r1;have hgw:g<wr.heap.size:=Nat.lt_of_lt_of_le hgl hb.size;have HAT0:Hid (k=0→rfsAt es k=refB x):=fun h=>rfsAt_zero h hxk
      have HATS:Hid (∀ j,k=j+1→∃ q:Rf,rfsAt es k=(refB x && lessB q x)∧okS q.name∧wr.cell? ⟨g,off+j * 2,none⟩=some (.string q.name)∧wr.cell? ⟨g,off+j * 2+1,none⟩=some (.int .i64 q.arity)):=fun j hj=>by
       obtain ⟨q,hq⟩:∃ q,es[j]?=some q:=⟨es[j]'(by rw [HN.out];omega),List.getElem?_eq_getElem _⟩;obtain ⟨cs',_,hcs',rfl,hqs,_⟩:=hat j q hq;obtain ⟨b0,b1⟩:=sqC2 hcs' (by omega);rw [← hb.cell (p:=⟨g,_,none⟩) hgl] at b0 b1;exact ⟨q,rfsAt_succ (by omega) (by rw [hj];exact hq) hxk,hqs,by simpa using b0,by simpa using b1⟩
      obtain ⟨a0,a1⟩:=sqC2 hcs (by omega);rw [← hb.cell (p:=⟨g,_,none⟩) hgl] at a0 a1;simp at a0 a1;have hki:(k:Int)<(n:Int):=(by omega);have hk0:=sqI k;generalize hca:refB x=ca at *;have HCA:=hid hca;obtain ⟨xs,xn⟩:=x;simp only at *;obtain ⟨W5,hW5⟩:∃ W5,W5=wr.alloc (.cells #[.string xs,.int .i64 xn] 84):=⟨_,rfl⟩;have bF:Hid (Blk W5 wr.heap.size #[.string xs,.int .i64 xn] 84):=(by show Blk _ _ _ _;rw [hW5];exact Blk.new);have K5:Hid (Bz wr W5):=(by show Below _ _ _;rw [hW5];exact (sqN _ _));have B5:=hid (hb.trans (K5.out.mono hb.size));have HW5:=hid hW5;have hg5:g<W5.heap.size:=Nat.lt_of_lt_of_le hgw K5.out.size;obtain ⟨z0,z1⟩:=sqB2 bF.out;have l2:=bF.out.lt;have qz0:∀ m:Wd (fun w'=>SameOn All W5 w'∧Bz w w'),m.val.cell? ⟨wr.heap.size,0,none⟩=some (.string xs):=fun m=>(sqK (m.ok.1.2 wr.heap.size trivial l2)).trans z0;have qz1:∀ m:Wd (fun w'=>SameOn All W5 w'∧Bz w w'),m.val.cell? ⟨wr.heap.size,1,none⟩=some (.int .i64 xn):=fun m=>(sqK (m.ok.1.2 wr.heap.size trivial l2)).trans z1;clear hb hcs hat hcsl hW5 z0 z1 l2 hca
      cases ca with
      | false =>
       have HF:Hid ((List.range n).all (rfsAt es)=false):=rangeT_at _ n k hlt (by
        rcases Nat.eq_zero_or_pos k with h | h
        · exact HAT0.out h
        · obtain ⟨q,hq,_⟩:=HATS.out (k - 1) (by omega)
          rw [hq];rfl)
       clear HAT0 HATS;go_wp2_with fail;rw [← HW5.out];have hCne:Nonempty (Wd (fun w'=>SameOn All W5 w'∧Bz w w')):=⟨⟨W5.drew,⟨⟨Nat.le_refl _,fun _ _ _=>rfl⟩,B5.out.drew⟩⟩⟩;refine wp_region_class (fun w'=>SameOn All W5 w'∧Bz w w') (by kernel_rfl) (by kernel_rfl) ⟨⟨Nat.le_refl _,fun _ _ _=>rfl⟩,B5.out.drew⟩ ?_
       repeat (go_big_quiet_step (first | (rename_i m;go_at_call 209;refine (refOk_any ⟨xs,xn⟩ _ hxs (HT.out.below m.ok.2).keys).mono ?_;rintro e w1 ⟨rfl,hb1⟩;exact ⟨by rw [HCA.out],⟨⟨w1,⟨(SameOn.trans m.ok.1 (sqO hb1)),m.ok.2.trans (hb1.mono m.ok.2.size)⟩⟩,rfl⟩⟩)))
       refine wpQuiet_nil ?_;rintro _ ⟨mq,rfl⟩;have HB4:=hid mq.ok.2;have HS4:=hid mq.ok.1;generalize mq.val=w4 at HB4 HS4 ⊢;go_wp2_with fail;go_ret;exact ⟨by rw [HF.out];rfl,HB4.out⟩
      | true =>
       rcases Nat.eq_zero_or_pos k with hz | hz
       · have HT':Hid ((List.range (k+1)).all (rfsAt es)=true):=rangeT_succ _ k hall.out (HAT0.out hz)
         have hz1:¬ (0:Int)<(k:Int):=(by omega);have hz3:¬ 0<k:=(by omega);have hz4:decide (0<k)=false:=decide_eq_false hz3;clear HAT0 HATS hz;go_wp2_with fail;rw [← HW5.out];have hCne:Nonempty (Wd (fun w'=>SameOn All W5 w'∧Bz w w')):=⟨⟨W5.drew,⟨⟨Nat.le_refl _,fun _ _ _=>rfl⟩,B5.out.drew⟩⟩⟩;refine wp_region_class (fun w'=>SameOn All W5 w'∧Bz w w') (by kernel_rfl) (by kernel_rfl) ⟨⟨Nat.le_refl _,fun _ _ _=>rfl⟩,B5.out.drew⟩ ?_
         repeat (go_big_quiet_step (first | (rename_i m;go_at_call 209;refine (refOk_any ⟨xs,xn⟩ _ hxs (HT.out.below m.ok.2).keys).mono ?_;rintro e w1 ⟨rfl,hb1⟩;exact ⟨by rw [HCA.out],⟨⟨w1,⟨(SameOn.trans m.ok.1 (sqO hb1)),m.ok.2.trans (hb1.mono m.ok.2.size)⟩⟩,rfl⟩⟩)))
         refine wpQuiet_nil ?_;rintro _ ⟨mq,rfl⟩;have HB4:=hid mq.ok.2;have HS4:=hid mq.ok.1;generalize mq.val=w4 at HB4 HS4 ⊢;go_wp2_with fail;exact ⟨⟨k+1,by omega,by go_num,HT'.out,HB4.out⟩,by simp [intOf];omega⟩
       · obtain ⟨j,rfl⟩:∃ j,k=j+1:=⟨k - 1,by omega⟩
         obtain ⟨q,hat,hqs,y0,y1⟩:=HATS.out j rfl;have HAT:=hid hat;obtain ⟨qs,qn⟩:=q;simp only at *;have qy0:∀ m:Wd (fun w'=>SameOn All W5 w'∧Bz w w'),m.val.cell? ⟨g,off+j * 2,none⟩=some (.string qs):=fun m=>(sqK (m.ok.1.2 g trivial hg5)).trans (cell_next K5.out y0);have qy1:∀ m:Wd (fun w'=>SameOn All W5 w'∧Bz w w'),m.val.cell? ⟨g,off+j * 2+1,none⟩=some (.int .i64 qn):=fun m=>(sqK (m.ok.1.2 g trivial hg5)).trans (cell_next K5.out y1);have hji:(j:Int)<(n:Int):=(by omega);have hj0:=sqI j;have hj1:(0:Int)<(j:Int)+1:=(by omega);generalize hz9:cmpRf ⟨qs,qn⟩ ⟨xs,xn⟩=z;have HZ:=hid hz9;have HL:Hid (lessB ⟨qs,qn⟩ ⟨xs,xn⟩=decide (z<0)):=(by show _=_;unfold lessB;rw [hz9]);clear HAT0 HATS hat hz y0 y1 hz9;by_cases hzl:z<0
         · have HT':Hid ((List.range (j+1+1)).all (rfsAt es)=true):=rangeT_succ _ (j+1) hall.out (by rw [HAT.out,HL.out,decide_eq_true hzl];rfl)
           have hzl2:¬ 0≤z:=(by omega);go_wp2_with fail;rw [← HW5.out];have hCne:Nonempty (Wd (fun w'=>SameOn All W5 w'∧Bz w w')):=⟨⟨W5.drew,⟨⟨Nat.le_refl _,fun _ _ _=>rfl⟩,B5.out.drew⟩⟩⟩;refine wp_region_class (fun w'=>SameOn All W5 w'∧Bz w w') (by kernel_rfl) (by kernel_rfl) ⟨⟨Nat.le_refl _,fun _ _ _=>rfl⟩,B5.out.drew⟩ ?_
           repeat (go_big_quiet_step (first | (rename_i m;go_at_call 209;refine (refOk_any ⟨xs,xn⟩ _ hxs (HT.out.below m.ok.2).keys).mono ?_;rintro e w1 ⟨rfl,hb1⟩;exact ⟨by rw [HCA.out],⟨⟨w1,⟨(SameOn.trans m.ok.1 (sqO hb1)),m.ok.2.trans (hb1.mono m.ok.2.size)⟩⟩,rfl⟩⟩) | (rename_i m;go_at_call 97;refine (compareRef_any ⟨qs,qn⟩ ⟨xs,xn⟩ _).mono ?_;rintro e w1 ⟨rfl,hb1⟩;exact ⟨by rw [HZ.out],⟨⟨w1,⟨(SameOn.trans m.ok.1 (sqO hb1)),m.ok.2.trans (hb1.mono m.ok.2.size)⟩⟩,rfl⟩⟩)))
           refine wpQuiet_nil ?_;rintro _ ⟨mq,rfl⟩;have HB4:=hid mq.ok.2;have HS4:=hid mq.ok.1;generalize mq.val=w4 at HB4 HS4 ⊢;go_wp2_with fail;exact ⟨⟨j+1+1,by omega,by go_num,HT'.out,HB4.out⟩,by simp [intOf];omega⟩
         · have HF:Hid ((List.range n).all (rfsAt es)=false):=rangeT_at _ n (j+1) hlt (by rw [HAT.out,HL.out,decide_eq_false hzl];rfl)
           have hzl2:0≤z:=(by omega);go_wp2_with fail;rw [← HW5.out];have hCne:Nonempty (Wd (fun w'=>SameOn All W5 w'∧Bz w w')):=⟨⟨W5.drew,⟨⟨Nat.le_refl _,fun _ _ _=>rfl⟩,B5.out.drew⟩⟩⟩;refine wp_region_class (fun w'=>SameOn All W5 w'∧Bz w w') (by kernel_rfl) (by kernel_rfl) ⟨⟨Nat.le_refl _,fun _ _ _=>rfl⟩,B5.out.drew⟩ ?_
           repeat (go_big_quiet_step (first | (rename_i m;go_at_call 209;refine (refOk_any ⟨xs,xn⟩ _ hxs (HT.out.below m.ok.2).keys).mono ?_;rintro e w1 ⟨rfl,hb1⟩;exact ⟨by rw [HCA.out],⟨⟨w1,⟨(SameOn.trans m.ok.1 (sqO hb1)),m.ok.2.trans (hb1.mono m.ok.2.size)⟩⟩,rfl⟩⟩) | (rename_i m;go_at_call 97;refine (compareRef_any ⟨qs,qn⟩ ⟨xs,xn⟩ _).mono ?_;rintro e w1 ⟨rfl,hb1⟩;exact ⟨by rw [HZ.out],⟨⟨w1,⟨(SameOn.trans m.ok.1 (sqO hb1)),m.ok.2.trans (hb1.mono m.ok.2.size)⟩⟩,rfl⟩⟩)))
           refine wpQuiet_nil ?_;rintro _ ⟨mq,rfl⟩;have HB4:=hid mq.ok.2;have HS4:=hid mq.ok.1;generalize mq.val=w4 at HB4 HS4 ⊢;go_wp2_with fail;go_ret;exact ⟨by rw [HF.out];rfl,HB4.out⟩
    · have HD:Hid ((List.range n).all (rfsAt es)=true):=by
       obtain rfl:k=n:=(by omega);exact hall.out
      clear hb;go_wp2_with fail;go_ret;exact ⟨by rw [HD.out];rfl,HB.out⟩
 · have h21:(20:Int)<(n:Int):=by omega
   rw [decide_eq_false h20];go_enter func183,ntmps183;go_wp2_with fail;go_ret;exact ⟨by simp,Below.refl _ _⟩
theorem implModuleOk_any (d:Nat) (w:World) (cs:List Value) (m:Md) (hT:Tabs w) (h:HMd w All d cs m) :
 Calls prog 150 #[.agg cs.toArray] w fun e w'=>e=.returned (.bool (mdOk d m))∧Bz w w':=by
 have HT:=hid hT;obtain ⟨ev,fv,rfl,hs,f0,f1⟩:=h;obtain ⟨ms,es,fs⟩:=m;simp only at *;have BL:Hid (∀ (cs:Array Value) (t:TypeId),Bz w (w.alloc (.cells cs t))):=fun cs t=>(sqN _ _);have F0:∀ w',Bz w w'→Rows w' All 2 HRf ev es:=fun w' hw=>f0.mono (sqO hw) (fun _ h=>h) (fun _ _ _ h=>h);have F1:∀ w',Bz w w'→Rows w' All 3 (HFn w' All d) fv fs:=fun w' hw=>f1.mono (sqO hw) (fun _ h=>h) (fun _ _ _ h=>h.mono (sqO hw) (fun _ h=>h));obtain ⟨p,cap,rfl,-,-,-⟩:=f0;obtain ⟨q,cap',rfl,-,-,-⟩:=f1;have hv:mdOk d ⟨ms,es,fs⟩=(atomB ms && ((decide (es.length≤20) && rfsB es) && (inB fs.length 1 30 && fnsB d fs))):=rfl;rw [hv];clear hv hT
 cases ha:atomB ms with
 | false =>
  go_enter func150,ntmps150;go_wp2_with (first | (go_at_call 85;go_must (refine (implAtomOk_any _ _ hs (HT.out.below (BL.out _ _)).keys).mono ?_;rintro e w9 ⟨rfl,rfl⟩;rw [ha])));go_ret;exact ⟨by simp,BL.out _ _⟩
 | true =>
  cases he:(decide (es.length≤20) && rfsB es) with
  | false =>
   go_enter func150,ntmps150;go_wp2_with (first | (go_at_call 85;go_must (refine (implAtomOk_any _ _ hs (HT.out.below (BL.out _ _)).keys).mono ?_;rintro e w9 ⟨rfl,rfl⟩;rw [ha])));refine (exportsOk_any _ _ es (HT.out.below (BL.out _ _)) (F0 _ (BL.out _ _))).mono ?_;rintro e w2 ⟨rfl,hb2⟩;rw [he];have B2:Hid (Bz w w2):=(BL.out _ _).trans (hb2.mono (BL.out _ _).size);clear hb2;go_wp2_with fail;go_ret;exact ⟨by simp,B2.out⟩
  | true =>
   go_enter func150,ntmps150;go_wp2_with (first | (go_at_call 85;go_must (refine (implAtomOk_any _ _ hs (HT.out.below (BL.out _ _)).keys).mono ?_;rintro e w9 ⟨rfl,rfl⟩;rw [ha])));refine (exportsOk_any _ _ es (HT.out.below (BL.out _ _)) (F0 _ (BL.out _ _))).mono ?_;rintro e w2 ⟨rfl,hb2⟩;rw [he];have B2:Hid (Bz w w2):=(BL.out _ _).trans (hb2.mono (BL.out _ _).size);have hbk:=(Blk.new (w:=w) (cs:=#[.string ms,.slice p es.length cap,.slice q fs.length cap']) (t:=63)).next hb2;have a2:=hbk.cell 2 _ rfl;clear hb2 hbk;go_wp2_with fail;refine (funsOk_any d _ _ fs (HT.out.below B2.out) (F1 _ B2.out)).mono ?_;rintro e w3 ⟨rfl,hb3⟩;have B3:=hid (B2.out.trans (hb3.mono B2.out.size));clear hb3;go_wp2_with fail;go_ret;exact ⟨by simp,B3.out⟩
def mdsAt (d:Nat) (ms:List Md) (k:Nat):Bool :=
 match ms[k]? with
 | none=>true
 | some m=>mdOk d m && (match k with
  | 0=>true
  | j+1=>match ms[j]? with
   | none=>true
   | some q=>Op.bytesLess q.name.toList m.name.toList)
def pgOk (d:Nat) (ms:List Md):Bool:=decide (ms.length≤10) && (List.range ms.length).all (mdsAt d ms)
theorem mdsAt_zero {d:Nat} {ms:List Md} {k:Nat} {r:Md} (hk:k=0) (h:ms[k]?=some r):mdsAt d ms k=mdOk d r:=by
 subst hk;simp [mdsAt,h]
theorem mdsAt_succ {d:Nat} {ms:List Md} {j:Nat} {q r:Md} (hq:ms[j]?=some q) (hr:ms[j+1]?=some r):mdsAt d ms (j+1)=(mdOk d r && Op.bytesLess q.name.toList r.name.toList):=by
 simp [mdsAt,hr,hq]
theorem mdsAt_bad {d:Nat} {ms:List Md} {k:Nat} {r:Md} (hr:ms[k]?=some r) (h:mdOk d r=false):mdsAt d ms k=false:=by
 simp [mdsAt,hr,h]
theorem less_flip:∀ {a b:List UInt8},Op.bytesLess a b=false→a≠b→Op.bytesLess b a=true
 | [],[],_,h=>absurd rfl h
 | _ :: _,[],_,_=>rfl
 | [],_ :: _,h,_=>by simp [Op.bytesLess] at h
 | x :: a,y :: b,h,hne=>by
  simp only [Op.bytesLess,Bool.or_eq_false_iff,decide_eq_false_iff_not,Bool.and_eq_false_iff,beq_eq_false_iff_ne] at h;simp only [Op.bytesLess,Bool.or_eq_true,decide_eq_true_eq,Bool.and_eq_true,beq_iff_eq];by_cases hxy:x=y
  · subst hxy
    rcases h.2 with h2 | h2
    · exact absurd rfl h2
    · exact Or.inr ⟨rfl,less_flip h2 (fun e=>hne (by rw [e]))⟩
  · left
    rw [UInt8.lt_iff_toNat_lt] at h ⊢;have:x.toNat≠y.toNat:=fun e=>hxy (UInt8.toNat_inj.1 e);omega
theorem less_asym:∀ {a b:List UInt8},Op.bytesLess a b=true→Op.bytesLess b a=false
 | [],[],h=>by simp [Op.bytesLess] at h
 | _ :: _,[],h=>by simp [Op.bytesLess] at h
 | [],_ :: _,_=>rfl
 | x :: a,y :: b,h=>by
  simp only [Op.bytesLess,Bool.or_eq_true,decide_eq_true_eq,Bool.and_eq_true,beq_iff_eq] at h;simp only [Op.bytesLess,Bool.or_eq_false_iff,decide_eq_false_iff_not,Bool.and_eq_false_iff,beq_eq_false_iff_ne];rw [UInt8.lt_iff_toNat_lt] at h ⊢
  rcases h with h | ⟨rfl,h⟩
  · exact ⟨by omega,Or.inl (fun e=>by rw [e] at h;omega)⟩
  · exact ⟨by omega,Or.inr (less_asym h)⟩
theorem specProgramOk_any (d:Nat) (w:World) (v:Value) (ms:List Md) (h:Rows w All 3 (HMd w All d) v ms) :
 Calls prog 56 #[v] w fun e w'=>e=.returned (.bool (pgOk d ms))∧Bz w w':=by
 obtain ⟨p,cap,rfl,hcl,hcm,hx⟩:=h;have hv:pgOk d ms=(decide (ms.length≤10) && (List.range ms.length).all (mdsAt d ms)):=rfl;rw [hv];clear hv;generalize hn:ms.length=n at *;have HN:=hid hn;have HX:=hid hx;have hnb:=sqM hcl hcm;clear hx hn;go_enter func56,ntmps56;go_wp2
 go_loopw [3] (fun iv wr=>∃ k:Nat,k≤n∧iv=.int .i64 k∧Hid ((List.range k).all (mdsAt d ms)=true)∧Bz w wr) (fun iv _=>n - (intOf iv).toNat)
 case atStart=>exact ⟨0,Nat.zero_le _,rfl,by show _=_;simp,Below.refl _ _⟩
 case round =>
  obtain ⟨k,hk,rfl,hall,hb⟩:=hrel;have HB:=hid hb;by_cases hlt:k<n
  · obtain ⟨x,hxk⟩:=sqA (l:=ms) (k:=k) HN.out hlt
    obtain ⟨g,off,rfl,-,hgl,hat⟩:=HX.out (sqE hxk);obtain ⟨cs,hcsl,hcs,hmd⟩:=hat k x hxk;have hgw:g<wr.heap.size:=Nat.lt_of_lt_of_le hgl hb.size
    have HATS:Hid (∀ j,k=j+1→∃ q:Md,ms[j]?=some q∧wr.cell? ⟨g,off+j * 3,none⟩=some (.string q.name)):=fun j hj=>by
     obtain ⟨q,hq⟩:∃ q,ms[j]?=some q:=⟨ms[j]'(by rw [HN.out];omega),List.getElem?_eq_getElem _⟩;obtain ⟨cs',_,hcs',ev,fv,rfl,_⟩:=hat j q hq;have b0:=hcs' 0 (by omega);rw [← hb.cell (p:=⟨g,_,none⟩) hgl] at b0;exact ⟨q,hq,by simpa using b0⟩
    have HMD:Hid (∀ w',Bz w w'→HMd w' All d cs x):=fun w' hw=>hmd.mono (sqO hw) (fun _ h=>h);obtain ⟨ev,fv,rfl,hxs,f0,f1⟩:=hmd;obtain ⟨pe,ce,rfl,-⟩:=f0;obtain ⟨pf,cf,rfl,-⟩:=f1;obtain ⟨a0,a1,a2⟩:=sqC3 hcs (by omega);rw [← hb.cell (p:=⟨g,_,none⟩) hgl] at a0 a1 a2;simp at a0 a1 a2;have hki:(k:Int)<(n:Int):=(by omega);have hk0:=sqI k;generalize hca:mdOk d x=ca at *;have HCA:=hid hca;have HXK:=hid hxk;have qa0:∀ m:Wd (fun w'=>SameOn All wr w'∧Bz w w'),m.val.cell? ⟨g,off+k * 3,none⟩=some (.string x.name):=fun m=>(sqK (m.ok.1.2 g trivial hgw)).trans a0;have qa1:∀ m:Wd (fun w'=>SameOn All wr w'∧Bz w w'),m.val.cell? ⟨g,off+k * 3+1,none⟩=some (.slice pe x.exports.length ce):=fun m=>(sqK (m.ok.1.2 g trivial hgw)).trans a1;have qa2:∀ m:Wd (fun w'=>SameOn All wr w'∧Bz w w'),m.val.cell? ⟨g,off+k * 3+2,none⟩=some (.slice pf x.funs.length cf):=fun m=>(sqK (m.ok.1.2 g trivial hgw)).trans a2;clear hb hcs hat hcsl hca a0 a1 a2 hxk
    cases ca with
    | false =>
     have HF:Hid ((List.range n).all (mdsAt d ms)=false):=rangeT_at _ n k hlt (mdsAt_bad HXK.out HCA.out);clear HATS;go_wp2_with fail;have hCne:Nonempty (Wd (fun w'=>SameOn All wr w'∧Bz w w')):=⟨⟨wr.drew,⟨⟨Nat.le_refl _,fun _ _ _=>rfl⟩,HB.out.drew⟩⟩⟩;refine wp_region_class (fun w'=>SameOn All wr w'∧Bz w w') (by kernel_rfl) (by kernel_rfl) ⟨⟨Nat.le_refl _,fun _ _ _=>rfl⟩,HB.out.drew⟩ ?_
     repeat (go_big_quiet_step (first | (rename_i m;go_at_call 101;refine (specModuleOk_any d _ _ x (HMD.out _ m.ok.2)).mono ?_;rintro e w1 ⟨rfl,hb1⟩;exact ⟨by rw [HCA.out],⟨⟨w1,⟨m.ok.1.trans (sqO hb1),m.ok.2.trans (hb1.mono m.ok.2.size)⟩⟩,rfl⟩⟩)))
     refine wpQuiet_nil ?_;rintro _ ⟨mq,rfl⟩;have HB4:=hid mq.ok.2;have HS4:=hid mq.ok.1;generalize mq.val=w4 at HB4 HS4 ⊢;go_wp2_with fail;go_ret;exact ⟨by rw [HF.out];simp,HB4.out⟩
    | true =>
     rcases Nat.eq_zero_or_pos k with hz | hz
     · have HT':Hid ((List.range (k+1)).all (mdsAt d ms)=true):=rangeT_succ _ k hall.out (by rw [mdsAt_zero hz HXK.out];exact HCA.out)
       have hz1:¬ (0:Int)<(k:Int):=(by omega);have hz3:¬ 0<k:=(by omega);have hz4:decide (0<k)=false:=decide_eq_false hz3;clear HATS hz;go_wp2_with fail;have hCne:Nonempty (Wd (fun w'=>SameOn All wr w'∧Bz w w')):=⟨⟨wr.drew,⟨⟨Nat.le_refl _,fun _ _ _=>rfl⟩,HB.out.drew⟩⟩⟩;refine wp_region_class (fun w'=>SameOn All wr w'∧Bz w w') (by kernel_rfl) (by kernel_rfl) ⟨⟨Nat.le_refl _,fun _ _ _=>rfl⟩,HB.out.drew⟩ ?_
       repeat (go_big_quiet_step (first | (rename_i m;go_at_call 101;refine (specModuleOk_any d _ _ x (HMD.out _ m.ok.2)).mono ?_;rintro e w1 ⟨rfl,hb1⟩;exact ⟨by rw [HCA.out],⟨⟨w1,⟨m.ok.1.trans (sqO hb1),m.ok.2.trans (hb1.mono m.ok.2.size)⟩⟩,rfl⟩⟩)))
       refine wpQuiet_nil ?_;rintro _ ⟨mq,rfl⟩;have HB4:=hid mq.ok.2;have HS4:=hid mq.ok.1;generalize mq.val=w4 at HB4 HS4 ⊢;go_wp2_with fail;exact ⟨⟨k+1,by omega,by go_num,HT'.out,HB4.out⟩,by simp [intOf];omega⟩
     · obtain ⟨j,rfl⟩:∃ j,k=j+1:=⟨k - 1,by omega⟩
       obtain ⟨q,hqj,y0⟩:=HATS.out j rfl;have HAT:Hid (mdsAt d ms (j+1)=(true && Op.bytesLess q.name.toList x.name.toList)):=(by show _=_;rw [mdsAt_succ hqj HXK.out,HCA.out]);have qy0:∀ m:Wd (fun w'=>SameOn All wr w'∧Bz w w'),m.val.cell? ⟨g,off+j * 3,none⟩=some (.string q.name):=fun m=>(sqK (m.ok.1.2 g trivial hgw)).trans y0;have hji:(j:Int)<(n:Int):=(by omega);have hj0:=sqI j;have hj1:(0:Int)<(j:Int)+1:=(by omega);clear HATS hqj hz y0
       cases hlq:Op.bytesLess x.name.toList q.name.toList with
       | true =>
        have HF:Hid ((List.range n).all (mdsAt d ms)=false):=rangeT_at _ n (j+1) hlt (by rw [HAT.out,less_asym hlq];rfl);go_wp2_with fail;have hCne:Nonempty (Wd (fun w'=>SameOn All wr w'∧Bz w w')):=⟨⟨wr.drew,⟨⟨Nat.le_refl _,fun _ _ _=>rfl⟩,HB.out.drew⟩⟩⟩;refine wp_region_class (fun w'=>SameOn All wr w'∧Bz w w') (by kernel_rfl) (by kernel_rfl) ⟨⟨Nat.le_refl _,fun _ _ _=>rfl⟩,HB.out.drew⟩ ?_
        repeat (go_big_quiet_step (first | (rename_i m;go_at_call 101;refine (specModuleOk_any d _ _ x (HMD.out _ m.ok.2)).mono ?_;rintro e w1 ⟨rfl,hb1⟩;exact ⟨by rw [HCA.out],⟨⟨w1,⟨m.ok.1.trans (sqO hb1),m.ok.2.trans (hb1.mono m.ok.2.size)⟩⟩,rfl⟩⟩)))
        refine wpQuiet_nil ?_;rintro _ ⟨mq,rfl⟩;have HB4:=hid mq.ok.2;have HS4:=hid mq.ok.1;generalize mq.val=w4 at HB4 HS4 ⊢;go_wp2_with fail;go_ret;exact ⟨by rw [HF.out];simp,HB4.out⟩
       | false =>
        by_cases he:x.name=q.name
        · have HF:Hid ((List.range n).all (mdsAt d ms)=false):=rangeT_at _ n (j+1) hlt (by rw [HAT.out,he,bytesLess_self];rfl)
          rw [← he] at qy0 hlq;clear he;go_wp2_with fail;have hCne:Nonempty (Wd (fun w'=>SameOn All wr w'∧Bz w w')):=⟨⟨wr.drew,⟨⟨Nat.le_refl _,fun _ _ _=>rfl⟩,HB.out.drew⟩⟩⟩;refine wp_region_class (fun w'=>SameOn All wr w'∧Bz w w') (by kernel_rfl) (by kernel_rfl) ⟨⟨Nat.le_refl _,fun _ _ _=>rfl⟩,HB.out.drew⟩ ?_
          repeat (go_big_quiet_step (first | (rename_i m;go_at_call 101;refine (specModuleOk_any d _ _ x (HMD.out _ m.ok.2)).mono ?_;rintro e w1 ⟨rfl,hb1⟩;exact ⟨by rw [HCA.out],⟨⟨w1,⟨m.ok.1.trans (sqO hb1),m.ok.2.trans (hb1.mono m.ok.2.size)⟩⟩,rfl⟩⟩)))
          refine wpQuiet_nil ?_;rintro _ ⟨mq,rfl⟩;have HB4:=hid mq.ok.2;have HS4:=hid mq.ok.1;generalize mq.val=w4 at HB4 HS4 ⊢;go_wp2_with fail;go_ret;exact ⟨by rw [HF.out];simp,HB4.out⟩
        · have hq1:=str_ne he
          have hq2:=str_neB he;have HT':=hid (rangeT_succ _ (j+1) hall.out (by rw [HAT.out,less_flip hlq hq1];rfl));go_wp2_with fail;have hCne:Nonempty (Wd (fun w'=>SameOn All wr w'∧Bz w w')):=⟨⟨wr.drew,⟨⟨Nat.le_refl _,fun _ _ _=>rfl⟩,HB.out.drew⟩⟩⟩;refine wp_region_class (fun w'=>SameOn All wr w'∧Bz w w') (by kernel_rfl) (by kernel_rfl) ⟨⟨Nat.le_refl _,fun _ _ _=>rfl⟩,HB.out.drew⟩ ?_
          repeat (go_big_quiet_step (first | (rename_i m;go_at_call 101;refine (specModuleOk_any d _ _ x (HMD.out _ m.ok.2)).mono ?_;rintro e w1 ⟨rfl,hb1⟩;exact ⟨by rw [HCA.out],⟨⟨w1,⟨m.ok.1.trans (sqO hb1),m.ok.2.trans (hb1.mono m.ok.2.size)⟩⟩,rfl⟩⟩)))
          refine wpQuiet_nil ?_;rintro _ ⟨mq,rfl⟩;have HB4:=hid mq.ok.2;have HS4:=hid mq.ok.1;generalize mq.val=w4 at HB4 HS4 ⊢;go_wp2_with fail;exact ⟨⟨j+1+1,by omega,by go_num,HT'.out,HB4.out⟩,by simp [intOf];omega⟩
  · have HT:Hid ((List.range n).all (mdsAt d ms)=true):=by
     have:=hall.out
     rwa [show k=n by omega] at this
    clear hall;go_wp2;go_ret;exact ⟨by rw [HT.out];simp;omega,HB.out⟩
theorem implProgramOk_any (d:Nat) (w:World) (v:Value) (ms:List Md) (hT:Tabs w) (h:Rows w All 3 (HMd w All d) v ms) :
 Calls prog 108 #[v] w fun e w'=>e=.returned (.bool (pgOk d ms))∧Bz w w':=by
 have HTAB:=hid hT;clear hT;obtain ⟨p,cap,rfl,hcl,hcm,hx⟩:=h;have hv:pgOk d ms=(decide (ms.length≤10) && (List.range ms.length).all (mdsAt d ms)):=rfl;rw [hv];clear hv;generalize hn:ms.length=n at *;have HN:=hid hn;have HX:=hid hx;have hnb:=sqM hcl hcm;clear hx hn;by_cases h10:¬ n≤10
 · have h11:(10:Int)<(n:Int):=by omega
   rw [decide_eq_false h10];go_enter func108,ntmps108;go_wp2;go_ret;exact ⟨rfl,Below.refl _ _⟩
 replace h10:n≤10:=by omega
 have h11:¬ (10:Int)<(n:Int):=(by omega);rw [decide_eq_true h10];go_enter func108,ntmps108;go_wp2
 go_loopw [10] (fun iv wr=>∃ k:Nat,k≤n∧iv=.int .i64 k∧Hid ((List.range k).all (mdsAt d ms)=true)∧Bz w wr) (fun iv _=>n - (intOf iv).toNat)
 case atStart=>exact ⟨0,Nat.zero_le _,rfl,by show _=_;simp,Below.refl _ _⟩
 case round =>
  obtain ⟨k,hk,rfl,hall,hb⟩:=hrel;have HB:=hid hb;by_cases hlt:k<n
  · obtain ⟨x,hxk⟩:=sqA (l:=ms) (k:=k) HN.out hlt
    obtain ⟨g,off,rfl,-,hgl,hat⟩:=HX.out (sqE hxk);obtain ⟨cs,hcsl,hcs,hmd⟩:=hat k x hxk;have hgw:g<wr.heap.size:=Nat.lt_of_lt_of_le hgl hb.size
    have HATS:Hid (∀ j,k=j+1→∃ q:Md,ms[j]?=some q∧wr.cell? ⟨g,off+j * 3,none⟩=some (.string q.name)):=fun j hj=>by
     obtain ⟨q,hq⟩:∃ q,ms[j]?=some q:=⟨ms[j]'(by rw [HN.out];omega),List.getElem?_eq_getElem _⟩;obtain ⟨cs',_,hcs',ev,fv,rfl,_⟩:=hat j q hq;have b0:=hcs' 0 (by omega);rw [← hb.cell (p:=⟨g,_,none⟩) hgl] at b0;exact ⟨q,hq,by simpa using b0⟩
    have HMD:Hid (∀ w',Bz w w'→HMd w' All d cs x):=fun w' hw=>hmd.mono (sqO hw) (fun _ h=>h);obtain ⟨ev,fv,rfl,hxs,f0,f1⟩:=hmd;obtain ⟨pe,ce,rfl,-⟩:=f0;obtain ⟨pf,cf,rfl,-⟩:=f1;obtain ⟨a0,a1,a2⟩:=sqC3 hcs (by omega);rw [← hb.cell (p:=⟨g,_,none⟩) hgl] at a0 a1 a2;simp at a0 a1 a2;have hki:(k:Int)<(n:Int):=(by omega);have hk0:=sqI k;generalize hca:mdOk d x=ca at *;have HCA:=hid hca;have HXK:=hid hxk;obtain ⟨W5,hW5⟩:∃ W5,W5=wr.alloc (.cells #[.string x.name,.slice pe x.exports.length ce,.slice pf x.funs.length cf] 63):=⟨_,rfl⟩;have bF:Hid (Blk W5 wr.heap.size #[.string x.name,.slice pe x.exports.length ce,.slice pf x.funs.length cf] 63):=(by show Blk _ _ _ _;rw [hW5];exact Blk.new);have K5:Hid (Bz wr W5):=(by show Below _ _ _;rw [hW5];exact (sqN _ _));have B5:=hid (hb.trans (K5.out.mono hb.size));have HW5:=hid hW5;have hg5:g<W5.heap.size:=Nat.lt_of_lt_of_le hgw K5.out.size;obtain ⟨z0,z1,z2⟩:=sqB3 bF.out;have l2:=bF.out.lt;have qz0:∀ m:Wd (fun w'=>SameOn All W5 w'∧Bz w w'),m.val.cell? ⟨wr.heap.size,0,none⟩=some (.string x.name):=fun m=>(sqK (m.ok.1.2 wr.heap.size trivial l2)).trans z0;have qz1:∀ m:Wd (fun w'=>SameOn All W5 w'∧Bz w w'),m.val.cell? ⟨wr.heap.size,1,none⟩=some (.slice pe x.exports.length ce):=fun m=>(sqK (m.ok.1.2 wr.heap.size trivial l2)).trans z1;have qz2:∀ m:Wd (fun w'=>SameOn All W5 w'∧Bz w w'),m.val.cell? ⟨wr.heap.size,2,none⟩=some (.slice pf x.funs.length cf):=fun m=>(sqK (m.ok.1.2 wr.heap.size trivial l2)).trans z2;clear hb hcs hat hcsl hca hxk hW5 z0 z1 z2 l2
    cases ca with
    | false =>
     have HF:Hid ((List.range n).all (mdsAt d ms)=false):=rangeT_at _ n k hlt (mdsAt_bad HXK.out HCA.out);clear HATS;go_wp2_with fail;rw [← HW5.out];have hCne:Nonempty (Wd (fun w'=>SameOn All W5 w'∧Bz w w')):=⟨⟨W5.drew,⟨⟨Nat.le_refl _,fun _ _ _=>rfl⟩,B5.out.drew⟩⟩⟩;refine wp_region_class (fun w'=>SameOn All W5 w'∧Bz w w') (by kernel_rfl) (by kernel_rfl) ⟨⟨Nat.le_refl _,fun _ _ _=>rfl⟩,B5.out.drew⟩ ?_
     repeat (go_big_quiet_step (first | (rename_i m;go_at_call 150;refine (implModuleOk_any d _ _ x (HTAB.out.below m.ok.2) (HMD.out _ m.ok.2)).mono ?_;rintro e w1 ⟨rfl,hb1⟩;exact ⟨by rw [HCA.out],⟨⟨w1,⟨m.ok.1.trans (sqO hb1),m.ok.2.trans (hb1.mono m.ok.2.size)⟩⟩,rfl⟩⟩)))
     refine wpQuiet_nil ?_;rintro _ ⟨mq,rfl⟩;have HB4:=hid mq.ok.2;have HS4:=hid mq.ok.1;generalize mq.val=w4 at HB4 HS4 ⊢;go_wp2_with fail;go_ret;exact ⟨by rw [HF.out];simp,HB4.out⟩
    | true =>
     rcases Nat.eq_zero_or_pos k with hz | hz
     · have HT':Hid ((List.range (k+1)).all (mdsAt d ms)=true):=rangeT_succ _ k hall.out (by rw [mdsAt_zero hz HXK.out];exact HCA.out)
       have hz1:¬ (0:Int)<(k:Int):=(by omega);have hz3:¬ 0<k:=(by omega);have hz4:decide (0<k)=false:=decide_eq_false hz3;clear HATS hz;go_wp2_with fail;rw [← HW5.out];have hCne:Nonempty (Wd (fun w'=>SameOn All W5 w'∧Bz w w')):=⟨⟨W5.drew,⟨⟨Nat.le_refl _,fun _ _ _=>rfl⟩,B5.out.drew⟩⟩⟩;refine wp_region_class (fun w'=>SameOn All W5 w'∧Bz w w') (by kernel_rfl) (by kernel_rfl) ⟨⟨Nat.le_refl _,fun _ _ _=>rfl⟩,B5.out.drew⟩ ?_
       repeat (go_big_quiet_step (first | (rename_i m;go_at_call 150;refine (implModuleOk_any d _ _ x (HTAB.out.below m.ok.2) (HMD.out _ m.ok.2)).mono ?_;rintro e w1 ⟨rfl,hb1⟩;exact ⟨by rw [HCA.out],⟨⟨w1,⟨m.ok.1.trans (sqO hb1),m.ok.2.trans (hb1.mono m.ok.2.size)⟩⟩,rfl⟩⟩)))
       refine wpQuiet_nil ?_;rintro _ ⟨mq,rfl⟩;have HB4:=hid mq.ok.2;have HS4:=hid mq.ok.1;generalize mq.val=w4 at HB4 HS4 ⊢;go_wp2_with fail;exact ⟨⟨k+1,by omega,by go_num,HT'.out,HB4.out⟩,by simp [intOf];omega⟩
     · obtain ⟨j,rfl⟩:∃ j,k=j+1:=⟨k - 1,by omega⟩
       obtain ⟨q,hqj,y0⟩:=HATS.out j rfl;have HAT:Hid (mdsAt d ms (j+1)=(true && Op.bytesLess q.name.toList x.name.toList)):=(by show _=_;rw [mdsAt_succ hqj HXK.out,HCA.out]);have qy0:∀ m:Wd (fun w'=>SameOn All W5 w'∧Bz w w'),m.val.cell? ⟨g,off+j * 3,none⟩=some (.string q.name):=fun m=>(sqK (m.ok.1.2 g trivial hg5)).trans (cell_next K5.out y0);have hji:(j:Int)<(n:Int):=(by omega);have hj0:=sqI j;have hj1:(0:Int)<(j:Int)+1:=(by omega);clear HATS hqj hz y0
       cases hlq:Op.bytesLess q.name.toList x.name.toList with
       | false =>
        have HF:Hid ((List.range n).all (mdsAt d ms)=false):=rangeT_at _ n (j+1) hlt (by rw [HAT.out,hlq];rfl);go_wp2_with fail;rw [← HW5.out];have hCne:Nonempty (Wd (fun w'=>SameOn All W5 w'∧Bz w w')):=⟨⟨W5.drew,⟨⟨Nat.le_refl _,fun _ _ _=>rfl⟩,B5.out.drew⟩⟩⟩;refine wp_region_class (fun w'=>SameOn All W5 w'∧Bz w w') (by kernel_rfl) (by kernel_rfl) ⟨⟨Nat.le_refl _,fun _ _ _=>rfl⟩,B5.out.drew⟩ ?_
        repeat (go_big_quiet_step (first | (rename_i m;go_at_call 150;refine (implModuleOk_any d _ _ x (HTAB.out.below m.ok.2) (HMD.out _ m.ok.2)).mono ?_;rintro e w1 ⟨rfl,hb1⟩;exact ⟨by rw [HCA.out],⟨⟨w1,⟨m.ok.1.trans (sqO hb1),m.ok.2.trans (hb1.mono m.ok.2.size)⟩⟩,rfl⟩⟩)))
        refine wpQuiet_nil ?_;rintro _ ⟨mq,rfl⟩;have HB4:=hid mq.ok.2;have HS4:=hid mq.ok.1;generalize mq.val=w4 at HB4 HS4 ⊢;go_wp2_with fail;go_ret;exact ⟨by rw [HF.out];simp,HB4.out⟩
       | true =>
        have HT':=hid (rangeT_succ _ (j+1) hall.out (by rw [HAT.out,hlq];rfl));go_wp2_with fail;rw [← HW5.out];have hCne:Nonempty (Wd (fun w'=>SameOn All W5 w'∧Bz w w')):=⟨⟨W5.drew,⟨⟨Nat.le_refl _,fun _ _ _=>rfl⟩,B5.out.drew⟩⟩⟩;refine wp_region_class (fun w'=>SameOn All W5 w'∧Bz w w') (by kernel_rfl) (by kernel_rfl) ⟨⟨Nat.le_refl _,fun _ _ _=>rfl⟩,B5.out.drew⟩ ?_
        repeat (go_big_quiet_step (first | (rename_i m;go_at_call 150;refine (implModuleOk_any d _ _ x (HTAB.out.below m.ok.2) (HMD.out _ m.ok.2)).mono ?_;rintro e w1 ⟨rfl,hb1⟩;exact ⟨by rw [HCA.out],⟨⟨w1,⟨m.ok.1.trans (sqO hb1),m.ok.2.trans (hb1.mono m.ok.2.size)⟩⟩,rfl⟩⟩)))
        refine wpQuiet_nil ?_;rintro _ ⟨mq,rfl⟩;have HB4:=hid mq.ok.2;have HS4:=hid mq.ok.1;generalize mq.val=w4 at HB4 HS4 ⊢;go_wp2_with fail;exact ⟨⟨j+1+1,by omega,by go_num,HT'.out,HB4.out⟩,by simp [intOf];omega⟩
  · have HT:Hid ((List.range n).all (mdsAt d ms)=true):=by
     have:=hall.out
     rwa [show k=n by omega] at this
    clear hall;go_wp2;go_ret;exact ⟨by rw [HT.out];simp,HB.out⟩
end Go.Proofs.YtdhlonogmnkemaaGreatDoor
namespace Go.Proofs.YtdhlonogmnkemaaGreatDoor
open Go.ChangeShapes Go.WideShapes Go.ChangeAt Go.RowKit
set_option linter.unusedVariables false
set_option maxRecDepth 100000
def cCall:ByteArray:=⟨#[99,97,108,108]⟩
def cFar:ByteArray:=⟨#[102,97,114]⟩
def cLoose:ByteArray:=⟨#[108,111,111,115,101]⟩
def cExport:ByteArray:=⟨#[101,120,112,111,114,116]⟩
def findI {α:Type} (f:α→Bool) (xs:List α):Int:=match xs.findIdx? f with
 | some k=>k
 | none=>-1
theorem findI_none {α:Type} {f:α→Bool} {xs:List α} (h:xs.any f=false):findI f xs = -1:=by
 have:xs.findIdx? f=none:=by
  rw [List.findIdx?_eq_none_iff];intro x hx
  exact Bool.eq_false_iff.2 fun e=>by
   have:=List.any_eq_false.1 h x hx;exact this e
 simp [findI,this]
theorem findI_at {α:Type} {f:α→Bool} {xs:List α} {k:Nat} {x:α} (h:(xs.take k).any f=false) (hx:xs[k]?=some x) (hf:f x=true):findI f xs=k:=by
 have:xs.findIdx? f=some k:=by
  rw [List.findIdx?_eq_some_iff_getElem];obtain ⟨hk,he⟩:=List.getElem?_eq_some_iff.1 hx;refine ⟨hk,by rw [he];exact hf,fun j hj=>?_⟩;have:=List.any_eq_false.1 h (xs[j]) (List.mem_of_getElem? (i:=j) (by rw [List.getElem?_take,if_pos hj];exact List.getElem?_eq_getElem _));exact this
 simp [findI,this]
theorem findI_cases {α:Type} (f:α→Bool) (xs:List α):(xs.any f=false∧findI f xs = -1)∨(∃ k x,xs.any f=true∧xs[k]?=some x∧f x=true∧findI f xs=(k:Nat)∧xs.find? f=some x):=by
 cases h:xs.any f with
 | false=>exact Or.inl ⟨rfl,findI_none h⟩
 | true =>
  right
  rw [List.any_eq_true] at h;obtain ⟨x,hx,hf⟩:=h
  cases hi:xs.findIdx? f with
  | none =>
   rw [List.findIdx?_eq_none_iff] at hi;rw [hi x hx] at hf;cases hf
  | some k =>
   rw [List.findIdx?_eq_some_iff_getElem] at hi;obtain ⟨hk,hfk,hj⟩:=hi;refine ⟨k,xs[k],rfl,List.getElem?_eq_getElem _,hfk,?_,?_⟩
   · exact findI_at (x:=xs[k]) (by
      rw [List.any_eq_false];intro y hy;obtain ⟨j,hj'⟩:=List.mem_iff_getElem?.1 hy;rw [List.getElem?_take] at hj'
      split at hj'
      · rename_i hjk
        obtain ⟨h1,rfl⟩:=List.getElem?_eq_some_iff.1 hj'
        simpa using hj j hjk
      · cases hj') (List.getElem?_eq_getElem _) hfk
   · rw [List.find?_eq_some_iff_getElem]
     exact ⟨hfk,k,hk,rfl,fun j hj'=>by simpa using hj j hj'⟩
def hasF (m:Md) (s:ByteArray) (n:Int):Bool:=m.funs.any (sameR ⟨s,n⟩)
def sameRf (s:ByteArray) (n:Int) (q:Rf):Bool:=q.name.toList == s.toList && q.arity == n
def hasX (m:Md) (s:ByteArray) (n:Int):Bool:=m.exports.any (sameRf s n)
def named (s:ByteArray) (m:Md):Bool:=m.name.toList == s.toList
def isPutB (s:ByteArray) (n:Int):Bool:=s.toList == [112,117,116] && n == 1
def offersB (ms:List Md) (mod s:ByteArray) (n:Int):Bool:=match ms.find? (named mod) with
 | none=>false
 | some q=>hasX q s n && hasF q s n
def callC (ms:List Md) (m:Md) (x:Ex):ByteArray :=
 if x.mod.toList = [] then (if hasF m x.text x.kids.length || isPutB x.text x.kids.length then ⟨#[]⟩ else cCall)
 else (if offersB ms x.mod x.text x.kids.length then ⟨#[]⟩ else cFar)
def callL (ms:List Md) (m:Md) (x:Ex):List ByteArray:=if x.kind=8 then (if (callC ms m x).toList = [] then [] else [callC ms m x]) else []
def bodiesOf (cl:List Cl):List Ex:=cl.flatMap fun c:Cl=>c.2
theorem bodiesOf_snoc (cl:List Cl) (k:Nat) (c:Cl) (h:cl[k]?=some c):bodiesOf (cl.take (k+1))=bodiesOf (cl.take k) ++ c.2:=by
 unfold bodiesOf;rw [List.take_add_one,h];simp
theorem bodiesOf_le (cl:List Cl) (k:Nat):(bodiesOf (cl.take k)).length≤(bodiesOf cl).length:=by
 conv=>rhs;rw [← List.take_append_drop k cl]
 unfold bodiesOf;rw [List.flatMap_append,List.length_append];omega
def withinX (x:Ex):List Ex:=x.kids ++ bodiesOf x.clauses
def codesX (ms:List Md) (m:Md):Nat→Ex→List ByteArray
 | 0,_=>[]
 | d+1,x=>callL ms m x ++ (withinX x).flatMap (codesX ms m d)
end Go.Proofs.YtdhlonogmnkemaaGreatDoor
namespace Go.Proofs.YtdhlonogmnkemaaGreatDoor
open Go.ChangeShapes Go.WideShapes Go.ChangeAt Go.RowKit Go.Proofs.Tryz
set_option linter.unusedVariables false
set_option maxRecDepth 100000
structure Pl where
 mod:ByteArray
 name:ByteArray
 arity:Int
 clause:Int
def wtPl (q:Pl):Nat:=q.mod.size+q.name.size
theorem szPlace_any (w:World) (q:Pl) (r:Nat) (hr:r≤16777216) (h0:okS q.mod) (h1:okS q.name) :
 Calls prog 6 #[.agg #[.string q.mod,.string q.name,.int .i64 q.arity,.int .i64 q.clause],.int .i64 r] w fun e w'=>e=.returned (.int .i64 (leftOf r (wtPl q)))∧Bz w w':=by
 obtain ⟨m,s,n,c⟩:=q;simp only [okS,maxLen] at h0 h1;have HW:Hid (wtPl ⟨m,s,n,c⟩=m.size+s.size):=rfl;generalize wtPl ⟨m,s,n,c⟩=W at *;have BL:Hid (∀ (cs:Array Value) (t:TypeId),Bz w (w.alloc (.cells cs t))):=fun cs t=>(sqN _ _);by_cases t0:r<m.size
 · have HR:Hid (leftOf r W = -1):=leftOf_lt (by rw [HW.out];omega)
   go_enter func6,ntmps6;go_wp2_with fail;go_ret;exact ⟨by rw [HR.out];rfl,BL.out _ _⟩
 · by_cases t1:r<m.size+s.size
   · have HR:Hid (leftOf r W = -1):=leftOf_lt (by rw [HW.out];omega)
     go_enter func6,ntmps6;go_wp2_with fail;go_ret;exact ⟨by rw [HR.out];rfl,BL.out _ _⟩
   · have HR:Hid (leftOf r W=r - m.size - s.size):=by
      show leftOf r W=_;rw [leftOf_ge (by rw [HW.out];omega),HW.out];omega
     go_enter func6,ntmps6;go_wp2_with fail;go_ret;exact ⟨by rw [HR.out];rfl,BL.out _ _⟩
theorem toPlace_any (w:World) (q:Pl) :
 Calls prog 9 #[.agg #[.string q.mod,.string q.name,.int .i64 q.arity,.int .i64 q.clause]] w fun e w'=>e=.returned (.agg #[.string q.mod,.string q.name,.int .i64 q.arity,.int .i64 q.clause])∧Bz w w':=by
 obtain ⟨m,s,n,c⟩:=q;have BL:Hid (∀ (cs cs':Array Value) (t t':TypeId),Bz w ((w.alloc (.cells cs t)).alloc (.cells cs' t'))):=fun cs cs' t t'=>((sqN _ _)).alloc (by simp) _
 have RB:Hid (∀ (cs cs':Array Value) (t t':TypeId),Blk (((w.alloc (.cells cs t)).alloc (.cells #[.string m,.string s,.int .i64 n,.int .i64 c] 31)).alloc (.cells cs' t')) (w.heap.size+1) #[.string m,.string s,.int .i64 n,.int .i64 c] 31):=fun cs cs' t t'=>by
  have:=Blk.new (w:=w.alloc (.cells cs t)) (cs:=#[.string m,.string s,.int .i64 n,.int .i64 c]) (t:=31);rw [alloc_hs] at this;exact this.alloc
 have BL3:Hid (∀ (cs cs' cs'':Array Value) (t t' t'':TypeId),Bz w (((w.alloc (.cells cs t)).alloc (.cells cs' t')).alloc (.cells cs'' t''))):=fun cs cs' cs'' t t' t''=>(((sqN _ _)).alloc (by simp only [alloc_hs];omega) _).alloc (by simp only [alloc_hs];omega) _;go_enter func9,ntmps9;go_wp2_with fail;have q:=RB.out #[.string m,.string s,.int .i64 n,.int .i64 c] #[.string m,.string s,.int .i64 n,.int .i64 c] 24 31;obtain ⟨q0,q1,q2,q3⟩:=sqB4 q;exact bodyPost_ret (v:=.agg #[.string m,.string s,.int .i64 n,.int .i64 c]) (by simp [results,results9,go_sem,q0,q1,q2,q3]) rfl ⟨rfl,BL3.out _ _ _ _ _ _⟩
end Go.Proofs.YtdhlonogmnkemaaGreatDoor
namespace Go.Proofs.YtdhlonogmnkemaaGreatDoor
open Go.ChangeShapes Go.WideShapes Go.ChangeAt Go.RowKit
set_option linter.unusedVariables false
set_option maxRecDepth 100000
def foldV {α:Type} (f:α→List ByteArray) (l:List ByteArray) (ks:List α):List ByteArray:=ks.foldl (fun acc y=>onceS acc (f y)) l
theorem foldV_snoc {α:Type} (f:α→List ByteArray) (l:List ByteArray) (ks:List α) (k:Nat) (y:α) (h:ks[k]?=some y):foldV f l (ks.take (k+1))=onceS (foldV f l (ks.take k)) (f y):=by
 unfold foldV;rw [List.take_add_one,h];simp
theorem foldV_len {α:Type} (f:α→List ByteArray) (wt:α→Nat):∀ (ks:List α) (l:List ByteArray),(∀ y ∈ ks,(f y).length≤1+wt y)→(foldV f l ks).length≤l.length+wtS wt ks
 | [],l,_=>by simp [foldV]
 | y :: ys,l,h=>by
  have h1:=foldV_len f wt ys (onceS l (f y)) (fun z hz=>h z (by simp [hz]));have h2:=onceS_length l (f y);have h3:=h y (by simp);have h4:wtS wt (y :: ys)=1+wt y+wtS wt ys:=(by simp [wtS];omega);have h5:foldV f l (y :: ys)=foldV f (onceS l (f y)) ys:=rfl;rw [h5,h4];omega
theorem foldV_mem {α:Type} (f:α→List ByteArray):∀ (ks:List α) (l:List ByteArray),∀ s ∈ foldV f l ks,s ∈ l∨∃ y ∈ ks,s ∈ f y
 | [],l,s,h=>.inl h
 | y :: ys,l,s,h=>by
  rcases foldV_mem f ys (onceS l (f y)) s h with h | ⟨z,hz,hs⟩
  · rcases onceS_mem l (f y) s h with h | h
    · exact .inl h
    · exact .inr ⟨y,by simp,h⟩
  · exact .inr ⟨z,by simp [hz],hs⟩
def patV:Nat→Ex→List ByteArray
 | 0,_=>[]
 | d+1,.mk k n t m ks cs=>foldV (patV d) (if k=2 then [t] else []) ks
theorem patV_len:∀ (d:Nat) (x:Ex),(patV d x).length≤1+wtEx d x
 | 0,_=>by simp [patV]
 | d+1,.mk k n t m ks cs=>by
  have h1:=foldV_len (patV d) (wtEx d) ks (if k=2 then [t] else []) (fun y _=>patV_len d y)
  have h2:(if k=2 then [t] else ([]:List ByteArray)).length≤1:=by split <;> simp
  have hw:wtEx (d+1) (.mk k n t m ks cs)=t.size+m.size+wtS (wtEx d) ks+wtS (wtCl (wtEx d)) cs:=rfl;have h3:patV (d+1) (.mk k n t m ks cs)=foldV (patV d) (if k=2 then [t] else []) ks:=rfl;rw [h3,hw];omega
def bndV:Nat→Ex→List ByteArray
 | 0,_=>[]
 | d+1,.mk k n t m ks cs=>match k,ks with
  | 9,[a,b]=>onceS (bndV d b) (patV d a)
  | _,ks=>foldV (bndV d) [] ks
def exS:Nat→Ex→Prop
 | 0,_=>False
 | d+1,.mk k n t m ks cs=>okS t∧(∀ y ∈ ks,exS d y)∧∀ c ∈ cs,(∀ y ∈ c.1,exS d y)∧∀ y ∈ c.2,exS d y
theorem rows_mem' {α:Type} {w:World} {S:Nat→Prop} {c:Nat} {R:List Value→α→Prop} {v:Value} {es:List α} (h:Rows w S c R v es):∀ y ∈ es,∃ cs,R cs y:=by
 intro y hy;obtain ⟨p,cap,_,_,_,hr⟩:=h;obtain ⟨i,hi⟩:=List.mem_iff_getElem?.1 hy;obtain ⟨g,off,_,_,_,hat⟩:=hr (by intro e;rw [e] at hi;simp at hi);obtain ⟨cs,_,_,hv⟩:=hat i y hi;exact ⟨cs,hv⟩
theorem HEx.txts {w:World} {S:Nat→Prop}:∀ {d:Nat} {cs:List Value} {x:Ex},HEx w S d cs x→exS d x
 | 0,_,_,h=>h.elim
 | d+1,cs,.mk k n t m ks cl,h=>by
  obtain ⟨kv,cv,rfl,h1,h2,h3,h4,f0,f1⟩:=h;refine ⟨h3,fun y hy=>?_,fun c hc=>?_⟩
  · obtain ⟨_,hv⟩:=rows_mem' f0 y hy
    exact hv.txts
  · obtain ⟨_,p,b,_,g0,g1⟩:=rows_mem' f1 c hc
    exact ⟨fun y hy=>by obtain ⟨_,hv⟩:=rows_mem' g0 y hy;exact hv.txts,fun y hy=>by obtain ⟨_,hv⟩:=rows_mem' g1 y hy;exact hv.txts⟩
theorem patV_ok:∀ (d:Nat) (x:Ex),exS d x→∀ s ∈ patV d x,okS s
 | 0,_,h,_,_=>h.elim
 | d+1,.mk k n t m ks cs,h,s,hs=>by
  rcases foldV_mem (patV d) ks _ s hs with h1 | ⟨y,hy,h1⟩
  · split at h1
    · simp at h1;subst h1;exact h.1
    · simp at h1
  · exact patV_ok d y (h.2.1 y hy) s h1
abbrev keyS (s:ByteArray):List UInt8:=s.toList
def NdK (l:List ByteArray):Prop:=(l.map keyS).Nodup
def SubK (l:List ByteArray) (m:List (List UInt8)):Prop:=∀ s ∈ l,keyS s ∈ m
theorem nodup_len {α:Type} [BEq α] [LawfulBEq α]:∀ (l m:List α),l.Nodup→(∀ x ∈ l,x ∈ m)→l.length≤m.length
 | [],m,_,_=>Nat.zero_le _
 | x :: xs,m,hn,hs=>by
  have hx:x ∈ m:=hs x (by simp);rw [List.nodup_cons] at hn;have h1:=nodup_len xs (m.erase x) hn.2 (fun y hy=>(List.mem_erase_of_ne (by intro e;subst e;exact hn.1 hy)).2 (hs y (by simp [hy])));have h2:=List.length_erase_of_mem hx;have h3:0<m.length:=List.length_pos_of_mem hx;simp only [List.length_cons];omega
theorem NdK.len {l:List ByteArray} {m:List (List UInt8)} (h:NdK l) (hs:SubK l m):l.length≤m.length:=by
 have:=nodup_len (l.map keyS) m h (fun x hx=>by
  obtain ⟨s,hs',rfl⟩:=List.mem_map.1 hx
  exact hs s hs')
 simpa using this
theorem hasS_mem (l:List ByteArray) (s:ByteArray):hasS l s=true ↔ keyS s ∈ l.map keyS:=by
 unfold hasS;rw [List.any_eq_true,List.mem_map]
 constructor
 · rintro ⟨x,hx,e⟩;exact ⟨x,hx,beq_iff_eq.1 e⟩
 · rintro ⟨x,hx,e⟩;exact ⟨x,hx,beq_iff_eq.2 e⟩
theorem onceS_nd:∀ (ys l:List ByteArray),NdK l→NdK (onceS l ys)
 | [],l,h=>h
 | y :: ys,l,h=>by
  refine onceS_nd ys _ ?_
  split
  · exact h
  · rename_i hy
    unfold NdK at *;rw [List.map_append,List.nodup_append];refine ⟨h,by simp,fun a ha b hb=>?_⟩;simp at hb;subst hb;intro e;subst e;exact hy ((hasS_mem l y).2 ha)
theorem onceS_left:∀ (ys l:List ByteArray) (k:List UInt8),k ∈ l.map keyS→k ∈ (onceS l ys).map keyS
 | [],l,k,h=>h
 | y :: ys,l,k,h=>by
  refine onceS_left ys _ k ?_
  split
  · exact h
  · rw [List.map_append];exact List.mem_append_left _ h
theorem onceS_right:∀ (ys l:List ByteArray) (k:List UInt8),k ∈ ys.map keyS→k ∈ (onceS l ys).map keyS
 | [],l,k,h=>by simp at h
 | y :: ys,l,k,h=>by
  simp only [List.map_cons,List.mem_cons] at h
  rcases h with rfl | h
  · refine onceS_left ys _ _ ?_
    split
    · rename_i hy;exact (hasS_mem l y).1 hy
    · simp
  · exact onceS_right ys _ k h
theorem foldV_nd {α:Type} (f:α→List ByteArray):∀ (ks:List α) (l:List ByteArray),NdK l→NdK (foldV f l ks)
 | [],l,h=>h
 | y :: ys,l,h=>foldV_nd f ys _ (onceS_nd _ _ h)
theorem foldV_left {α:Type} (f:α→List ByteArray):∀ (ks:List α) (l:List ByteArray) (k:List UInt8),k ∈ l.map keyS→k ∈ (foldV f l ks).map keyS
 | [],l,k,h=>h
 | y :: ys,l,k,h=>foldV_left f ys _ k (onceS_left _ _ k h)
theorem foldV_right {α:Type} (f:α→List ByteArray):∀ (ks:List α) (l:List ByteArray) (y:α),y ∈ ks→∀ k,k ∈ (f y).map keyS→k ∈ (foldV f l ks).map keyS
 | [],l,y,hy,k,h=>by simp at hy
 | z :: ys,l,y,hy,k,h=>by
  rcases List.mem_cons.1 hy with rfl | hy
  · exact foldV_left f ys _ k (onceS_right _ _ k h)
  · exact foldV_right f ys _ y hy k h
def varL:Nat→Ex→List (List UInt8)
 | 0,_=>[]
 | d+1,.mk k n t m ks cs=>(if k=2 then [keyS t] else []) ++ (ks.flatMap (varL d) ++ cs.flatMap fun c=>c.1.flatMap (varL d) ++ c.2.flatMap (varL d))
theorem flat_len {α:Type} (f:α→List (List UInt8)) (wt:α→Nat):∀ (ks:List α),(∀ y ∈ ks,(f y).length≤1+wt y)→(ks.flatMap f).length≤wtS wt ks
 | [],_=>by simp [wtS]
 | y :: ys,h=>by
  have h1:=flat_len f wt ys (fun z hz=>h z (by simp [hz]));have h2:=h y (by simp);have h4:wtS wt (y :: ys)=1+wt y+wtS wt ys:=(by simp [wtS];omega);rw [List.flatMap_cons,List.length_append,h4];omega
theorem varL_len:∀ (d:Nat) (x:Ex),(varL d x).length≤1+wtEx d x
 | 0,_=>by simp [varL]
 | d+1,.mk k n t m ks cs=>by
  have h1:=flat_len (varL d) (wtEx d) ks (fun y _=>varL_len d y)
  have h2:(if k=2 then [keyS t] else ([]:List (List UInt8))).length≤1:=by split <;> simp
  have h3:=flat_len (fun c:Cl=>c.1.flatMap (varL d) ++ c.2.flatMap (varL d)) (wtCl (wtEx d)) cs (fun c _=>by
   have g1:=flat_len (varL d) (wtEx d) c.1 (fun y _=>varL_len d y);have g2:=flat_len (varL d) (wtEx d) c.2 (fun y _=>varL_len d y);rw [List.length_append];have:wtCl (wtEx d) c=wtS (wtEx d) c.1+wtS (wtEx d) c.2:=rfl
   omega)
  have hw:wtEx (d+1) (.mk k n t m ks cs)=t.size+m.size+wtS (wtEx d) ks+wtS (wtCl (wtEx d)) cs:=rfl;have hv:varL (d+1) (.mk k n t m ks cs)=(if k=2 then [keyS t] else []) ++ (ks.flatMap (varL d) ++ cs.flatMap fun c=>c.1.flatMap (varL d) ++ c.2.flatMap (varL d)):=rfl;have h5:(cs.flatMap fun c=>c.1.flatMap (varL d) ++ c.2.flatMap (varL d)).length≤wtS (wtCl (wtEx d)) cs:=h3;rw [hv,hw,List.length_append,List.length_append];exact Nat.le_trans (Nat.add_le_add h2 (Nat.add_le_add h1 h5)) (by omega)
theorem patV_nd (d:Nat) (x:Ex):NdK (patV d x):=by
 cases d with
 | zero=>simp [patV,NdK]
 | succ d =>
  obtain ⟨k,n,t,m,ks,cs⟩:=x;refine foldV_nd _ _ _ ?_
  split <;> simp [NdK]
theorem patV_sub:∀ (d:Nat) (x:Ex),SubK (patV d x) (varL d x)
 | 0,_=>fun s hs=>by simp [patV] at hs
 | d+1,.mk k n t m ks cs=>fun s hs=>by
  have hv:varL (d+1) (.mk k n t m ks cs)=(if k=2 then [keyS t] else []) ++ (ks.flatMap (varL d) ++ cs.flatMap fun c=>c.1.flatMap (varL d) ++ c.2.flatMap (varL d)):=rfl;rw [hv]
  rcases foldV_mem (patV d) ks _ s hs with h | ⟨y,hy,h⟩
  · split at h
    · rename_i hk
      simp at h;subst h;simp [hk]
    · simp at h
  · exact List.mem_append_right _ (List.mem_append_left _ (List.mem_flatMap.2 ⟨y,hy,patV_sub d y s h⟩))
def allC (f:Ex→List ByteArray) (acc:List ByteArray) (c:Cl):List ByteArray:=foldV f (foldV f acc c.1) c.2
def allV:Nat→Ex→List ByteArray
 | 0,_=>[]
 | d+1,.mk k n t m ks cs=>cs.foldl (allC (allV d)) (foldV (allV d) (patV (d+1) (.mk k n t m ks cs)) ks)
theorem foldC_nd (f:Ex→List ByteArray):∀ (cs:List Cl) (l:List ByteArray),NdK l→NdK (cs.foldl (allC f) l)
 | [],l,h=>h
 | c :: cs,l,h=>foldC_nd f cs _ (foldV_nd _ _ _ (foldV_nd _ _ _ h))
theorem foldC_left (f:Ex→List ByteArray):∀ (cs:List Cl) (l:List ByteArray) (k:List UInt8),k ∈ l.map keyS→k ∈ (cs.foldl (allC f) l).map keyS
 | [],l,k,h=>h
 | c :: cs,l,k,h=>foldC_left f cs _ k (foldV_left _ _ _ k (foldV_left _ _ _ k h))
theorem foldC_right (f:Ex→List ByteArray):∀ (cs:List Cl) (l:List ByteArray) (c:Cl),c ∈ cs→∀ y,(y ∈ c.1∨y ∈ c.2)→∀ k,k ∈ (f y).map keyS→k ∈ (cs.foldl (allC f) l).map keyS
 | [],l,c,hc,y,hy,k,h=>by simp at hc
 | b :: cs,l,c,hc,y,hy,k,h=>by
  rcases List.mem_cons.1 hc with rfl | hc
  · refine foldC_left f cs _ k ?_
    rcases hy with hy | hy
    · exact foldV_left _ _ _ k (foldV_right _ _ _ y hy k h)
    · exact foldV_right _ _ _ y hy k h
  · exact foldC_right f cs _ c hc y hy k h
theorem foldC_mem (f:Ex→List ByteArray):∀ (cs:List Cl) (l:List ByteArray),∀ s ∈ cs.foldl (allC f) l,s ∈ l∨∃ c ∈ cs,∃ y,(y ∈ c.1∨y ∈ c.2)∧s ∈ f y
 | [],l,s,h=>.inl h
 | c :: cs,l,s,h=>by
  rcases foldC_mem f cs (allC f l c) s h with h | ⟨b,hb,y,hy,hs⟩
  · rcases foldV_mem f c.2 _ s h with h | ⟨y,hy,hs⟩
    · rcases foldV_mem f c.1 _ s h with h | ⟨y,hy,hs⟩
      · exact .inl h
      · exact .inr ⟨c,by simp,y,.inl hy,hs⟩
    · exact .inr ⟨c,by simp,y,.inr hy,hs⟩
  · exact .inr ⟨b,by simp [hb],y,hy,hs⟩
theorem allV_nd (d:Nat) (x:Ex):NdK (allV d x):=by
 cases d with
 | zero=>simp [allV,NdK]
 | succ d =>
  obtain ⟨k,n,t,m,ks,cs⟩:=x;exact foldC_nd _ _ _ (foldV_nd _ _ _ (patV_nd _ _))
theorem varL_kid {d:Nat} {k n:Int} {t m:ByteArray} {ks:List Ex} {cs:List Cl} {y:Ex} (hy:y ∈ ks) {z:List UInt8} (h:z ∈ varL d y):z ∈ varL (d+1) (.mk k n t m ks cs):=by
 show z ∈ (if k=2 then [keyS t] else []) ++ (ks.flatMap (varL d) ++ cs.flatMap fun c=>c.1.flatMap (varL d) ++ c.2.flatMap (varL d));exact List.mem_append_right _ (List.mem_append_left _ (List.mem_flatMap.2 ⟨y,hy,h⟩))
theorem varL_cl {d:Nat} {k n:Int} {t m:ByteArray} {ks:List Ex} {cs:List Cl} {c:Cl} (hc:c ∈ cs) {y:Ex} (hy:y ∈ c.1∨y ∈ c.2) {z:List UInt8} (h:z ∈ varL d y):z ∈ varL (d+1) (.mk k n t m ks cs):=by
 show z ∈ (if k=2 then [keyS t] else []) ++ (ks.flatMap (varL d) ++ cs.flatMap fun c=>c.1.flatMap (varL d) ++ c.2.flatMap (varL d));refine List.mem_append_right _ (List.mem_append_right _ (List.mem_flatMap.2 ⟨c,hc,?_⟩))
 rcases hy with hy | hy
 · exact List.mem_append_left _ (List.mem_flatMap.2 ⟨y,hy,h⟩)
 · exact List.mem_append_right _ (List.mem_flatMap.2 ⟨y,hy,h⟩)
structure Got (d:Nat) (x:Ex) (l:List ByteArray):Prop where
 nd:NdK l
 sub:SubK l (varL d x)
 ok:∀ s ∈ l,okS s
theorem Got.len {d:Nat} {x:Ex} {l:List ByteArray} (h:Got d x l) (hw:wtEx d x≤16777216):l.length≤16777217:=by
 have h1:=h.nd.len h.sub;have h2:=varL_len d x;omega
theorem allV_sub:∀ (d:Nat) (x:Ex),SubK (allV d x) (varL d x)
 | 0,_=>fun s hs=>by simp [allV] at hs
 | d+1,.mk k n t m ks cs=>fun s hs=>by
  rcases foldC_mem (allV d) cs _ s hs with h | ⟨c,hc,y,hy,h⟩
  · rcases foldV_mem (allV d) ks _ s h with h | ⟨y,hy,h⟩
    · exact patV_sub (d+1) _ s h
    · exact varL_kid hy (allV_sub d y s h)
  · exact varL_cl hc hy (allV_sub d y s h)
theorem allV_ok:∀ (d:Nat) (x:Ex),exS d x→∀ s ∈ allV d x,okS s
 | 0,_,h,_,_=>h.elim
 | d+1,.mk k n t m ks cs,h,s,hs=>by
  rcases foldC_mem (allV d) cs _ s hs with h1 | ⟨c,hc,y,hy,h1⟩
  · rcases foldV_mem (allV d) ks _ s h1 with h1 | ⟨y,hy,h1⟩
    · exact patV_ok (d+1) _ h s h1
    · exact allV_ok d y (h.2.1 y hy) s h1
  · rcases hy with hy | hy
    · exact allV_ok d y ((h.2.2 c hc).1 y hy) s h1
    · exact allV_ok d y ((h.2.2 c hc).2 y hy) s h1
theorem allV_got {d:Nat} {x:Ex} (h:exS d x):Got d x (allV d x):=⟨allV_nd d x,allV_sub d x,allV_ok d x h⟩
theorem allV_all:∀ (d:Nat) (x:Ex) (z:List UInt8),z ∈ varL d x→z ∈ (allV d x).map keyS
 | 0,_,z,h=>by simp [varL] at h
 | d+1,.mk k n t m ks cs,z,h=>by
  have hv:varL (d+1) (.mk k n t m ks cs)=(if k=2 then [keyS t] else []) ++ (ks.flatMap (varL d) ++ cs.flatMap fun c=>c.1.flatMap (varL d) ++ c.2.flatMap (varL d)):=rfl;rw [hv] at h
  rcases List.mem_append.1 h with h | h
  · refine foldC_left _ _ _ _ (foldV_left _ _ _ _ ?_)
    split at h
    · rename_i hk
      simp at h;subst h;refine foldV_left _ _ _ _ ?_;simp [hk]
    · simp at h
  · rcases List.mem_append.1 h with h | h
    · obtain ⟨y,hy,h⟩:=List.mem_flatMap.1 h
      exact foldC_left _ _ _ _ (foldV_right _ _ _ y hy _ (allV_all d y z h))
    · obtain ⟨c,hc,h⟩:=List.mem_flatMap.1 h
      rcases List.mem_append.1 h with h | h
      · obtain ⟨y,hy,h⟩:=List.mem_flatMap.1 h
        exact foldC_right _ _ _ c hc y (.inl hy) _ (allV_all d y z h)
      · obtain ⟨y,hy,h⟩:=List.mem_flatMap.1 h
        exact foldC_right _ _ _ c hc y (.inr hy) _ (allV_all d y z h)
end Go.Proofs.YtdhlonogmnkemaaGreatDoor
namespace Go.Proofs.YtdhlonogmnkemaaGreatDoor
open Go.ChangeShapes Go.WideShapes Go.ChangeAt Go.RowKit Go.Proofs.Tryz
set_option linter.unusedVariables false
set_option maxRecDepth 100000
theorem anyT_succ' {α:Type} (f:α→Bool) (xs:List α) (k:Nat) (x:α) (h:xs[k]?=some x) (ht:(xs.take k).any f=false) (hx:f x=false):(xs.take (k+1)).any f=false:=by
 rw [List.take_add_one,h,List.any_append,ht];simp [hx]
theorem anyT_at' {α:Type} (f:α→Bool) (xs:List α) (k:Nat) (x:α) (h:xs[k]?=some x) (hx:f x=true):xs.any f=true:=by
 rw [List.any_eq_true];exact ⟨x,List.mem_of_getElem? h,hx⟩
theorem hasS_any (w:World) (v:Value) (xs:List ByteArray) (s:ByteArray) (h:StrR w v xs) :
 Calls prog 20 #[v,.string s] w fun e w'=>e=.returned (.bool (hasS xs s))∧w'=w:=by
 have hv:hasS xs s=xs.any (fun x=>x.toList == s.toList):=rfl;rw [hv];clear hv;obtain ⟨p,cap,rfl,hcl,hcm,hx⟩:=h;have hnb:=sqM hcl hcm;generalize hn:xs.length=n at *;have HN:=hid hn;have HX:=hid hx;clear hx hn;go_enter func20,ntmps20;go_wp2
 go_loop [5] (fun iv=>∃ k:Nat,k≤n∧iv=.int .i64 k∧Hid ((xs.take k).any (fun x=>x.toList == s.toList)=false)) (fun iv=>n - (intOf iv).toNat)
 case atStart=>exact ⟨0,Nat.zero_le _,rfl,by show _=_;simp⟩
 case round =>
  obtain ⟨k,hk,rfl,hno⟩:=hrel;by_cases hlt:k<n
  · obtain ⟨x,hxk⟩:=sqA (l:=xs) (k:=k) HN.out hlt
    obtain ⟨g,off,rfl,-,hgl,hat⟩:=HX.out (sqE hxk);obtain ⟨cs,hcsl,hcs,rfl,-⟩:=hat k x hxk;have a0:=hcs 0 (by omega);simp at a0;have hki:(k:Int)<(n:Int):=(by omega);have hk0:=sqI k;clear hcs hat hcsl
    cases hq:(x.toList == s.toList) with
    | true =>
     have HS:Hid ((xs.any fun x=>x.toList == s.toList)=true):=anyT_at' _ xs k x hxk hq;go_wp2;go_ret;exact ⟨by rw [HS.out];rfl,rfl⟩
    | false =>
     have HS:Hid ((xs.take (k+1)).any (fun x=>x.toList == s.toList)=false):=anyT_succ' _ xs k x hxk hno.out hq;go_wp2
     go_round
     case rel=>exact ⟨k+1,by omega,by go_num,HS⟩
     case measure=>simp [intOf];omega
  · have HS:Hid ((xs.any fun x=>x.toList == s.toList)=false):=by
     have:=hno.out
     rwa [List.take_of_length_le (by rw [HN.out];omega)] at this
    go_wp2;go_ret;exact ⟨by rw [HS.out];rfl,rfl⟩
theorem one_str (W:World) (s:ByteArray) (g:Nat) (hg:g=W.heap.size):∀ j u,(strs [s])[j]?=some u→(W.alloc (.cells #[.string s] 9)).cell? ((⟨g,0,none⟩:Addr).add j)=some u:=by
 subst hg;intro j u h
 match j,h with
 | 0,h=>simp [strs] at h;subst h;rw [Addr.add];exact cell_new W _ _ 0 _ rfl
theorem once_any (w:World) (v1 v2:Value) (xs ys:List ByteArray) (h1:StrV w v1 xs) (h2:StrR w v2 ys) (hl:xs.length+ys.length≤134217728) :
 Calls prog 58 #[v1,v2] w fun e w'=>∃ u,e=.returned u∧OwnS w' w.heap.size u (onceS xs ys)∧Bz w w':=by
 obtain ⟨h1,hnil⟩:=h1;have OX:=h1.okS;have OY:=h2.okS;obtain ⟨p,cap,rfl,hcl,hcm,hx⟩:=h1;obtain ⟨q,cap',rfl,hcl',hcm',hy⟩:=h2;obtain ⟨i,hi,hz0,hz1,hz2⟩:=info_parts info_str;have hlx:xs.length≤134217728:=(by omega);have hly:ys.length≤134217728:=(by omega)
 have LQ:Hid (∀ k,(onceS xs (ys.take k)).length≤134217728):=fun k=>by
  have h3:=onceS_length xs (ys.take k);have h4:(ys.take k).length≤ys.length:=(by rw [List.length_take];omega);omega
 have OQ:Hid (∀ k,∀ x ∈ onceS xs (ys.take k),okS x):=fun k x hx=>by
  rcases onceS_mem _ _ x hx with h | h
  · exact OX x h
  · exact OY x (List.mem_of_mem_take h)
 have HY:=hid hy;have O0:Hid (OwnS (w.alloc (.cells #[] 9)) w.heap.size (.slice (some ⟨w.heap.size,0,none⟩) 0 0) []):=OwnS.fresh;have BL:Hid (Bz w (w.alloc (.cells #[] 9))):=(sqN _ _)
 have HC:Hid (∀ a,p=some a→∀ j u,(strs xs)[j]?=some u→(w.alloc (.cells #[] 9)).cell? (a.add j)=some u):=fun a ha j u hj=>by
  have hne:xs≠[]:=(by intro e;rw [e] at hj;simp [strs] at hj);obtain ⟨g,off,hp,-,hgl,hat⟩:=hx hne;have hj':=hj;simp only [strs,List.getElem?_map,Option.map_eq_some_iff] at hj';obtain ⟨x,hxj,rfl⟩:=hj';obtain ⟨cs,_,hcs,rfl,_⟩:=hat j x hxj;have h0:=hcs 0 (by omega);rw [hp] at ha;obtain rfl:=Option.some.inj ha;have e1:(⟨g,off,none⟩:Addr).add j=⟨g,off+j * 1+0,none⟩:=(by simp [Addr.add]);rw [e1,BL.out.cell (p:=⟨g,_,none⟩) hgl];exact h0
 generalize hn:ys.length=n at *;have HN:=hid hn;clear hy OX OY hx hn
 cases p with
 | none =>
  have hxs:xs = []:=by
   have:=hnil _ _ rfl;simp only [Value.slice.injEq,true_and] at this;exact List.length_eq_zero_iff.1 this.1
  have hcz:cap=0:=by
   have:=hnil _ _ rfl;simp only [Value.slice.injEq,true_and] at this;exact this.2
  subst hxs hcz;simp only [List.length_nil] at *;clear hnil;go_enter func58,ntmps58;go_wp2_with (first | (at_builtin;refine wpList_append_own_none rfl _ _ 51 rfl w.heap.size 9 i 1 underlying51 hi _ _ _ rfl O0.out.1 rfl ?_));have HO1:=O0;have HB1:=BL;go_wp2_with fail
  go_loopw [5,6] (fun ov iv wr=>∃ k:Nat,k≤n∧iv=.int .i64 k∧Hid (OwnS wr w.heap.size ov (onceS [] (ys.take k)))∧Bz w wr) (fun _ iv _=>n - (intOf iv).toNat)
  case atStart=>exact ⟨0,Nat.zero_le _,rfl,HO1.out,HB1.out⟩
  case round =>
   obtain ⟨k,hk,rfl,ho,hb⟩:=hrel;have HB:=hid hb;by_cases hlt:k<n
   · obtain ⟨y,hyk⟩:=sqA (l:=ys) (k:=k) HN.out hlt
     obtain ⟨g,off,rfl,-,hgl,hat⟩:=HY.out (sqE hyk);obtain ⟨cs,hcsl,hcs,rfl,-⟩:=hat k y hyk;have a0:=hcs 0 (by omega);rw [← hb.cell (p:=⟨g,_,none⟩) hgl] at a0;simp at a0;have hki:(k:Int)<(n:Int):=(by omega);have hk0:=sqI k
     have HJ:Hid (onceS [] (ys.take (k+1))=if hasS (onceS [] (ys.take k)) y then onceS [] (ys.take k) else onceS [] (ys.take k) ++ [y]):=by
      show _=_;rw [List.take_add_one,hyk];exact onceS_snoc [] (ys.take k) y
     have lq:=LQ.out k;have oq:=OQ.out k;have SR:=hid (ho.out.strR oq);generalize hJ0:onceS [] (ys.take k)=J at *;clear hb hcs hat hcsl oq hJ0
     cases hq:hasS J y with
     | true =>
      have HJ2:Hid (onceS [] (ys.take (k+1))=J):=(by show _=_;rw [HJ.out,hq];rfl);go_wp2_with (first | (go_at_call 20;go_must (refine (hasS_any _ _ _ _ SR.out).mono ?_;rintro e w9 ⟨rfl,hw9⟩;rw [hq,hw9];clear hw9 w9)));exact ⟨⟨k+1,by omega,by go_num,by show OwnS _ _ _ _;rw [HJ2.out];exact ho.out,HB.out⟩,by simp [intOf];omega⟩
     | false =>
      have HJ2:Hid (onceS [] (ys.take (k+1))=J ++ [y]):=(by show _=_;rw [HJ.out,hq];rfl);have OA:Hid (OwnS (wr.alloc (.cells #[.string y] 9)) w.heap.size u5 J):=ho.out.next ((sqN _ _));have N1:=hid (one_str wr y _ rfl);have BA:Hid (Bz w (wr.alloc (.cells #[.string y] 9))):=HB.out.alloc HB.out.size _;go_wp2_with (first | (go_at_call 20;go_must (refine (hasS_any _ _ _ _ SR.out).mono ?_;rintro e w9 ⟨rfl,hw9⟩;rw [hq,hw9];clear hw9 w9)) | (at_builtin;refine wpList_append_own _ rfl _ _ 51 rfl w.heap.size 9 i (.string ⟨#[]⟩) 1 16 underlying51 hi hz0 hz1 hz2 rfl (by decide) u5 _ _ rfl OA.out.1 _ 1 1 (strs [y]) rfl rfl N1.out (strs_oneCell _) (by unfold maxLen;omega) (by omega) OA.out.2 ?_));intro u2 w2 hown2 hgr2 _;have HO2:=hid (OwnS.of hown2 (by simp) rfl (Nat.le_trans OA.out.2 hgr2.size));have HB2:=hid (BA.out.trans (OA.out.below hgr2));clear hown2 hgr2;go_wp2_with fail;exact ⟨⟨k+1,by omega,by go_num,by show OwnS _ _ _ _;rw [HJ2.out];exact HO2.out,HB2.out⟩,by simp [intOf];omega⟩
   · have HS:Hid (OwnS wr w.heap.size u5 (onceS [] ys)):=by
      have:=ho.out
      rwa [List.take_of_length_le (by rw [HN.out];omega)] at this
     clear hb;go_wp2_with fail;go_ret;exact ⟨u5,rfl,HS.out,HB.out⟩
 | some a =>
  go_enter func58,ntmps58;go_wp2_with (first | (at_builtin;refine wpList_append_own _ rfl _ _ 51 rfl w.heap.size 9 i (.string ⟨#[]⟩) 1 16 underlying51 hi hz0 hz1 hz2 rfl (by decide) _ _ _ rfl O0.out.1 a xs.length cap (strs xs) rfl (by rw [strs_length];omega) (HC.out a rfl) (strs_oneCell _) (by unfold maxLen;simp only [List.length_nil];omega) (by simp only [List.length_nil];omega) O0.out.2 ?_));intro u1 w1 hown1 hgr1 _
  have HO1:Hid (OwnS w1 w.heap.size u1 xs):=by
   have:=OwnS.of (l:=[]) (m:=xs) hown1 (by simp) (by simp [strs]) (Nat.le_trans O0.out.2 hgr1.size);show OwnS _ _ _ _
   simpa using this
  have HB1:=hid (BL.out.trans (O0.out.below hgr1));clear hown1 hgr1;go_wp2_with fail
  go_loopw [5,6] (fun ov iv wr=>∃ k:Nat,k≤n∧iv=.int .i64 k∧Hid (OwnS wr w.heap.size ov (onceS xs (ys.take k)))∧Bz w wr) (fun _ iv _=>n - (intOf iv).toNat)
  case atStart=>exact ⟨0,Nat.zero_le _,rfl,HO1.out,HB1.out⟩
  case round =>
   obtain ⟨k,hk,rfl,ho,hb⟩:=hrel;have HB:=hid hb;by_cases hlt:k<n
   · obtain ⟨y,hyk⟩:=sqA (l:=ys) (k:=k) HN.out hlt
     obtain ⟨g,off,rfl,-,hgl,hat⟩:=HY.out (sqE hyk);obtain ⟨cs,hcsl,hcs,rfl,-⟩:=hat k y hyk;have a0:=hcs 0 (by omega);rw [← hb.cell (p:=⟨g,_,none⟩) hgl] at a0;simp at a0;have hki:(k:Int)<(n:Int):=(by omega);have hk0:=sqI k
     have HJ:Hid (onceS xs (ys.take (k+1))=if hasS (onceS xs (ys.take k)) y then onceS xs (ys.take k) else onceS xs (ys.take k) ++ [y]):=by
      show _=_;rw [List.take_add_one,hyk];exact onceS_snoc xs (ys.take k) y
     have lq:=LQ.out k;have oq:=OQ.out k;have SR:=hid (ho.out.strR oq);generalize hJ0:onceS xs (ys.take k)=J at *;clear hb hcs hat hcsl oq hJ0
     cases hq:hasS J y with
     | true =>
      have HJ2:Hid (onceS xs (ys.take (k+1))=J):=(by show _=_;rw [HJ.out,hq];rfl);go_wp2_with (first | (go_at_call 20;go_must (refine (hasS_any _ _ _ _ SR.out).mono ?_;rintro e w9 ⟨rfl,hw9⟩;rw [hq,hw9];clear hw9 w9)));exact ⟨⟨k+1,by omega,by go_num,by show OwnS _ _ _ _;rw [HJ2.out];exact ho.out,HB.out⟩,by simp [intOf];omega⟩
     | false =>
      have HJ2:Hid (onceS xs (ys.take (k+1))=J ++ [y]):=(by show _=_;rw [HJ.out,hq];rfl);have OA:Hid (OwnS (wr.alloc (.cells #[.string y] 9)) w.heap.size u5 J):=ho.out.next ((sqN _ _));have N1:=hid (one_str wr y _ rfl);have BA:Hid (Bz w (wr.alloc (.cells #[.string y] 9))):=HB.out.alloc HB.out.size _;go_wp2_with (first | (go_at_call 20;go_must (refine (hasS_any _ _ _ _ SR.out).mono ?_;rintro e w9 ⟨rfl,hw9⟩;rw [hq,hw9];clear hw9 w9)) | (at_builtin;refine wpList_append_own _ rfl _ _ 51 rfl w.heap.size 9 i (.string ⟨#[]⟩) 1 16 underlying51 hi hz0 hz1 hz2 rfl (by decide) u5 _ _ rfl OA.out.1 _ 1 1 (strs [y]) rfl rfl N1.out (strs_oneCell _) (by unfold maxLen;omega) (by omega) OA.out.2 ?_));intro u2 w2 hown2 hgr2 _;have HO2:=hid (OwnS.of hown2 (by simp) rfl (Nat.le_trans OA.out.2 hgr2.size));have HB2:=hid (BA.out.trans (OA.out.below hgr2));clear hown2 hgr2;go_wp2_with fail;exact ⟨⟨k+1,by omega,by go_num,by show OwnS _ _ _ _;rw [HJ2.out];exact HO2.out,HB2.out⟩,by simp [intOf];omega⟩
   · have HS:Hid (OwnS wr w.heap.size u5 (onceS xs ys)):=by
      have:=ho.out
      rwa [List.take_of_length_le (by rw [HN.out];omega)] at this
     clear hb;go_wp2_with fail;go_ret;exact ⟨u5,rfl,HS.out,HB.out⟩
theorem OwnS.base {w:World} {B B':Nat} {v:Value} {l:List ByteArray} (h:OwnS w B v l) (hB:B'≤B):OwnS w B' v l:=by
 refine ⟨⟨h.1.1,?_⟩,Nat.le_trans hB h.2⟩
 rcases h.1.2 with hn | ⟨g,cap,cur,hv,hb,hr⟩
 · exact .inl hn
 · exact .inr ⟨g,cap,cur,hv,Nat.le_trans hB hb,hr⟩
def NmC (F:FuncId) (d:Nat) (f:Ex→List ByteArray):Prop :=
 ∀ (w:World) (cs:List Value) (x:Ex),HEx w All d cs x→wtEx d x≤16777216→Calls prog F #[.agg cs.toArray] w fun e w'=>∃ u,e=.returned u∧OwnS w' w.heap.size u (f x)∧Bz w w'
theorem patVars_of {d:Nat} (hE:NmC 103 d (patV d)):NmC 103 (d+1) (patV (d+1)):=by
 intro w cs x h hwt;have hok:=h.txts;obtain ⟨kv,cv,rfl,-,-,hts,hms,f0,-⟩:=h;obtain ⟨kx,nx,tx,mx,ks,cl⟩:=x;simp only [Ex.kind,Ex.n,Ex.text,Ex.mod,Ex.kids] at *;have hw:wtEx (d+1) (.mk kx nx tx mx ks cl)=tx.size+mx.size+wtS (wtEx d) ks+wtS (wtCl (wtEx d)) cl:=rfl;have wks:wtS (wtEx d) ks≤16777216:=(by omega);obtain ⟨p,cap,rfl,hcl,hcm,hx⟩:=f0;have hnb:=sqM hcl hcm;obtain ⟨i,hi,hz0,hz1,hz2⟩:=info_parts info_str;have hpv:patV (d+1) (.mk kx nx tx mx ks cl)=foldV (patV d) (if kx=2 then [tx] else []) ks:=rfl;rw [hpv]
 have hl0:(if kx=2 then [tx] else ([]:List ByteArray)).length≤1:=by split <;> simp
 have ok0:∀ s ∈ (if kx=2 then [tx] else ([]:List ByteArray)),okS s:=fun s hs=>by
  split at hs
  · simp at hs;subst hs;exact hts
  · simp at hs
 have LQ:Hid (∀ k,(foldV (patV d) (if kx=2 then [tx] else []) (ks.take k)).length≤16777217):=fun k=>by
  have h1:=foldV_len (patV d) (wtEx d) (ks.take k) (if kx=2 then [tx] else []) (fun y _=>patV_len d y)
  have h2:wtS (wtEx d) (ks.take k)≤wtS (wtEx d) ks:=by
   have h3:=sum_take_le (wtEx d) ks k;have h4:(ks.take k).length≤ks.length:=(by rw [List.length_take];omega);unfold wtS;omega
  omega
 have OQ:Hid (∀ k,∀ s ∈ foldV (patV d) (if kx=2 then [tx] else []) (ks.take k),okS s):=fun k s hs=>by
  rcases foldV_mem _ _ _ s hs with h | ⟨y,hy,h⟩
  · exact ok0 s h
  · exact patV_ok d y (hok.2.1 y (List.mem_of_mem_take hy)) s h
 have BX:Hid (∀ k x,ks[k]?=some x→wtEx d x≤16777216∧exS d x∧(patV d x).length≤16777217):=fun k x hk=>by
  have h1:=sum_take_succ (wtEx d) ks k x hk;have h2:=sum_take_le (wtEx d) ks (k+1);have h3:=patV_len d x;have h4:wtEx d x≤16777216:=(by unfold wtS at wks;omega);exact ⟨h4,hok.2.1 x (List.mem_of_getElem? hk),by omega⟩
 generalize hn:ks.length=n at *;have HN:=hid hn;have HX:=hid hx;obtain ⟨W1,hW1⟩:∃ W1,W1=w.alloc (.cells #[.int .i64 kx,.int .i64 nx,.string tx,.string mx,.slice p n cap,cv] 76):=⟨_,rfl⟩;have bA:Hid (Blk W1 w.heap.size #[.int .i64 kx,.int .i64 nx,.string tx,.string mx,.slice p n cap,cv] 76):=(by show Blk _ _ _ _;rw [hW1];exact Blk.new);have B1:Hid (Bz w W1):=(by show Below _ _ _;rw [hW1];exact (sqN _ _));have hs1:W1.heap.size=w.heap.size+1:=(by rw [hW1];simp);have HW1:=hid hW1
 have O1:Hid (OwnS (W1.alloc (.cells #[] 9)) (w.heap.size+1) (.slice (some ⟨w.heap.size+1,0,none⟩) 0 0) []):=by
  have:=OwnS.fresh (w:=W1)
  rwa [hs1] at this
 have BB:Hid (Bz w (W1.alloc (.cells #[] 9))):=B1.out.alloc B1.out.size _;have bB:Hid (Blk (W1.alloc (.cells #[] 9)) w.heap.size #[.int .i64 kx,.int .i64 nx,.string tx,.string mx,.slice p n cap,cv] 76):=bA.out.alloc;clear hx hn hok ok0 hw hwt hW1 hpv;by_cases k2:kx=2
 · subst k2
   simp only [if_true] at LQ OQ ⊢;have O2:Hid (OwnS ((W1.alloc (.cells #[] 9)).alloc (.cells #[.string tx] 9)) (w.heap.size+1) (.slice (some ⟨w.heap.size+1,0,none⟩) 0 0) []):=O1.out.next ((sqN _ _));have N1:Hid (∀ j u,(strs [tx])[j]?=some u→((W1.alloc (.cells #[] 9)).alloc (.cells #[.string tx] 9)).cell? ((⟨w.heap.size+1+1,0,none⟩:Addr).add j)=some u):=one_str _ tx _ (by simp only [alloc_hs];omega);have B2:Hid (Bz w ((W1.alloc (.cells #[] 9)).alloc (.cells #[.string tx] 9))):=BB.out.alloc BB.out.size _;have bC:Hid (Blk ((W1.alloc (.cells #[] 9)).alloc (.cells #[.string tx] 9)) w.heap.size #[.int .i64 2,.int .i64 nx,.string tx,.string mx,.slice p n cap,cv] 76):=bB.out.alloc;have y0:=bB.out.cell 0 _ rfl;have y2:=bB.out.cell 2 _ rfl;go_enter func103,ntmps103;go_wp2_with (first | (at_builtin;rw [← HW1.out];refine wpList_append_own _ rfl _ _ 51 rfl (w.heap.size+1) 9 i (.string ⟨#[]⟩) 1 16 underlying51 hi hz0 hz1 hz2 rfl (by decide) (.slice (some ⟨w.heap.size+1,0,none⟩) 0 0) _ _ rfl O2.out.1 ⟨w.heap.size+1+1,0,none⟩ 1 1 (strs [tx]) rfl rfl N1.out (strs_oneCell _) (by unfold maxLen;simp) (by simp) O2.out.2 ?_));intro u2 w2 hown2 hgr2 _
   have HO2:Hid (OwnS w2 w.heap.size u2 [tx]):=by
    have:=OwnS.of (l:=[]) (m:=[tx]) hown2 (by simp) rfl (Nat.le_trans O2.out.2 hgr2.size);exact OwnS.base (by simpa using this) (by omega)
   have bD:=hid (O2.out.blk hgr2 bC.out (by simp [Value.ownBlock]));have HB2:=hid (B2.out.trans ((O2.out.below hgr2).mono (by omega)));clear hown2 hgr2 y0 y2;go_wp2_with fail
   go_loopw [3,4] (fun ov iv wr=>∃ k:Nat,k≤n∧iv=.int .i64 k∧Hid (OwnS wr w.heap.size ov (foldV (patV d) [tx] (ks.take k)))∧Hid (Blk wr w.heap.size #[.int .i64 2,.int .i64 nx,.string tx,.string mx,.slice p n cap,cv] 76)∧Bz w wr) (fun _ iv _=>n - (intOf iv).toNat)
   case atStart=>exact ⟨0,Nat.zero_le _,rfl,HO2.out,bD.out,HB2.out⟩
   case round =>
    obtain ⟨k,hk,rfl,ho,hbk,hb⟩:=hrel;have HB:=hid hb;have xa4:=hbk.out.cell 4 _ rfl;by_cases hlt:k<n
    · obtain ⟨x,hxk⟩:=sqA (l:=ks) (k:=k) HN.out hlt
      obtain ⟨g,off,rfl,-,hgl,hat⟩:=HX.out (sqE hxk);obtain ⟨cs,hcsl,hcs,r1⟩:=hat k x hxk;have E1:∀ w',Bz w w'→HEx w' All d cs x:=fun w' hw=>r1.mono (sqO hw) (fun _ h=>h);obtain ⟨c0,c1,c2,c3,c4,c5,rfl⟩:=len6 hcsl;obtain ⟨a0,a1,a2,a3,a4,a5⟩:=sqC6 hcs (by omega);rw [← hb.cell (p:=⟨g,_,none⟩) hgl] at a0 a1 a2 a3 a4 a5;simp at a0 a1 a2 a3 a4 a5;have hki:(k:Int)<(n:Int):=(by omega);have hk0:=sqI k;obtain ⟨wx,sx,lx⟩:=BX.out k x hxk;have HJ:Hid (foldV (patV d) [tx] (ks.take (k+1))=onceS (foldV (patV d) [tx] (ks.take k)) (patV d x)):=foldV_snoc _ _ ks k x hxk;have lq:=LQ.out k;have oq:=OQ.out k;generalize hJ0:foldV (patV d) [tx] (ks.take k)=J at *;clear hb hcs hat hcsl r1 hJ0;go_wp2_with fail;refine (hE _ _ x (E1 _ HB.out) wx).mono ?_;rintro e w4 ⟨u4,rfl,ho4,hb4⟩;have HB4:=hid (HB.out.trans (hb4.mono HB.out.size));have SV:Hid (StrV w4 u3 J):=(ho.out.next hb4).strV oq;have SR:=hid (ho4.strR (patV_ok d x sx));have bk4:=hid (hbk.out.next hb4);clear hb4 ho4 xa4 a0 a1 a2 a3 a4 a5;go_wp2_with fail;refine (once_any _ _ _ J (patV d x) SV.out SR.out (by omega)).mono ?_;rintro e w5 ⟨u5,rfl,ho5,hb5⟩;have HB5:=hid (HB4.out.trans (hb5.mono HB4.out.size));have HO5:=hid (ho5.base HB4.out.size);have bk5:=hid (bk4.out.next hb5);clear hb5 ho5;go_wp2_with fail;exact ⟨⟨k+1,by omega,by go_num,by show OwnS _ _ _ _;rw [HJ.out];exact HO5.out,bk5.out,HB5.out⟩,by simp [intOf];omega⟩
    · have HS:Hid (OwnS wr w.heap.size u3 (foldV (patV d) [tx] ks)):=by
       have:=ho.out
       rwa [List.take_of_length_le (by rw [HN.out];omega)] at this
      clear hb;go_wp2_with fail;go_ret;exact ⟨u3,rfl,HS.out,HB.out⟩
 · have L2:(if kx=2 then [tx] else ([]:List ByteArray)) = []:=if_neg k2
   simp only [L2] at LQ OQ ⊢;clear L2;have k2b:(kx == 2)=false:=(by simpa using k2);have O9:Hid (OwnS (W1.alloc (.cells #[] 9)) w.heap.size (.slice (some ⟨w.heap.size+1,0,none⟩) 0 0) []):=O1.out.base (by omega);have y0:=bA.out.cell 0 _ rfl;go_enter func103,ntmps103;go_wp2_with fail;rw [← HW1.out]
   go_loopw [3,4] (fun ov iv wr=>∃ k:Nat,k≤n∧iv=.int .i64 k∧Hid (OwnS wr w.heap.size ov (foldV (patV d) [] (ks.take k)))∧Hid (Blk wr w.heap.size #[.int .i64 kx,.int .i64 nx,.string tx,.string mx,.slice p n cap,cv] 76)∧Bz w wr) (fun _ iv _=>n - (intOf iv).toNat)
   case atStart=>exact ⟨0,Nat.zero_le _,rfl,O9.out,bB.out,BB.out⟩
   case round =>
    obtain ⟨k,hk,rfl,ho,hbk,hb⟩:=hrel;have HB:=hid hb;have xa4:=hbk.out.cell 4 _ rfl;by_cases hlt:k<n
    · obtain ⟨x,hxk⟩:=sqA (l:=ks) (k:=k) HN.out hlt
      obtain ⟨g,off,rfl,-,hgl,hat⟩:=HX.out (sqE hxk);obtain ⟨cs,hcsl,hcs,r1⟩:=hat k x hxk;have E1:∀ w',Bz w w'→HEx w' All d cs x:=fun w' hw=>r1.mono (sqO hw) (fun _ h=>h);obtain ⟨c0,c1,c2,c3,c4,c5,rfl⟩:=len6 hcsl;obtain ⟨a0,a1,a2,a3,a4,a5⟩:=sqC6 hcs (by omega);rw [← hb.cell (p:=⟨g,_,none⟩) hgl] at a0 a1 a2 a3 a4 a5;simp at a0 a1 a2 a3 a4 a5;have hki:(k:Int)<(n:Int):=(by omega);have hk0:=sqI k;obtain ⟨wx,sx,lx⟩:=BX.out k x hxk;have HJ:Hid (foldV (patV d) [] (ks.take (k+1))=onceS (foldV (patV d) [] (ks.take k)) (patV d x)):=foldV_snoc _ _ ks k x hxk;have lq:=LQ.out k;have oq:=OQ.out k;generalize hJ0:foldV (patV d) [] (ks.take k)=J at *;clear hb hcs hat hcsl r1 hJ0;go_wp2_with fail;refine (hE _ _ x (E1 _ HB.out) wx).mono ?_;rintro e w4 ⟨u4,rfl,ho4,hb4⟩;have HB4:=hid (HB.out.trans (hb4.mono HB.out.size));have SV:Hid (StrV w4 u3 J):=(ho.out.next hb4).strV oq;have SR:=hid (ho4.strR (patV_ok d x sx));have bk4:=hid (hbk.out.next hb4);clear hb4 ho4 xa4 a0 a1 a2 a3 a4 a5;go_wp2_with fail;refine (once_any _ _ _ J (patV d x) SV.out SR.out (by omega)).mono ?_;rintro e w5 ⟨u5,rfl,ho5,hb5⟩;have HB5:=hid (HB4.out.trans (hb5.mono HB4.out.size));have HO5:=hid (ho5.base HB4.out.size);have bk5:=hid (bk4.out.next hb5);clear hb5 ho5;go_wp2_with fail;exact ⟨⟨k+1,by omega,by go_num,by show OwnS _ _ _ _;rw [HJ.out];exact HO5.out,bk5.out,HB5.out⟩,by simp [intOf];omega⟩
    · have HS:Hid (OwnS wr w.heap.size u3 (foldV (patV d) [] ks)):=by
       have:=ho.out
       rwa [List.take_of_length_le (by rw [HN.out];omega)] at this
      clear hb;go_wp2_with fail;go_ret;exact ⟨u3,rfl,HS.out,HB.out⟩
theorem patVars_all:∀ d,NmC 103 d (patV d)
 | 0=>fun w cs x h _=>h.elim
 | d+1=>patVars_of (patVars_all d)
end Go.Proofs.YtdhlonogmnkemaaGreatDoor
namespace Go.Proofs.YtdhlonogmnkemaaGreatDoor
open Go.ChangeShapes Go.WideShapes Go.ChangeAt Go.RowKit
set_option linter.unusedVariables false
set_option maxRecDepth 100000
theorem step_append_own {P:Program} (w:World) {ops:Array Oper} {o:Oper} {a:Act} {K:Act→World→Prop} {Q:Exit→Act→World→Prop} {E:Prop} (hgd:o.guard=none) (s x:Operand) (t:TypeId)
 (ho:o.op=.call { callee:=.builtin .append,args:=#[s,x],argTypes:=#[t,t] })
 (base:Nat) (e:TypeId) (i:TypeInfo) (z:Value) (size bytes:Nat) (ht:P.underlying t=some (.slice e)) (hi:P.info? e=some i) (hz:i.zero=some z)
 (hsize:i.size=size) (hby:i.bytes=bytes) (hzs:z.cells.size=size) (hsz:0<size)
 (v:Value) (n:Nat) (xs:List Value) (hs:a.eval s=v) (hown:w.ownsRow base e size v n xs)
 (ad:Addr) (m c:Nat) (news:List Value) (hx:a.eval x=.slice (some ad) m c) (hl:news.length=m * size) (hnews:∀ j u,news[j]?=some u→w.cell? (ad.add j)=some u) (h1:∀ u ∈ news,u.oneCell'=true)
 (h63:n+m≤maxLen) (hbytes:(n+m) * bytes≤140737488355328) (hbase:base≤w.heap.size)
 (h:∀ v' w',w'.ownsRow base e size v' (n+m) (xs ++ news)→w.grownBy w' v.ownBlock→(v'=.slice none 0 0 ↔ v=.slice none 0 0∧m=0)→K (a.put o.dst v') w') :
 if Region.wanted o (yielded ops a.tmps)=true then Oper.wp P o a w K Q else E:=by
 have hw:Region.wanted o (yielded ops a.tmps)=true:=(by simp [Region.wanted,hgd]);rw [if_pos hw];exact wp_append_own w s x t ho base e i z size bytes ht hi hz hsize hby hzs hsz v n xs hs hown ad m c news hx hl hnews h1 h63 hbytes hbase h
def ltS (a b:ByteArray):Bool:=Op.bytesLess a.toList b.toList
def insS:List ByteArray→ByteArray→List ByteArray
 | [],s=>[s]
 | x :: xs,s=>if ltS x s then x :: insS xs s else if x.toList=s.toList then x :: xs else s :: x :: xs
def sortS (l:List ByteArray):List ByteArray:=l.foldl insS []
theorem insS_at:∀ (l:List ByteArray) (s:ByteArray) (k:Nat),k≤l.length→(∀ j x,j<k→l[j]?=some x→ltS x s=true)→(∀ x,l[k]?=some x→ltS x s=false) →
 insS l s=(match l[k]? with | some x=>if x.toList=s.toList then l else l.take k ++ s :: l.drop k | none=>l.take k ++ s :: l.drop k)
 | [],s,k,hk,h1,h2=>by
  obtain rfl:k=0:=by simpa using hk
  rfl
 | x :: xs,s,0,hk,h1,h2=>by
  have h:=h2 x rfl;simp only [insS,h,Bool.false_eq_true,if_false,List.getElem?_cons_zero]
  split <;> rfl
 | x :: xs,s,k+1,hk,h1,h2=>by
  have h:=h1 0 x (by omega) rfl;have ih:=insS_at xs s k (by simpa using hk) (fun j y hj hy=>h1 (j+1) y (by omega) (by simpa using hy)) (fun y hy=>h2 y (by simpa using hy));simp only [insS,h,if_true,List.getElem?_cons_succ];rw [ih]
  cases hk:xs[k]? with
  | none=>rfl
  | some y =>
   simp only
   split <;> rfl
theorem insS_length (l:List ByteArray) (s:ByteArray):(insS l s).length≤l.length+1:=by
 induction l with
 | nil=>simp [insS]
 | cons x xs ih =>
  unfold insS
  split
  · simp only [List.length_cons];omega
  · split <;> simp
theorem insS_mem (l:List ByteArray) (s:ByteArray):∀ y ∈ insS l s,y=s∨y ∈ l:=by
 induction l with
 | nil=>intro y hy;simp [insS] at hy;exact .inl hy
 | cons x xs ih =>
  intro y hy;unfold insS at hy
  split at hy
  · rcases List.mem_cons.1 hy with rfl | hy
    · exact .inr (by simp)
    · rcases ih y hy with h | h
      · exact .inl h
      · exact .inr (by simp [h])
  · split at hy
    · exact .inr hy
    · rcases List.mem_cons.1 hy with rfl | hy
      · exact .inl rfl
      · exact .inr hy
theorem sortS_snoc (l:List ByteArray) (k:Nat) (s:ByteArray) (h:l[k]?=some s):sortS (l.take (k+1))=insS (sortS (l.take k)) s:=by
 unfold sortS;rw [List.take_add_one,h];simp
theorem sortS_len (l:List ByteArray):∀ k,(sortS (l.take k)).length≤k:=by
 intro k
 induction k with
 | zero=>simp [sortS]
 | succ k ih =>
  cases h:l[k]? with
  | none =>
   rw [List.take_of_length_le (by have:=List.getElem?_eq_none_iff.1 h;omega)] at *;omega
  | some s=>rw [sortS_snoc l k s h];have:=insS_length (sortS (l.take k)) s;omega
theorem sortS_mem (l:List ByteArray):∀ k,∀ y ∈ sortS (l.take k),y ∈ l:=by
 intro k
 induction k with
 | zero=>intro y hy;simp [sortS] at hy
 | succ k ih =>
  intro y hy
  cases h:l[k]? with
  | none =>
   refine ih y ?_
   rwa [List.take_of_length_le (by have:=List.getElem?_eq_none_iff.1 h;omega),← List.take_of_length_le (l:=l) (i:=k) (by have:=List.getElem?_eq_none_iff.1 h;omega)] at hy
  | some s =>
   rw [sortS_snoc l k s h] at hy
   rcases insS_mem _ _ y hy with rfl | hy
   · exact List.mem_of_getElem? h
   · exact ih y hy
def fnOf (ms:List Md) (q:Pl):Option Fn':=(ms.find? (named q.mod)).bind fun m=>m.funs.find? (sameR ⟨q.name,q.arity⟩)
def clauseOf (ms:List Md) (q:Pl):Option Cl:=(fnOf ms q).bind fun f=>if inB q.clause 0 (f.clauses.length - 1) then f.clauses[q.clause.toNat]? else none
def clauseVars (d:Nat) (c:Cl):List ByteArray:=foldV (allV d) (foldV (allV d) [] c.1) c.2
def varsAt (d:Nat) (ms:List Md) (q:Pl):List ByteArray:=if pgOk d ms then (match clauseOf ms q with
 | none=>[]
 | some c=>sortS (clauseVars d c)) else []
theorem wtS_part {α:Type} (f:α→Nat) (es:List α) (k:Nat) (x:α) (h:es[k]?=some x):1+f x≤wtS f es:=by
 have hm:=List.mem_of_getElem? h;obtain ⟨a,b,rfl⟩:=List.append_of_mem hm;simp [wtS];omega
theorem wtS_find {α:Type} (f:α→Nat) (es:List α) (p:α→Bool) (x:α) (h:es.find? p=some x):1+f x≤wtS f es:=by
 obtain ⟨k,hk⟩:=List.mem_iff_getElem?.1 (List.mem_of_find?_eq_some h);exact wtS_part f es k x hk
theorem fnOf_wt {d:Nat} {ms:List Md} {q:Pl} {f:Fn'} (h:fnOf ms q=some f):wtFn d f≤wtS (wtMd d) ms:=by
 unfold fnOf at h;obtain ⟨m,hm,hf⟩:=Option.bind_eq_some_iff.1 h;have h1:=wtS_find (wtMd d) ms _ m hm;have h2:=wtS_find (wtFn d) m.funs _ f hf;have h3:wtMd d m=m.name.size+wtS wtRf m.exports+wtS (wtFn d) m.funs:=rfl;omega
theorem clauseOf_wt1 {d:Nat} {ms:List Md} {q:Pl} {c:Cl} (h:clauseOf ms q=some c):1+wtCl (wtEx d) c≤wtS (wtMd d) ms:=by
 unfold clauseOf at h;obtain ⟨f,hf,hc⟩:=Option.bind_eq_some_iff.1 h
 split at hc
 · have h1:=fnOf_wt (d:=d) hf
   have h2:=wtS_part (wtCl (wtEx d)) f.clauses _ c hc;have h3:wtFn d f=f.name.size+wtS (wtCl (wtEx d)) f.clauses:=rfl;omega
 · cases hc
end Go.Proofs.YtdhlonogmnkemaaGreatDoor
namespace Go.Proofs.YtdhlonogmnkemaaGreatDoor
open Go.ChangeShapes Go.WideShapes Go.ChangeAt Go.RowKit Go.Proofs.Tryz
set_option linter.unusedVariables false
set_option maxRecDepth 100000
theorem refAt_any (q:Pl) (w:World):Calls prog 51 #[.agg #[.string q.mod,.string q.name,.int .i64 q.arity,.int .i64 q.clause]] w fun e w'=>e=.returned (.agg #[.string q.name,.int .i64 q.arity])∧Bz w w':=by
 obtain ⟨m,s,n,c⟩:=q;have BL:Hid (∀ (cs cs':Array Value) (t t':TypeId),Bz w ((w.alloc (.cells cs t)).alloc (.cells cs' t'))):=fun cs cs' t t'=>((sqN _ _)).alloc (by simp) _
 have RB:Hid (∀ (cs:Array Value) (t:TypeId),Blk ((w.alloc (.cells cs t)).alloc (.cells #[.string s,.int .i64 n] 84)) (w.heap.size+1) #[.string s,.int .i64 n] 84):=fun cs t=>by
  have:=Blk.new (w:=w.alloc (.cells cs t)) (cs:=#[.string s,.int .i64 n]) (t:=84)
  rwa [alloc_hs] at this
 go_enter func51,ntmps51;go_wp2_with fail;have q0:=(RB.out #[.string m,.string s,.int .i64 n,.int .i64 c] 31).cell 0 _ rfl;have q1:=(RB.out #[.string m,.string s,.int .i64 n,.int .i64 c] 31).cell 1 _ rfl;exact bodyPost_ret (v:=.agg #[.string s,.int .i64 n]) (by simp [results,results51,go_sem,q0,q1]) rfl ⟨rfl,BL.out _ _ _ _⟩
def hasAt (q:Pl) (m:Md):Bool:=named q.mod m && m.funs.any (sameR ⟨q.name,q.arity⟩)
structure FunP (d:Nat) (ms:List Md) (q:Pl) (v:Value) (w:World) (gf o:Nat) (k j:Nat) (m:Md) (f:Fn'):Prop where
 at_k:ms[k]?=some m
 nm:named q.mod m=true
 at_j:m.funs[j]?=some f
 first:m.funs.find? (sameR ⟨q.name,q.arity⟩)=some f
 before:(m.funs.take j).any (sameR ⟨q.name,q.arity⟩)=false
 lt:gf<w.heap.size
 lies:∃ g off cap of cf,v=.slice (some ⟨g,off,none⟩) ms.length cap∧w.cell? ⟨g,off+k * 3+2,none⟩=some (.slice (some ⟨gf,of,none⟩) m.funs.length cf)∧o=of+j * 3
 is:∃ cs,cs.length=3∧(∀ i,i<3→w.cell? ⟨gf,o+i,none⟩=cs[i]?)∧HFn w All d cs f
def FunE (d:Nat) (ms:List Md) (q:Pl) (v:Value) (w:World) (e:Ending):Prop :=
 (e=.returned (.pointer none)∧ms.any (hasAt q)=false)∨∃ gf o k j m f,e=.returned (.pointer (some ⟨gf,o,none⟩))∧FunP d ms q v w gf o k j m f
theorem FunP.next {d:Nat} {ms:List Md} {q:Pl} {v:Value} {w w':World} {gf o k j:Nat} {m:Md} {f:Fn'} (h:FunP d ms q v w gf o k j m f) (hb:Bz w w'):FunP d ms q v w' gf o k j m f:=by
 obtain ⟨g,off,cap,of,cf,h1,h2,h3⟩:=h.lies;obtain ⟨cs,c1,c2,c3⟩:=h.is;refine ⟨h.at_k,h.nm,h.at_j,h.first,h.before,Nat.lt_of_lt_of_le h.lt hb.size,⟨g,off,cap,of,cf,h1,cell_next hb h2,h3⟩,⟨cs,c1,fun i hi=>(hb.cell (p:=⟨gf,o+i,none⟩) h.lt).trans (c2 i hi),c3.mono (sqO hb) (fun _ h=>h)⟩⟩
theorem find_first {α:Type} {f:α→Bool} {xs:List α} {k:Nat} {x:α} (h:(xs.take k).any f=false) (hx:xs[k]?=some x) (hf:f x=true):xs.find? f=some x:=by
 obtain ⟨hk,he⟩:=List.getElem?_eq_some_iff.1 hx;rw [List.find?_eq_some_iff_getElem];refine ⟨hf,k,hk,he,fun j hj=>?_⟩;have:=List.any_eq_false.1 h (xs[j]) (List.mem_of_getElem? (i:=j) (by rw [List.getElem?_take,if_pos hj];exact List.getElem?_eq_getElem _))
 simpa using this
theorem funAt_any (d:Nat) (w:World) (v:Value) (ms:List Md) (q:Pl) (h:Rows w All 3 (HMd w All d) v ms) :
 Calls prog 74 #[v,.agg #[.string q.mod,.string q.name,.int .i64 q.arity,.int .i64 q.clause]] w fun e w'=>FunE d ms q v w' e∧Bz w w':=by
 obtain ⟨qm,qn,qa,qc⟩:=q;simp only;obtain ⟨p,cap,rfl,hcl,hcm,hx⟩:=h;have hnb:=sqM hcl hcm;generalize hn:ms.length=n at *;have HN:=hid hn;have HX:=hid hx;obtain ⟨W1,hW1⟩:∃ W1,W1=w.alloc (.cells #[.string qm,.string qn,.int .i64 qa,.int .i64 qc] 31):=⟨_,rfl⟩;have bA:Hid (Blk W1 w.heap.size #[.string qm,.string qn,.int .i64 qa,.int .i64 qc] 31):=(by show Blk _ _ _ _;rw [hW1];exact Blk.new);have B1:Hid (Bz w W1):=(by show Below _ _ _;rw [hW1];exact (sqN _ _));have HW1:=hid hW1;clear hx hn hW1;go_enter func74,ntmps74;go_wp2_with fail;rw [← HW1.out]
 go_loopw [11] (fun iv wr=>∃ k:Nat,k≤n∧iv=.int .i64 k∧Hid ((ms.take k).any (hasAt ⟨qm,qn,qa,qc⟩)=false)∧Hid (SameOn All W1 wr)∧Bz w wr) (fun iv _=>n - (intOf iv).toNat)
 case atStart=>exact ⟨0,Nat.zero_le _,rfl,by show _=_;simp,⟨Nat.le_refl _,fun _ _ _=>rfl⟩,B1.out⟩
 case round =>
  obtain ⟨k,hk,rfl,hall,hso,hb⟩:=hrel;have HB:=hid hb;by_cases hlt:k<n
  · obtain ⟨x,hxk⟩:=sqA (l:=ms) (k:=k) HN.out hlt
    obtain ⟨g,off,rfl,-,hgl,hat⟩:=HX.out (sqE hxk);obtain ⟨cs,hcsl,hcs,ev,fv,rfl,-,f0,f1⟩:=hat k x hxk;obtain ⟨pe,ce,rfl,-⟩:=f0;obtain ⟨pf,cf,rfl,hclf,hcmf,hxf⟩:=f1;obtain ⟨a0,a1,a2⟩:=sqC3 hcs (by omega);rw [← hb.cell (p:=⟨g,_,none⟩) hgl] at a0 a1 a2;simp at a0 a1 a2;have HXF:=hid hxf;have HA2:Hid (w.cell? ⟨g,off+k * 3+2,none⟩=some (.slice pf x.funs.length cf)):=(by have:=hcs 2 (by omega);simp at this;exact this);have hki:(k:Int)<(n:Int):=(by omega);have hk0:=sqI k;have hnf:x.funs.length≤9223372036854775807:=(by unfold maxLen at hcmf;omega);obtain ⟨W5,hW5⟩:∃ W5,W5=wr.alloc (.cells #[.string x.name,.slice pe x.exports.length ce,.slice pf x.funs.length cf] 63):=⟨_,rfl⟩;have bM:Hid (Blk W5 wr.heap.size #[.string x.name,.slice pe x.exports.length ce,.slice pf x.funs.length cf] 63):=(by show Blk _ _ _ _;rw [hW5];exact Blk.new);have K5:Bz wr W5:=(by rw [hW5];exact (sqN _ _));have B5:=hid (hb.trans (K5.mono hb.size));have S5:=hid (hso.out.trans (sqO K5));have HW5:=hid hW5;have z2:=bM.out.cell 2 _ rfl;generalize hnfl:x.funs.length=nf at *;have HNF:=hid hnfl;generalize x.exports.length=ne at *;have HXK:=hid hxk;clear hb hcs hat hcsl hW5 K5 hnfl hxf hxk;go_wp2_with fail;rw [← HW5.out];generalize hmb:wr.heap.size=mb at bM z2 ⊢;clear hmb
    go_loopw [18] (fun iv wr'=>∃ j:Nat,j≤nf∧iv=.int .i64 j∧Hid (named qm x=true→(x.funs.take j).any (sameR ⟨qn,qa⟩)=false)∧Hid (SameOn All W5 wr')∧Bz w wr') (fun iv _=>nf - (intOf iv).toNat)
    case atStart=>exact ⟨0,Nat.zero_le _,rfl,(fun _=>by simp),⟨Nat.le_refl _,fun _ _ _=>rfl⟩,B5.out⟩
    case round =>
     obtain ⟨j,hj,rfl,halj,hsj,hbj⟩:=hrel;by_cases hjt:j<nf
     · obtain ⟨y,hyj⟩:∃ y,x.funs[j]?=some y:=⟨x.funs[j]'(by rw [HNF.out];exact hjt),List.getElem?_eq_getElem _⟩
       obtain ⟨gf,of,rfl,-,hgf,hatf⟩:=HXF.out (sqE hyj);obtain ⟨fcs,hfl,hfcs,r1⟩:=hatf j y hyj;have HFC:Hid (fcs.length=3∧(∀ i,i<3→w.cell? ⟨gf,of+j * 3+i,none⟩=fcs[i]?)∧HFn w All d fcs y):=⟨hfl,hfcs,r1⟩;obtain ⟨p1,n1,q1,rfl⟩:=fnShape r1;have c0:=hfcs 0 (by omega);have c1:=hfcs 1 (by omega);have c2:=hfcs 2 (by omega);rw [← hbj.cell (p:=⟨gf,_,none⟩) hgf] at c0 c1 c2;simp at c0 c1 c2;have hji:(j:Int)<(nf:Int):=(by omega);have hj0:=sqI j;obtain ⟨W7,hW7⟩:∃ W7,W7=wr.alloc (.cells #[.string y.name,.int .i64 y.arity,.slice p1 n1 q1] 59):=⟨_,rfl⟩;have bF:Hid (Blk W7 wr.heap.size #[.string y.name,.int .i64 y.arity,.slice p1 n1 q1] 59):=(by show Blk _ _ _ _;rw [hW7];exact Blk.new);have K7:Bz wr W7:=(by rw [hW7];exact (sqN _ _));have B7:=hid (hbj.trans (K7.mono hbj.size));have S7:=hid (hsj.out.trans (sqO K7));have HW7:=hid hW7;have bA7:=bA.out.same_on (S5.out.trans S7.out);have bM7:=bM.out.same_on S7.out;obtain ⟨y0,y1,y2,y3⟩:=sqB4 bA7;have m0:=bM7.cell 0 _ rfl;obtain ⟨z0,z1,z2⟩:=sqB3 bF.out;have l1:=bA7.lt;have l2:=bM7.lt;have l3:=bF.out.lt;have qy0:∀ m:Wd (fun w'=>SameOn All W7 w'∧Bz w w'),m.val.cell? ⟨w.heap.size,0,none⟩=some (.string qm):=fun m=>(sqK (m.ok.1.2 _ trivial l1)).trans y0;have qy1:∀ m:Wd (fun w'=>SameOn All W7 w'∧Bz w w'),m.val.cell? ⟨w.heap.size,1,none⟩=some (.string qn):=fun m=>(sqK (m.ok.1.2 _ trivial l1)).trans y1;have qy2:∀ m:Wd (fun w'=>SameOn All W7 w'∧Bz w w'),m.val.cell? ⟨w.heap.size,2,none⟩=some (.int .i64 qa):=fun m=>(sqK (m.ok.1.2 _ trivial l1)).trans y2;have qy3:∀ m:Wd (fun w'=>SameOn All W7 w'∧Bz w w'),m.val.cell? ⟨w.heap.size,3,none⟩=some (.int .i64 qc):=fun m=>(sqK (m.ok.1.2 _ trivial l1)).trans y3;have qm0:∀ m:Wd (fun w'=>SameOn All W7 w'∧Bz w w'),m.val.cell? ⟨mb,0,none⟩=some (.string x.name):=fun m=>(sqK (m.ok.1.2 _ trivial l2)).trans m0;have qz0:∀ m:Wd (fun w'=>SameOn All W7 w'∧Bz w w'),m.val.cell? ⟨wr.heap.size,0,none⟩=some (.string y.name):=fun m=>(sqK (m.ok.1.2 _ trivial l3)).trans z0;have qz1:∀ m:Wd (fun w'=>SameOn All W7 w'∧Bz w w'),m.val.cell? ⟨wr.heap.size,1,none⟩=some (.int .i64 y.arity):=fun m=>(sqK (m.ok.1.2 _ trivial l3)).trans z1;have qz2:∀ m:Wd (fun w'=>SameOn All W7 w'∧Bz w w'),m.val.cell? ⟨wr.heap.size,2,none⟩=some (.slice p1 n1 q1):=fun m=>(sqK (m.ok.1.2 _ trivial l3)).trans z2;clear hfcs hfl r1 hatf hW7 K7 y0 y1 y2 y3 m0 z0 z1 z2 l1 l2 l3 bA7 bM7
       cases hnm:(x.name.toList == qm.toList) with
       | false =>
        have HJ:Hid (named qm x=true→(x.funs.take (j+1)).any (sameR ⟨qn,qa⟩)=false):=fun h=>by rw [named,hnm] at h;cases h
        clear hbj;go_wp2_with fail;rw [← HW7.out];have hCne:Nonempty (Wd (fun w'=>SameOn All W7 w'∧Bz w w')):=⟨⟨W7.drew,⟨⟨Nat.le_refl _,fun _ _ _=>rfl⟩,B7.out.drew⟩⟩⟩;refine wp_region_class (fun w'=>SameOn All W7 w'∧Bz w w') (by kernel_rfl) (by kernel_rfl) ⟨⟨Nat.le_refl _,fun _ _ _=>rfl⟩,B7.out.drew⟩ ?_
        repeat (go_big_quiet_step (fail))
        refine wpQuiet_nil ?_;rintro _ ⟨mq,rfl⟩;have HB8:=hid mq.ok.2;have HS8:=hid (S7.out.trans mq.ok.1);generalize mq.val=w8 at HB8 HS8 ⊢;clear qy0 qy1 qy2 qy3 qm0 qz0 qz1 qz2;go_wp2_with fail;exact ⟨⟨j+1,by omega,by go_num,HJ.out,HS8.out,HB8.out⟩,by simp [intOf];omega⟩
       | true =>
        have HNM:=hid hnm;have e1:=refG;have e2:=refE;clear hbj;go_wp2_with fail;rw [← HW7.out];have hCne:Nonempty (Wd (fun w'=>SameOn All W7 w'∧Bz w w')):=⟨⟨W7.drew,⟨⟨Nat.le_refl _,fun _ _ _=>rfl⟩,B7.out.drew⟩⟩⟩;refine wp_region_class (fun w'=>SameOn All W7 w'∧Bz w w') (by kernel_rfl) (by kernel_rfl) ⟨⟨Nat.le_refl _,fun _ _ _=>rfl⟩,B7.out.drew⟩ ?_
        repeat (go_big_quiet_step (first | (rename_i mm;go_at_call 93;refine (refOf_any _ _ _ _ _ _).mono ?_;rintro e w1 ⟨rfl,hb1⟩;exact ⟨rfl,⟨⟨w1,⟨(SameOn.trans mm.ok.1 (sqO hb1)),mm.ok.2.trans (hb1.mono mm.ok.2.size)⟩⟩,rfl⟩⟩) | (rename_i mm;go_at_call 51;refine (refAt_any ⟨qm,qn,qa,qc⟩ _).mono ?_;rintro e w1 ⟨rfl,hb1⟩;exact ⟨rfl,⟨⟨w1,⟨(SameOn.trans mm.ok.1 (sqO hb1)),mm.ok.2.trans (hb1.mono mm.ok.2.size)⟩⟩,rfl⟩⟩)))
        refine wpQuiet_nil ?_;rintro _ ⟨mq,rfl⟩;have HB8:=hid mq.ok.2;have HS8:=hid (S7.out.trans mq.ok.1);generalize mq.val=w8 at HB8 HS8 ⊢;clear qy0 qy1 qy2 qy3 qm0 qz0 qz1 qz2 e1 e2;generalize hcv:(y.name.toList == qn.toList && y.arity == qa)=cv;have HC2:Hid (cv=false→(x.funs.take (j+1)).any (sameR ⟨qn,qa⟩)=false):=fun h=>anyT_succ _ x.funs j _ hyj (halj.out HNM.out) (show (y.name.toList == qn.toList && y.arity == qa)=false from hcv.trans h);have HC3:Hid (cv=true→x.funs.find? (sameR ⟨qn,qa⟩)=some y):=fun h=>find_first (halj.out HNM.out) hyj (show (y.name.toList == qn.toList && y.arity == qa)=true from hcv.trans h);clear hcv
        cases cv with
        | false =>
         have HT':=hid (HC2.out rfl);clear HC2 HC3;go_wp2_with fail;exact ⟨⟨j+1,by omega,by go_num,fun _=>HT'.out,HS8.out,HB8.out⟩,by simp [intOf];omega⟩
        | true =>
         have HF:=hid (HC3.out rfl);have m2:=(bM.out.same_on HS8.out).cell 2 _ rfl;have HYJ:=hid hyj;clear HC2 HC3 hyj;go_wp2_with fail;go_ret;refine ⟨.inr ⟨gf,of+j * 3,k,j,x,y,rfl,HXK.out,HNM.out,HYJ.out,HF.out,halj.out HNM.out,Nat.lt_of_lt_of_le hgf HB8.out.size,⟨g,off,cap,of,cf,by rw [HN.out],by rw [HNF.out];exact (HB8.out.cell (p:=⟨g,_,none⟩) hgl).trans HA2.out,rfl⟩,⟨_,HFC.out.1,fun i hi=>(HB8.out.cell (p:=⟨gf,_,none⟩) hgf).trans (HFC.out.2.1 i hi),HFC.out.2.2.mono (sqO HB8.out) (fun _ h=>h)⟩⟩,HB8.out⟩
     · have HT':Hid ((ms.take (k+1)).any (hasAt ⟨qm,qn,qa,qc⟩)=false):=anyT_succ _ ms k _ HXK.out hall.out (by
        have:=halj.out;rw [List.take_of_length_le (by rw [HNF.out];omega)] at this;show (named qm x && x.funs.any (sameR ⟨qn,qa⟩))=false
        cases hn:named qm x with
        | false=>rfl
        | true=>rw [this hn];rfl)
       have HS9:=hid (S5.out.trans hsj.out);have HB9:=hid hbj;clear hbj;go_wp2_with fail;exact ⟨⟨k+1,by omega,by go_num,HT'.out,HS9.out,HB9.out⟩,by simp [intOf];omega⟩
  · have HD:Hid (ms.any (hasAt ⟨qm,qn,qa,qc⟩)=false):=by
     have:=hall.out
     rwa [List.take_of_length_le (by rw [HN.out];omega)] at this
    clear hb;go_wp2_with fail;go_ret;exact ⟨.inl ⟨rfl,HD.out⟩,HB.out⟩
theorem Got.once {d:Nat} {x:Ex} {l m:List ByteArray} (h:Got d x l) (hs:∀ s ∈ m,keyS s ∈ varL d x∧okS s):Got d x (onceS l m) :=
 ⟨onceS_nd _ _ h.nd,fun s hs'=>by rcases onceS_mem _ _ s hs' with h1 | h1;exact h.sub s h1;exact (hs s h1).1,fun s hs'=>by rcases onceS_mem _ _ s hs' with h1 | h1;exact h.ok s h1;exact (hs s h1).2⟩
def ExAt (w:World) (d:Nat) (p:Option Addr) (ks:List Ex):Prop:=ks≠[]→∃ g off,p=some ⟨g,off,none⟩∧All g∧g<w.heap.size∧∀ i x,ks[i]?=some x→∃ cs,cs.length=6∧(∀ j,j<6→w.cell? ⟨g,off+i * 6+j,none⟩=cs[j]?)∧HEx w All d cs x
theorem foldC_snoc (f:Ex→List ByteArray) (l:List ByteArray) (cs:List Cl) (k:Nat) (c:Cl) (h:cs[k]?=some c):(cs.take (k+1)).foldl (allC f) l=foldV f (foldV f ((cs.take k).foldl (allC f) l) c.1) c.2:=by
 rw [List.take_add_one,h];simp [allC]
theorem all_of {d:Nat} (hE:NmC 59 d (allV d)):NmC 59 (d+1) (allV (d+1)):=by
 intro w cs x h hwt;have hok:=h.txts;have HEX:=hid h;obtain ⟨kv,cv,rfl,-,-,hts,hms,f0,f1⟩:=h;obtain ⟨kx,nx,tx,mx,ks,cl⟩:=x;simp only [Ex.kind,Ex.n,Ex.text,Ex.mod,Ex.kids,Ex.clauses] at *;have hw:wtEx (d+1) (.mk kx nx tx mx ks cl)=tx.size+mx.size+wtS (wtEx d) ks+wtS (wtCl (wtEx d)) cl:=rfl;have wks:wtS (wtEx d) ks≤16777216:=(by omega);have wcl:wtS (wtCl (wtEx d)) cl≤16777216:=(by omega);obtain ⟨p,cap,rfl,hcl,hcm,hx⟩:=f0;obtain ⟨pc,capc,rfl,hcl',hcm',hxc⟩:=f1;have hnb:=sqM hcl hcm;have hnc:=sqM hcl' hcm';have HX:=hid hx;have HXC:=hid hxc;have HW:=hid hwt;have HOK:=hid hok
 -- how the kids and the clauses' expressions are bounded
 have BK:Hid (∀ (j:Nat) y,ks[j]?=some y→wtEx d y≤16777216∧(∀ s ∈ allV d y,keyS s ∈ varL (d+1) (.mk kx nx tx mx ks cl)∧okS s)∧exS d y):=fun j y hj=>by
  have h1:=sum_take_succ (wtEx d) ks j y hj;have h2:=sum_take_le (wtEx d) ks (j+1);have hm:=List.mem_of_getElem? hj;exact ⟨by unfold wtS at wks;omega,fun s hs=>⟨varL_kid hm (allV_sub d y s hs),allV_ok d y (hok.2.1 y hm) s hs⟩,hok.2.1 y hm⟩
 have BC:Hid (∀ (i:Nat) c,cl[i]?=some c→∀ y,(y ∈ c.1∨y ∈ c.2)→wtEx d y≤16777216∧(∀ s ∈ allV d y,keyS s ∈ varL (d+1) (.mk kx nx tx mx ks cl)∧okS s)∧exS d y):=fun i c hi y hy=>by
  have h1:=sum_take_succ (wtCl (wtEx d)) cl i c hi;have h2:=sum_take_le (wtCl (wtEx d)) cl (i+1);have hm:=List.mem_of_getElem? hi;have hc:wtCl (wtEx d) c=wtS (wtEx d) c.1+wtS (wtEx d) c.2:=rfl
  have hy':wtEx d y≤wtCl (wtEx d) c:=by
   rcases hy with hy | hy
   · obtain ⟨q,hq⟩:=List.mem_iff_getElem?.1 hy
     have g1:=sum_take_succ (wtEx d) c.1 q y hq;have g2:=sum_take_le (wtEx d) c.1 (q+1);unfold wtS at hc;omega
   · obtain ⟨q,hq⟩:=List.mem_iff_getElem?.1 hy
     have g1:=sum_take_succ (wtEx d) c.2 q y hq;have g2:=sum_take_le (wtEx d) c.2 (q+1);unfold wtS at hc;omega
  have he:exS d y:=by
   rcases hy with hy | hy
   · exact (hok.2.2 c hm).1 y hy
   · exact (hok.2.2 c hm).2 y hy
  exact ⟨by unfold wtS at wcl;omega,fun s hs=>⟨varL_cl hm hy (allV_sub d y s hs),allV_ok d y he s hs⟩,he⟩
 have G0:Hid (Got (d+1) (.mk kx nx tx mx ks cl) (patV (d+1) (.mk kx nx tx mx ks cl))):=⟨patV_nd _ _,patV_sub _ _,patV_ok _ _ hok⟩;have hall:allV (d+1) (.mk kx nx tx mx ks cl)=cl.foldl (allC (allV d)) (foldV (allV d) (patV (d+1) (.mk kx nx tx mx ks cl)) ks):=rfl;rw [hall];generalize hP0:patV (d+1) (.mk kx nx tx mx ks cl)=P0 at *;have HP0:=hid hP0;clear hx hxc hwt hok hall hP0 hw;generalize hn:ks.length=n at *;have HN:=hid hn;generalize hm:cl.length=nc at *;have HNC:=hid hm;clear hn hm;have bA:Hid (Blk (w.alloc (.cells #[.int .i64 kx,.int .i64 nx,.string tx,.string mx,.slice p n cap,.slice pc nc capc] 76)) w.heap.size #[.int .i64 kx,.int .i64 nx,.string tx,.string mx,.slice p n cap,.slice pc nc capc] 76):=Blk.new;have BA:Hid (Bz w (w.alloc (.cells #[.int .i64 kx,.int .i64 nx,.string tx,.string mx,.slice p n cap,.slice pc nc capc] 76))):=(sqN _ _);have EA:=hid (HEX.out.mono (sqO BA.out) (fun _ h=>h));go_enter func59,ntmps59;go_wp2_with fail;have q0:=patVars_all (d+1) _ _ _ EA.out HW.out;rw [HP0.out] at q0;refine q0.mono ?_;rintro e w1 ⟨u1,rfl,ho1,hb1⟩;have O1:=hid (ho1.base BA.out.size);have B1:=hid (BA.out.trans (hb1.mono BA.out.size));have b1:=hid (bA.out.next hb1);clear q0 ho1 hb1 EA bA BA HEX;go_wp2_with fail
 go_loopw [3,4] (fun ov iv wr=>∃ k:Nat,k≤n∧iv=.int .i64 k∧Hid (OwnS wr w.heap.size ov (foldV (allV d) P0 (ks.take k)))∧Hid (Got (d+1) (.mk kx nx tx mx ks cl) (foldV (allV d) P0 (ks.take k)))∧Hid (Blk wr w.heap.size #[.int .i64 kx,.int .i64 nx,.string tx,.string mx,.slice p n cap,.slice pc nc capc] 76)∧Hid (Bz w wr)) (fun _ iv _=>n - (intOf iv).toNat)
 case atStart=>exact ⟨0,Nat.zero_le _,rfl,O1.out,G0.out,b1.out,B1.out⟩
 case round =>
  obtain ⟨k,hk,rfl,ho,hg,hbk,HB⟩:=hrel;clear O1 b1 B1;have xa4:=hbk.out.cell 4 _ rfl;have xa5:=hbk.out.cell 5 _ rfl;by_cases hlt:k<n
  · obtain ⟨x,hxk⟩:=sqA (l:=ks) (k:=k) HN.out hlt
    obtain ⟨g,off,rfl,-,hgl,hat⟩:=HX.out (sqE hxk);obtain ⟨cs,hcsl,hcs,r1⟩:=hat k x hxk;have E1:∀ w',Bz w w'→HEx w' All d cs x:=fun w' hw=>r1.mono (sqO hw) (fun _ h=>h);obtain ⟨c0,c1,c2,c3,c4,c5,rfl⟩:=len6 hcsl;obtain ⟨a0,a1,a2,a3,a4,a5⟩:=sqC6 hcs (by omega);rw [← HB.out.cell (p:=⟨g,_,none⟩) hgl] at a0 a1 a2 a3 a4 a5;simp at a0 a1 a2 a3 a4 a5;have hki:(k:Int)<(n:Int):=(by omega);have hk0:=sqI k;obtain ⟨wx,sx,ex⟩:=BK.out k x hxk;have GX:=hid (hg.out.once sx);have HJ:Hid (foldV (allV d) P0 (ks.take (k+1))=onceS (foldV (allV d) P0 (ks.take k)) (allV d x)):=foldV_snoc _ _ ks k x hxk;have lq:=hg.out.len HW.out;have lx:=(allV_got ex).len wx;have OX:Hid (∀ s ∈ allV d x,okS s):=fun s hs=>(sx s hs).2;have OJ:=hid hg.out.ok;generalize hJ0:foldV (allV d) P0 (ks.take k)=J at *;clear hcs hat hcsl r1 hJ0 hg sx;go_wp2_with fail;refine (hE _ _ x (E1 _ HB.out) wx).mono ?_;rintro e w4 ⟨u4,rfl,ho4,hb4⟩;have HB4:=hid (HB.out.trans (hb4.mono HB.out.size));have SV:Hid (StrV w4 u3 J):=(ho.out.next hb4).strV OJ.out;have SR:=hid (ho4.strR OX.out);have bk4:=hid (hbk.out.next hb4);clear hb4 ho4 xa4 xa5 a0 a1 a2 a3 a4 a5;go_wp2_with fail;refine (once_any _ _ _ J (allV d x) SV.out SR.out (by omega)).mono ?_;rintro e w5 ⟨u5,rfl,ho5,hb5⟩;have HB5:=hid (HB4.out.trans (hb5.mono HB4.out.size));have HO5:=hid (ho5.base HB4.out.size);have bk5:=hid (bk4.out.next hb5);clear hb5 ho5;go_wp2_with fail;exact ⟨⟨k+1,by omega,by go_num,by show OwnS _ _ _ _;rw [HJ.out];exact HO5.out,by show Got _ _ _;rw [HJ.out];exact GX.out,bk5.out,HB5.out⟩,by simp [intOf];omega⟩
  · have HS:Hid (OwnS wr w.heap.size u3 (foldV (allV d) P0 ks)):=by
     have:=ho.out
     rwa [List.take_of_length_le (by rw [HN.out];omega)] at this
    have GS:Hid (Got (d+1) (.mk kx nx tx mx ks cl) (foldV (allV d) P0 ks)):=by
     have:=hg.out
     rwa [List.take_of_length_le (by rw [HN.out];omega)] at this
    generalize hP1:foldV (allV d) P0 ks=P1 at HS GS;have HP1:=hid hP1;clear hP1;clear ho hg;go_wp2_with fail
    go_loopw [3,5] (fun ov iv wr=>∃ i:Nat,i≤nc∧iv=.int .i64 i∧Hid (OwnS wr w.heap.size ov ((cl.take i).foldl (allC (allV d)) P1))∧Hid (Got (d+1) (.mk kx nx tx mx ks cl) ((cl.take i).foldl (allC (allV d)) P1))∧Hid (Blk wr w.heap.size #[.int .i64 kx,.int .i64 nx,.string tx,.string mx,.slice p n cap,.slice pc nc capc] 76)∧Hid (Bz w wr)) (fun _ iv _=>nc - (intOf iv).toNat)
    case atStart=>exact ⟨0,Nat.zero_le _,rfl,HS.out,GS.out,hbk.out,HB.out⟩
    case round =>
     clear HS GS hbk HB xa4 xa5;obtain ⟨i,hi,rfl,hoI,hgI,hbI,HBI⟩:=hrel;have xa5:=hbI.out.cell 5 _ rfl;by_cases hlt:i<nc
     · obtain ⟨c,hci⟩:∃ c,cl[i]?=some c:=⟨cl[i]'(by rw [HNC.out];exact hlt),List.getElem?_eq_getElem _⟩
       obtain ⟨gc,oc,rfl,-,hgcl,hat⟩:=HXC.out (sqE hci);obtain ⟨cs,hcsl,hcs,pv,bv,rfl,rp,rb⟩:=hat i c hci;obtain ⟨pp,capp,rfl,hp1,hp2,hxp⟩:=rp;obtain ⟨pb,capb,rfl,hb1,hb2,hxb⟩:=rb;obtain ⟨y0,y1⟩:=sqC2 hcs (by omega);simp at y0 y1;have hnp:c.1.length≤9223372036854775807:=(by unfold maxLen at hp2;omega);have hnb':c.2.length≤9223372036854775807:=(by unfold maxLen at hb2;omega);generalize hnp0:c.1.length=np at *;generalize hnb0:c.2.length=nb at *;have HN0:=hid hnp0;have HN1:=hid hnb0;have HXP0:=hid hxp;have HXP1:=hid hxb;have HP0c:=hid y0;have HP1c:=hid y1;have HJC:Hid ((cl.take (i+1)).foldl (allC (allV d)) P1=foldV (allV d) (foldV (allV d) ((cl.take i).foldl (allC (allV d)) P1) c.1) c.2):=foldC_snoc _ _ cl i c hci;have hii:(i:Int)<(nc:Int):=(by omega);have hi0:=sqI i;generalize (cl.take i).foldl (allC (allV d)) P1=J at *;clear hat hcs hcsl hxp hxb y0 y1 hnp0 hnb0;go_wp2_with fail
       go_loopw [3,6] (fun ov iv wr=>∃ k:Nat,k≤np∧iv=.int .i64 k∧Hid (OwnS wr w.heap.size ov (foldV (allV d) J (c.1.take k)))∧Hid (Got (d+1) (.mk kx nx tx mx ks cl) (foldV (allV d) J (c.1.take k)))∧Hid (Blk wr w.heap.size #[.int .i64 kx,.int .i64 nx,.string tx,.string mx,.slice p n cap,.slice (some ⟨gc,oc,none⟩) nc capc] 76)∧Hid (Bz w wr)) (fun _ iv _=>np - (intOf iv).toNat)
       case atStart=>exact ⟨0,Nat.zero_le _,rfl,hoI.out,hgI.out,hbI.out,HBI.out⟩
       case round =>
        obtain ⟨k,hk,rfl,ho,hg,hbk,HB⟩:=hrel;have xa5:=hbk.out.cell 5 _ rfl;have xp0:=(HB.out.cell (p:=⟨gc,oc+i * 2,none⟩) hgcl).trans HP0c.out;have xp1:=(HB.out.cell (p:=⟨gc,oc+i * 2+1,none⟩) hgcl).trans HP1c.out;by_cases hlk:k<np
        · obtain ⟨x,hxk⟩:∃ x,c.1[k]?=some x:=⟨c.1[k]'(by rw [HN0.out];exact hlk),List.getElem?_eq_getElem _⟩
          obtain ⟨g,off,rfl,-,hgl,hat⟩:=HXP0.out (sqE hxk);obtain ⟨cs,hcsl,hcs,r1⟩:=hat k x hxk;have E1:∀ w',Bz w w'→HEx w' All d cs x:=fun w' hw=>r1.mono (sqO hw) (fun _ h=>h);obtain ⟨c0,c1,c2,c3,c4,c5,rfl⟩:=len6 hcsl;obtain ⟨a0,a1,a2,a3,a4,a5⟩:=sqC6 hcs (by omega);rw [← HB.out.cell (p:=⟨g,_,none⟩) hgl] at a0 a1 a2 a3 a4 a5;simp at a0 a1 a2 a3 a4 a5;have hki:(k:Int)<(np:Int):=(by omega);have hk0:=sqI k;obtain ⟨wx,sx,ex⟩:=BC.out i c hci x (.inl (List.mem_of_getElem? hxk));have GX:=hid (hg.out.once sx);have HJ:Hid (foldV (allV d) J (c.1.take (k+1))=onceS (foldV (allV d) J (c.1.take k)) (allV d x)):=foldV_snoc _ _ c.1 k x hxk;have lq:=hg.out.len HW.out;have lx:=(allV_got ex).len wx;have OX:Hid (∀ s ∈ allV d x,okS s):=fun s hs=>(sx s hs).2;have OJ:=hid hg.out.ok;generalize hJ0:foldV (allV d) J (c.1.take k)=J at *;clear hcs hat hcsl r1 hJ0 hg sx;go_wp2_with fail;refine (hE _ _ x (E1 _ HB.out) wx).mono ?_;rintro e w4 ⟨u4,rfl,ho4,hb4⟩;have HB4:=hid (HB.out.trans (hb4.mono HB.out.size));have SV:Hid (StrV w4 u3 J):=(ho.out.next hb4).strV OJ.out;have SR:=hid (ho4.strR OX.out);have bk4:=hid (hbk.out.next hb4);clear hb4 ho4 xa5 xp0 xp1 a0 a1 a2 a3 a4 a5;go_wp2_with fail;refine (once_any _ _ _ J (allV d x) SV.out SR.out (by omega)).mono ?_;rintro e w5 ⟨u5,rfl,ho5,hb5⟩;have HB5:=hid (HB4.out.trans (hb5.mono HB4.out.size));have HO5:=hid (ho5.base HB4.out.size);have bk5:=hid (bk4.out.next hb5);clear hb5 ho5;go_wp2_with fail;exact ⟨⟨k+1,by omega,by go_num,by show OwnS _ _ _ _;rw [HJ.out];exact HO5.out,by show Got _ _ _;rw [HJ.out];exact GX.out,bk5.out,HB5.out⟩,by simp [intOf];omega⟩
        · have HS0:Hid (OwnS wr w.heap.size u3 (foldV (allV d) J c.1)):=by
           have:=ho.out
           rwa [List.take_of_length_le (by rw [HN0.out];omega)] at this
          have GS0:Hid (Got (d+1) (.mk kx nx tx mx ks cl) (foldV (allV d) J c.1)):=by
           have:=hg.out
           rwa [List.take_of_length_le (by rw [HN0.out];omega)] at this
          clear ho hg;have HBq:=hid HB.out;have hbq:=hid hbk.out;clear HB hbk;go_wp2_with fail
          go_loopw [3,7] (fun ov iv wr=>∃ k:Nat,k≤nb∧iv=.int .i64 k∧Hid (OwnS wr w.heap.size ov (foldV (allV d) (foldV (allV d) J c.1) (c.2.take k)))∧Hid (Got (d+1) (.mk kx nx tx mx ks cl) (foldV (allV d) (foldV (allV d) J c.1) (c.2.take k)))∧Hid (Blk wr w.heap.size #[.int .i64 kx,.int .i64 nx,.string tx,.string mx,.slice p n cap,.slice (some ⟨gc,oc,none⟩) nc capc] 76)∧Hid (Bz w wr)) (fun _ iv _=>nb - (intOf iv).toNat)
          case atStart=>exact ⟨0,Nat.zero_le _,rfl,HS0.out,GS0.out,hbq.out,HBq.out⟩
          case round =>
           obtain ⟨k,hk,rfl,ho,hg,hbk,HB⟩:=hrel;have xa5:=hbk.out.cell 5 _ rfl;have xp0:=(HB.out.cell (p:=⟨gc,oc+i * 2,none⟩) hgcl).trans HP0c.out;have xp1:=(HB.out.cell (p:=⟨gc,oc+i * 2+1,none⟩) hgcl).trans HP1c.out;by_cases hlk:k<nb
           · obtain ⟨x,hxk⟩:∃ x,c.2[k]?=some x:=⟨c.2[k]'(by rw [HN1.out];exact hlk),List.getElem?_eq_getElem _⟩
             obtain ⟨g,off,rfl,-,hgl,hat⟩:=HXP1.out (sqE hxk);obtain ⟨cs,hcsl,hcs,r1⟩:=hat k x hxk;have E1:∀ w',Bz w w'→HEx w' All d cs x:=fun w' hw=>r1.mono (sqO hw) (fun _ h=>h);obtain ⟨c0,c1,c2,c3,c4,c5,rfl⟩:=len6 hcsl;obtain ⟨a0,a1,a2,a3,a4,a5⟩:=sqC6 hcs (by omega);rw [← HB.out.cell (p:=⟨g,_,none⟩) hgl] at a0 a1 a2 a3 a4 a5;simp at a0 a1 a2 a3 a4 a5;have hki:(k:Int)<(nb:Int):=(by omega);have hk0:=sqI k;obtain ⟨wx,sx,ex⟩:=BC.out i c hci x (.inr (List.mem_of_getElem? hxk));have GX:=hid (hg.out.once sx);have HJ:Hid (foldV (allV d) (foldV (allV d) J c.1) (c.2.take (k+1))=onceS (foldV (allV d) (foldV (allV d) J c.1) (c.2.take k)) (allV d x)):=foldV_snoc _ _ c.2 k x hxk;have lq:=hg.out.len HW.out;have lx:=(allV_got ex).len wx;have OX:Hid (∀ s ∈ allV d x,okS s):=fun s hs=>(sx s hs).2;have OJ:=hid hg.out.ok;generalize hJ0:foldV (allV d) (foldV (allV d) J c.1) (c.2.take k)=J at *;clear hcs hat hcsl r1 hJ0 hg sx;go_wp2_with fail;refine (hE _ _ x (E1 _ HB.out) wx).mono ?_;rintro e w4 ⟨u4,rfl,ho4,hb4⟩;have HB4:=hid (HB.out.trans (hb4.mono HB.out.size));have SV:Hid (StrV w4 u3 J):=(ho.out.next hb4).strV OJ.out;have SR:=hid (ho4.strR OX.out);have bk4:=hid (hbk.out.next hb4);clear hb4 ho4 xa5 xp0 xp1 a0 a1 a2 a3 a4 a5;go_wp2_with fail;refine (once_any _ _ _ J (allV d x) SV.out SR.out (by omega)).mono ?_;rintro e w5 ⟨u5,rfl,ho5,hb5⟩;have HB5:=hid (HB4.out.trans (hb5.mono HB4.out.size));have HO5:=hid (ho5.base HB4.out.size);have bk5:=hid (bk4.out.next hb5);clear hb5 ho5;go_wp2_with fail;exact ⟨⟨k+1,by omega,by go_num,by show OwnS _ _ _ _;rw [HJ.out];exact HO5.out,by show Got _ _ _;rw [HJ.out];exact GX.out,bk5.out,HB5.out⟩,by simp [intOf];omega⟩
           · have HS1:Hid (OwnS wr w.heap.size u3 (foldV (allV d) (foldV (allV d) J c.1) c.2)):=by
              have:=ho.out
              rwa [List.take_of_length_le (by rw [HN1.out];omega)] at this
             have GS1:Hid (Got (d+1) (.mk kx nx tx mx ks cl) (foldV (allV d) (foldV (allV d) J c.1) c.2)):=by
              have:=hg.out
              rwa [List.take_of_length_le (by rw [HN1.out];omega)] at this
             clear ho hg;go_wp2_with fail;exact ⟨⟨i+1,by omega,by go_num,by show OwnS _ _ _ _;rw [HJC.out];exact HS1.out,by show Got _ _ _;rw [HJC.out];exact GS1.out,hbk.out,HB.out⟩,by simp [intOf];omega⟩
     · have HS2:Hid (OwnS wr w.heap.size u3 (cl.foldl (allC (allV d)) P1)):=by
        have:=hoI.out
        rwa [List.take_of_length_le (by rw [HNC.out];omega)] at this
       clear hoI hgI;go_wp2_with fail;go_ret;exact ⟨u3,rfl,by show OwnS _ _ _ _;rw [HP1.out];exact HS2.out,HBI.out⟩
theorem all_all:∀ d,NmC 59 d (allV d)
 | 0=>fun w cs x h _=>h.elim
 | d+1=>all_of (all_all d)
theorem OwnS.form {w:World} {B:Nat} {v:Value} {l:List ByteArray} (h:OwnS w B v l) (hn:v≠.slice none 0 0):∃ g cap,v=.slice (some ⟨g,0,none⟩) l.length cap∧l.length≤cap∧cap≤maxLen∧B≤g∧g<w.heap.size:=by
 rcases h.1.2 with ⟨hv,_⟩ | ⟨g,cap,cur,hv,hB,hg,h1,h2,_⟩
 · exact absurd hv hn
 · exact ⟨g,cap,hv,h1,h2,hB,(Array.getElem?_eq_some_iff.1 hg).1⟩
theorem OwnS.cellS {w:World} {B g n cap:Nat} {l:List ByteArray} (h:OwnS w B (.slice (some ⟨g,0,none⟩) n cap) l) (hn:l.length=n) (k:Nat) (x:ByteArray) (hk:l[k]?=some x):w.cell? ⟨g,k,none⟩=some (.string x):=by
 subst hn;exact (h.1.cellAt k (by have:=(List.getElem?_eq_some_iff.1 hk).1;omega)).trans (by simp [strs,hk])
theorem lit0_owns {W:World} {B b:Nat} (h:W.heap[b]?=some (.cells #[] 9)) (hB:B≤b):W.ownsRow B 9 1 (.slice (some ⟨b,0,none⟩) 0 0) 0 [] :=
 ⟨rfl,.inr ⟨b,0,#[],rfl,hB,h,Nat.le_refl _,Nat.zero_le _,rfl,rfl⟩⟩
theorem lit_at1 (W:World) (o o':Obj):((W.alloc o).alloc o').drew.heap[W.heap.size+1]?=some o':=by
 show ((W.heap.push o).push o')[W.heap.size+1]?=some o';have:(W.heap.push o).size=W.heap.size+1:=(by simp);rw [← this,Array.getElem?_push_size]
theorem lit1_at (W:World) (s:ByteArray) (o:Obj) (b:Nat) (hb:b=W.heap.size+1):((W.alloc o).alloc (.cells #[.string s] 9)).drew.cell? ⟨b,0,none⟩=some (.string s):=by
 subst hb;exact Blk.cell (cs:=#[.string s]) (t:=9) (lit_at1 W o _) 0 _ rfl
theorem lit1_old (W:World) (s:ByteArray) (o:Obj):((W.alloc (.cells #[.string s] 9)).alloc o).drew.cell? ⟨W.heap.size,0,none⟩=some (.string s) :=
 Blk.cell (cs:=#[.string s]) (t:=9) ((Blk.new (w:=W)).alloc (o:=o)) 0 _ rfl
theorem one_at {W:World} {b:Nat} {s:ByteArray} (h:W.cell? ⟨b,0,none⟩=some (.string s)):∀ j u,(strs [s])[j]?=some u→W.cell? ((⟨b,0,none⟩:Addr).add j)=some u:=by
 intro j u hj
 match j,hj with
 | 0,hj=>simp [strs] at hj;subst hj;exact h
theorem news_of {W W0:World} {B g n cap:Nat} {J:List ByteArray} (h:OwnS W0 B (.slice (some ⟨g,0,none⟩) n cap) J) (hn:J.length=n) (he:W.heap[g]?=W0.heap[g]?) (a:Nat):∀ j u,(strs (J.take a))[j]?=some u→W.cell? ((⟨g,0,none⟩:Addr).add j)=some u:=by
 intro j u hj
 have ea:(⟨g,0,none⟩:Addr).add j=⟨g,j,none⟩:=by cases j <;> simp [Addr.add]
 rw [ea,sqK he];simp only [strs,List.map_take,List.getElem?_take] at hj
 split at hj
 · rw [List.getElem?_map,Option.map_eq_some_iff] at hj
   obtain ⟨x,hx,rfl⟩:=hj;exact h.cellS hn j x hx
 · cases hj
theorem news_from {W W0:World} {B g n cap:Nat} {J:List ByteArray} (h:OwnS W0 B (.slice (some ⟨g,0,none⟩) n cap) J) (hn:J.length=n) (he:W.heap[g]?=W0.heap[g]?) (a oa:Nat) (ho:a<J.length→oa=a):∀ j u,(strs (J.drop a))[j]?=some u→W.cell? ((⟨g,oa,none⟩:Addr).add j)=some u:=by
 intro j u hj;simp only [strs,List.map_drop,List.getElem?_drop,List.getElem?_map,Option.map_eq_some_iff] at hj;obtain ⟨x,hx,rfl⟩:=hj;have hlt:=(List.getElem?_eq_some_iff.1 hx).1;obtain rfl:=ho (by omega)
 have ea:(⟨g,oa,none⟩:Addr).add j=⟨g,oa+j,none⟩:=by cases j <;> simp [Addr.add]
 rw [ea,sqK he];exact h.cellS hn (oa+j) x hx
theorem own_nextS {w w':World} {B c n:Nat} {e:TypeId} {v:Value} {xs:List Value} (h:w.ownsRow B e c v n xs) (hb:Bz w w'):w'.ownsRow B e c v n xs:=by
 refine ⟨h.1,?_⟩
 rcases h.2 with hn | ⟨g,cap,cur,hv,hB,hg,hr⟩
 · exact .inl hn
 · exact .inr ⟨g,cap,cur,hv,hB,(hb.block g (Array.getElem?_eq_some_iff.1 hg).1).trans hg,hr⟩
theorem below_own {N:Nat} {a b c:World} {v:Value} {e:TypeId} {k n:Nat} {xs:List Value} (h:Below N a b) (hN:N≤a.heap.size) (ho:b.ownsRow N e k v n xs) (hg:b.grownBy c v.ownBlock):Below N a c:=by
 refine ⟨hg.os.trans h.os,hg.tape.trans h.tape,hg.output.trans h.output,Nat.le_trans h.size hg.size,fun j hj=>?_⟩;refine (hg.block j (Nat.lt_of_lt_of_le hj (Nat.le_trans hN h.size)) (fun e=>?_)).trans (h.block j hj)
 rcases ho.2 with hn | ⟨g',cap',cur,hv',hB,hg',_⟩
 · rw [hn.1] at e;cases e
 · rw [hv'] at e
   simp [Value.ownBlock] at e;omega
theorem sorted_any (w:World) (v:Value) (xs:List ByteArray) (h:StrR w v xs) (hl:xs.length≤33554432) :
 Calls prog 60 #[v] w fun e w'=>∃ u,e=.returned u∧OwnS w' w.heap.size u (sortS xs)∧Bz w w':=by
 obtain ⟨i0,hi,hz0,hz1,hz2⟩:=info_parts info_str;obtain ⟨p,cap,rfl,hcl,hcm,hx⟩:=h
 have HX:Hid (∀ k x,xs[k]?=some x→∃ g off,p=some ⟨g,off,none⟩∧g<w.heap.size∧w.cell? ⟨g,off+k,none⟩=some (.string x)):=fun k x hk=>by
  obtain ⟨g,off,e,_,hg,hat⟩:=hx (by intro e;rw [e] at hk;simp at hk);obtain ⟨cs,_,hcs,rfl,_⟩:=hat k x hk;have:=hcs 0 (by decide);simp only [Nat.mul_one,Nat.add_zero,List.getElem?_cons_zero] at this;exact ⟨g,off,e,hg,this⟩
 clear hx;have O0:Hid (OwnS (w.alloc (.cells #[] 9)) w.heap.size (.slice (some ⟨w.heap.size,0,none⟩) 0 0) []):=OwnS.fresh;have B0:Hid (Bz w (w.alloc (.cells #[] 9))):=(sqN _ _);generalize hn:xs.length=n at *;have HN:=hid hn;clear hn;go_enter func60,ntmps60;go_wp2_with fail
 go_loopw [3,4] (fun ov iv wr=>∃ k:Nat,k≤n∧iv=.int .i64 k∧Hid (OwnS wr w.heap.size ov (sortS (xs.take k))∧ov≠.slice none 0 0)∧Hid (Bz w wr)) (fun _ iv _=>n - (intOf iv).toNat)
 case atStart=>exact ⟨0,Nat.zero_le _,rfl,⟨O0.out,by simp⟩,B0.out⟩
 case round =>
  clear O0 B0;obtain ⟨k,hk,rfl,ho,HB⟩:=hrel;obtain ⟨g3,c3,hu3,hc3,hc3',hB3,hg3⟩:=OwnS.form ho.out.1 ho.out.2;subst hu3;by_cases hlt:k<n
  · obtain ⟨s,hsk⟩:=sqA (l:=xs) (k:=k) HN.out hlt
    obtain ⟨gx,ox,rfl,hgx,cx⟩:=HX.out k s hsk;have hjl:=sortS_len xs k;have HJ:Hid (sortS (xs.take (k+1))=insS (sortS (xs.take k)) s):=sortS_snoc xs k s hsk;generalize hJ:sortS (xs.take k)=J at *;have HO:Hid (OwnS wr w.heap.size (.slice (some ⟨g3,0,none⟩) J.length c3) J):=ho.out.1;have HCX:=hid cx;generalize hm:J.length=m at *;have HM:=hid hm;clear ho cx hJ hm;go_wp2_with fail
    go_loopw [5] (fun av wq=>∃ (a q:Nat),a≤m∧av=.int .i64 a∧wq=wr.drewN q∧Hid (∀ j x,j<a→J[j]?=some x→ltS x s=true)) (fun av _=>m - (intOf av).toNat)
    case atStart=>exact ⟨0,0,Nat.zero_le _,rfl,rfl,fun j x hj=>by omega⟩
    case round =>
     obtain ⟨a,q,ha,rfl,rfl,HA⟩:=hrel;have cx:wr.cell? ⟨gx,ox+k,none⟩=some (.string s):=(HB.out.cell (p:=⟨gx,_,none⟩) hgx).trans HCX.out;by_cases hlm:a<m
     · obtain ⟨y,hya⟩:∃ y,J[a]?=some y:=⟨J[a]'(by rw [HM.out];exact hlm),List.getElem?_eq_getElem _⟩
       have cy:wr.cell? ⟨g3,a,none⟩=some (.string y):=HO.out.cellS HM.out a y hya
       cases hys:Op.bytesLess y.toList s.toList with
       | true =>
        go_wp2_with fail
        go_quiet (fail)
        go_wp2_with fail;refine ⟨⟨a+1,q+nq,by omega,by go_num,rfl,fun j x hj hx=>?_⟩,by simp [intOf];omega⟩;by_cases hja:j<a
        · exact HA.out j x hja hx
        · obtain rfl:j=a:=by omega
          obtain rfl:y=x:=Option.some.inj (hya.symm.trans hx);exact hys
       | false =>
        go_wp2_with fail
        go_quiet (fail)
        go_wp2_with fail;have cxA:((wr.drewN q).drewN nq).cell? ⟨gx,ox+k,none⟩=some (.string s):=cx;have cyA:((wr.drewN q).drewN nq).cell? ⟨g3,a,none⟩=some (.string y):=cy;have HOA:Hid (OwnS ((wr.drewN q).drewN nq) w.heap.size (.slice (some ⟨g3,0,none⟩) m c3) J):=HO.out;have HBA:Hid (Bz w ((wr.drewN q).drewN nq)):=below_drewN (below_drewN HB.out q) nq;clear cx cy HO HB hg3;generalize (wr.drewN q).drewN nq=wA at cxA cyA HOA HBA ⊢;have hne:((a:Int) == (m:Int))=false:=(by simp;omega);have hne2:(a == m)=false:=(by simp;omega)
        have HIN:Hid (insS J s=if y.toList=s.toList then J else J.take a ++ s :: J.drop a):=by
         have:=insS_at J s a (by rw [HM.out];exact ha) HA.out (fun x hx=>by obtain rfl:y=x:=Option.some.inj (hya.symm.trans hx);exact hys);rw [hya] at this;exact this
        cases hyq:(y.toList == s.toList) with
        | true =>
         have HIJ:Hid (sortS (xs.take (k+1))=J):=by
          show _=_;rw [HJ.out,HIN.out,if_pos (beq_iff_eq.1 hyq)]
         go_quiet (fail)
         go_wp2_with fail;exact ⟨⟨k+1,by omega,by go_num,⟨by rw [HIJ.out];exact HOA.out,by simp⟩,below_drewN HBA.out nq⟩,by simp [intOf];omega⟩
        | false =>
         go_quiet (fail)
         go_wp2_with fail;have hac:a≤c3:=(by omega);have LT:Hid ((strs (J.take a)).length=a * 1):=(by show _=_;rw [strs_length,List.length_take,HM.out];omega);have LD:Hid ((strs (J.drop a)).length=(m - a) * 1):=(by show _=_;rw [strs_length,List.length_drop,HM.out];omega);have HOW:Hid (OwnS (wA.drewN nq) w.heap.size (.slice (some ⟨g3,0,none⟩) m c3) J):=HOA.out;have HBW:Hid (Bz w (wA.drewN nq)):=below_drewN HBA.out nq;have cxW:(wA.drewN nq).cell? ⟨gx,ox+k,none⟩=some (.string s):=cxA;clear cxA cyA HOA HBA;generalize wA.drewN nq=W0 at HOW HBW cxW ⊢;have hg3W:g3<W0.heap.size:=(HOW.out.off rfl).2;have hgxW:gx<W0.heap.size:=Nat.lt_of_lt_of_le hgx HBW.out.size;obtain ⟨oa,hoe,hoa⟩:∃ oa,oa=a∧(a<J.length→oa=a):=⟨_,rfl,(fun _=>rfl)⟩
         go_region_held_law (fun w'=>w'.cell? ⟨gx,ox+k,none⟩=some (.string s))
          (first | assumption | go_keep | (go_split_ands;exact cell_next ((sqN _ _)) (by assumption)))
          (first
           | (refine step_append_own (W0.alloc (.cells #[] 9)).drew (by rfl) _ _ _ (by rfl) W0.heap.size 9 i0 (.string ⟨#[]⟩) 1 16 underlying51 hi hz0 hz1 hz2 rfl (by decide) (.slice (some ⟨W0.heap.size,0,none⟩) 0 0) 0 [] (by rfl) (lit0_owns (W:=(W0.alloc (.cells #[] 9)).drew) (b:=W0.heap.size) (Blk.new (w:=W0)) (by simp)) ⟨g3,0,none⟩ a c3 (strs (J.take a)) (by rfl) LT.out (news_of HOW.out HM.out (((Below.refl W0.heap.size W0).alloc (sqR _) (.cells #[] 9)).drew.block g3 hg3W) a) (strs_oneCell _) (by unfold maxLen;omega) (by omega) ((Below.refl W0.heap.size W0).alloc (sqR _) (.cells #[] 9)).drew.size ?_;intro v1 w1 hown1 hgr1 hv1;have O1:=hid hown1;have K1:Hid (Bz W0 w1):=below_own ((Below.refl W0.heap.size W0).alloc (sqR _) (.cells #[] 9)).drew (sqR _) (lit0_owns (W:=(W0.alloc (.cells #[] 9)).drew) (b:=W0.heap.size) (Blk.new (w:=W0)) (by simp)) hgr1;have cx1:=cell_next K1.out cxW)
           | (refine step_append_own ((W0.alloc (.cells #[] 9)).alloc (.cells #[.string s] 9)).drew (by rfl) _ _ _ (by rfl) W0.heap.size 9 i0 (.string ⟨#[]⟩) 1 16 underlying51 hi hz0 hz1 hz2 rfl (by decide) (.slice (some ⟨W0.heap.size,0,none⟩) 0 0) 0 [] (by rfl) (lit0_owns (W:=((W0.alloc (.cells #[] 9)).alloc (.cells #[.string s] 9)).drew) (b:=W0.heap.size) ((Blk.new (w:=W0)).alloc) (by simp)) ⟨g3,0,none⟩ a c3 (strs (J.take a)) (by rfl) LT.out (news_of HOW.out HM.out ((((Below.refl W0.heap.size W0).alloc (sqR _) (.cells #[] 9)).alloc (by simp) (.cells #[.string s] 9)).drew.block g3 hg3W) a) (strs_oneCell _) (by unfold maxLen;omega) (by omega) (((Below.refl W0.heap.size W0).alloc (sqR _) (.cells #[] 9)).alloc (by simp) (.cells #[.string s] 9)).drew.size ?_;intro v1 w1 hown1 hgr1 hv1;have O1:=hid hown1;have K1:Hid (Bz W0 w1):=below_own (((Below.refl W0.heap.size W0).alloc (sqR _) (.cells #[] 9)).alloc (by simp) (.cells #[.string s] 9)).drew (sqR _) (lit0_owns (W:=((W0.alloc (.cells #[] 9)).alloc (.cells #[.string s] 9)).drew) (b:=W0.heap.size) ((Blk.new (w:=W0)).alloc) (by simp)) hgr1;have cx1:=cell_next K1.out cxW;have N1:Hid (w1.cell? ⟨W0.heap.size+1,0,none⟩=some (.string s)):=(sqK (hgr1.block (W0.heap.size+1) (by simp) (by simp [Value.ownBlock]))).trans (lit1_at W0 s _ _ rfl))
           | (refine step_append_own ((W0.alloc (.cells #[.string s] 9)).alloc (.cells #[] 9)).drew (by rfl) _ _ _ (by rfl) W0.heap.size 9 i0 (.string ⟨#[]⟩) 1 16 underlying51 hi hz0 hz1 hz2 rfl (by decide) (.slice (some ⟨(W0.heap.size+1),0,none⟩) 0 0) 0 [] (by rfl) (lit0_owns (W:=((W0.alloc (.cells #[.string s] 9)).alloc (.cells #[] 9)).drew) (b:=(W0.heap.size+1)) (lit_at1 W0 _ _) (by simp)) ⟨g3,0,none⟩ a c3 (strs (J.take a)) (by rfl) LT.out (news_of HOW.out HM.out ((((Below.refl W0.heap.size W0).alloc (sqR _) (.cells #[.string s] 9)).alloc (by simp) (.cells #[] 9)).drew.block g3 hg3W) a) (strs_oneCell _) (by unfold maxLen;omega) (by omega) (((Below.refl W0.heap.size W0).alloc (sqR _) (.cells #[.string s] 9)).alloc (by simp) (.cells #[] 9)).drew.size ?_;intro v1 w1 hown1 hgr1 hv1;have O1:=hid hown1;have K1:Hid (Bz W0 w1):=below_own (((Below.refl W0.heap.size W0).alloc (sqR _) (.cells #[.string s] 9)).alloc (by simp) (.cells #[] 9)).drew (sqR _) (lit0_owns (W:=((W0.alloc (.cells #[.string s] 9)).alloc (.cells #[] 9)).drew) (b:=(W0.heap.size+1)) (lit_at1 W0 _ _) (by simp)) hgr1;have cx1:=cell_next K1.out cxW;have N1:Hid (w1.cell? ⟨W0.heap.size,0,none⟩=some (.string s)):=(sqK (hgr1.block W0.heap.size (by simp;omega) (by simp [Value.ownBlock]))).trans (lit1_old W0 s _))
           | (refine step_append_own (w1.alloc (.cells #[.string s] 9)) (by rfl) _ _ _ (by rfl) W0.heap.size 9 i0 (.string ⟨#[]⟩) 1 16 underlying51 hi hz0 hz1 hz2 rfl (by decide) v1 (0+a) ([] ++ strs (J.take a)) (by rfl) (own_nextS O1.out ((Below.refl _ _).alloc (sqR _) (.cells #[.string s] 9))) ⟨w1.heap.size,0,none⟩ 1 1 (strs [s]) (by rfl) (by rfl) (one_str w1 s _ rfl) (strs_oneCell _) (by unfold maxLen;omega) (by omega) (K1.out.alloc K1.out.size (.cells #[.string s] 9)).size ?_;intro v2 w2 hown2 hgr2 hv2;have K2:Hid (Bz W0 w2):=below_own (K1.out.alloc K1.out.size (.cells #[.string s] 9)) (sqR _) (own_nextS O1.out ((Below.refl _ _).alloc (sqR _) (.cells #[.string s] 9))) hgr2;have O2:=hid hown2;have cx2:=cell_next K2.out cxW)
           | (refine step_append_own w1 (by rfl) _ _ _ (by rfl) W0.heap.size 9 i0 (.string ⟨#[]⟩) 1 16 underlying51 hi hz0 hz1 hz2 rfl (by decide) v1 (0+a) ([] ++ strs (J.take a)) (by rfl) O1.out ⟨(W0.heap.size+1),0,none⟩ 1 1 (strs [s]) (by rfl) (by rfl) (one_at N1.out) (strs_oneCell _) (by unfold maxLen;omega) (by omega) K1.out.size ?_;intro v2 w2 hown2 hgr2 hv2;have K2:Hid (Bz W0 w2):=below_own K1.out (sqR _) O1.out hgr2;have O2:=hid hown2;have cx2:=cell_next K2.out cxW)
           | (refine step_append_own w1 (by rfl) _ _ _ (by rfl) W0.heap.size 9 i0 (.string ⟨#[]⟩) 1 16 underlying51 hi hz0 hz1 hz2 rfl (by decide) v1 (0+a) ([] ++ strs (J.take a)) (by rfl) O1.out ⟨W0.heap.size,0,none⟩ 1 1 (strs [s]) (by rfl) (by rfl) (one_at N1.out) (strs_oneCell _) (by unfold maxLen;omega) (by omega) K1.out.size ?_;intro v2 w2 hown2 hgr2 hv2;have K2:Hid (Bz W0 w2):=below_own K1.out (sqR _) O1.out hgr2;have O2:=hid hown2;have cx2:=cell_next K2.out cxW)
           | (refine step_append_own w2 (by rfl) _ _ _ (by rfl) W0.heap.size 9 i0 (.string ⟨#[]⟩) 1 16 underlying51 hi hz0 hz1 hz2 rfl (by decide) v2 (0+a+1) ([] ++ strs (J.take a) ++ strs [s]) (by rfl) O2.out ⟨g3,oa,none⟩ (m - a) (c3 - a) (strs (J.drop a)) (by first | rfl | (simp [Act.eval,Act.put,hoe];omega) | (simp [Act.eval,Act.put,hoe];split <;> rfl)) LD.out (news_from HOW.out HM.out (K2.out.block g3 hg3W) a oa hoa) (strs_oneCell _) (by unfold maxLen;omega) (by omega) K2.out.size ?_;intro v3 w3 hown3 hgr3 hv3;have K3:Hid (Bz W0 w3):=below_own K2.out (sqR _) O2.out hgr3;have O3:=hid hown3;have cx3:=cell_next K3.out cxW))
         all_goals
          go_split_ands
          have HO9:Hid (OwnS w3 w.heap.size v3 (sortS (xs.take (k+1)))∧v3≠.slice none 0 0):=by
           have h1:sortS (xs.take (k+1))=J.take a ++ s :: J.drop a:=(by rw [HJ.out];exact (HIN.out.trans (if_neg (by intro e;rw [e] at hyq;simp at hyq))));have h2:=O3.out;have h3:([] ++ strs (J.take a) ++ strs [s] ++ strs (J.drop a))=strs (J.take a ++ s :: J.drop a):=(by simp [strs])
           have h4:0+a+1+(m - a)=(J.take a ++ s :: J.drop a).length:=by
            rw [List.length_append,List.length_cons,List.length_take,List.length_drop,HM.out];omega
           rw [h3,h4] at h2;refine ⟨?_,fun e=>?_⟩
           · rw [h1];exact OwnS.base ⟨h2,K3.out.size⟩ HBW.out.size
           · have h5:=h2.2
             rw [e] at h5
             rcases h5 with ⟨_,h6⟩ | ⟨g',cap',cur,h6,_⟩
             · simp at h6
             · simp at h6
          have HB9:Hid (Bz w w3):=HBW.out.trans (K3.out.mono HBW.out.size);clear O1 O2 O3 K1 K2 K3 hown1 hown2 hown3 hgr1 hgr2 hgr3 hv1 hv2 hv3 cx1 cx2 cx3;go_wp2_with fail;exact ⟨⟨k+1,by omega,by go_num,HO9.out,HB9.out⟩,by simp [intOf];omega⟩
     · obtain rfl:m=a:=by omega
       have heq:((m:Int) == (m:Int))=true:=by simp
       have HIN:Hid (insS J s=J.take m ++ s :: J.drop m):=by
        have hnone:J[m]?=none:=List.getElem?_eq_none (by rw [HM.out];exact Nat.le_refl _);have:=insS_at J s m (by rw [HM.out];exact Nat.le_refl _) HA.out (fun x hx=>by rw [hnone] at hx;cases hx);rw [hnone] at this;exact this
       clear heq ha hlm;go_wp2_with fail
       go_quiet (fail)
       go_wp2_with fail;have cxA:((wr.drewN q).drewN nq).cell? ⟨gx,ox+k,none⟩=some (.string s):=cx;have HOA:Hid (OwnS ((wr.drewN q).drewN nq) w.heap.size (.slice (some ⟨g3,0,none⟩) m c3) J):=HO.out;have HBA:Hid (Bz w ((wr.drewN q).drewN nq)):=below_drewN (below_drewN HB.out q) nq;clear cx HO HB hg3;generalize (wr.drewN q).drewN nq=wA at cxA HOA HBA ⊢
       go_quiet (fail)
       go_wp2_with fail;have hac:m≤c3:=(by omega);have LT:Hid ((strs (J.take m)).length=m * 1):=(by show _=_;rw [strs_length,List.length_take,HM.out];omega);have LD:Hid ((strs (J.drop m)).length=(m - m) * 1):=(by show _=_;rw [strs_length,List.length_drop,HM.out];omega);have HOW:Hid (OwnS (wA.drewN nq) w.heap.size (.slice (some ⟨g3,0,none⟩) m c3) J):=HOA.out;have HBW:Hid (Bz w (wA.drewN nq)):=below_drewN HBA.out nq;have cxW:(wA.drewN nq).cell? ⟨gx,ox+k,none⟩=some (.string s):=cxA;clear cxA HOA HBA;generalize wA.drewN nq=W0 at HOW HBW cxW ⊢;have hg3W:g3<W0.heap.size:=(HOW.out.off rfl).2;have hgxW:gx<W0.heap.size:=Nat.lt_of_lt_of_le hgx HBW.out.size;obtain ⟨oa,hoe,hoa⟩:∃ oa,oa=(if c3=m then 0 else m)∧(m<J.length→oa=m):=⟨_,rfl,(fun h=>absurd h (by rw [HM.out];omega))⟩
       go_region_held_law (fun w'=>w'.cell? ⟨gx,ox+k,none⟩=some (.string s))
        (first | assumption | go_keep | (go_split_ands;exact cell_next ((sqN _ _)) (by assumption)))
        (first
         | (refine step_append_own (W0.alloc (.cells #[] 9)).drew (by rfl) _ _ _ (by rfl) W0.heap.size 9 i0 (.string ⟨#[]⟩) 1 16 underlying51 hi hz0 hz1 hz2 rfl (by decide) (.slice (some ⟨W0.heap.size,0,none⟩) 0 0) 0 [] (by rfl) (lit0_owns (W:=(W0.alloc (.cells #[] 9)).drew) (b:=W0.heap.size) (Blk.new (w:=W0)) (by simp)) ⟨g3,0,none⟩ m c3 (strs (J.take m)) (by rfl) LT.out (news_of HOW.out HM.out (((Below.refl W0.heap.size W0).alloc (sqR _) (.cells #[] 9)).drew.block g3 hg3W) m) (strs_oneCell _) (by unfold maxLen;omega) (by omega) ((Below.refl W0.heap.size W0).alloc (sqR _) (.cells #[] 9)).drew.size ?_;intro v1 w1 hown1 hgr1 hv1;have O1:=hid hown1;have K1:Hid (Bz W0 w1):=below_own ((Below.refl W0.heap.size W0).alloc (sqR _) (.cells #[] 9)).drew (sqR _) (lit0_owns (W:=(W0.alloc (.cells #[] 9)).drew) (b:=W0.heap.size) (Blk.new (w:=W0)) (by simp)) hgr1;have cx1:=cell_next K1.out cxW)
         | (refine step_append_own ((W0.alloc (.cells #[] 9)).alloc (.cells #[.string s] 9)).drew (by rfl) _ _ _ (by rfl) W0.heap.size 9 i0 (.string ⟨#[]⟩) 1 16 underlying51 hi hz0 hz1 hz2 rfl (by decide) (.slice (some ⟨W0.heap.size,0,none⟩) 0 0) 0 [] (by rfl) (lit0_owns (W:=((W0.alloc (.cells #[] 9)).alloc (.cells #[.string s] 9)).drew) (b:=W0.heap.size) ((Blk.new (w:=W0)).alloc) (by simp)) ⟨g3,0,none⟩ m c3 (strs (J.take m)) (by rfl) LT.out (news_of HOW.out HM.out ((((Below.refl W0.heap.size W0).alloc (sqR _) (.cells #[] 9)).alloc (by simp) (.cells #[.string s] 9)).drew.block g3 hg3W) m) (strs_oneCell _) (by unfold maxLen;omega) (by omega) (((Below.refl W0.heap.size W0).alloc (sqR _) (.cells #[] 9)).alloc (by simp) (.cells #[.string s] 9)).drew.size ?_;intro v1 w1 hown1 hgr1 hv1;have O1:=hid hown1;have K1:Hid (Bz W0 w1):=below_own (((Below.refl W0.heap.size W0).alloc (sqR _) (.cells #[] 9)).alloc (by simp) (.cells #[.string s] 9)).drew (sqR _) (lit0_owns (W:=((W0.alloc (.cells #[] 9)).alloc (.cells #[.string s] 9)).drew) (b:=W0.heap.size) ((Blk.new (w:=W0)).alloc) (by simp)) hgr1;have cx1:=cell_next K1.out cxW;have N1:Hid (w1.cell? ⟨W0.heap.size+1,0,none⟩=some (.string s)):=(sqK (hgr1.block (W0.heap.size+1) (by simp) (by simp [Value.ownBlock]))).trans (lit1_at W0 s _ _ rfl))
         | (refine step_append_own ((W0.alloc (.cells #[.string s] 9)).alloc (.cells #[] 9)).drew (by rfl) _ _ _ (by rfl) W0.heap.size 9 i0 (.string ⟨#[]⟩) 1 16 underlying51 hi hz0 hz1 hz2 rfl (by decide) (.slice (some ⟨(W0.heap.size+1),0,none⟩) 0 0) 0 [] (by rfl) (lit0_owns (W:=((W0.alloc (.cells #[.string s] 9)).alloc (.cells #[] 9)).drew) (b:=(W0.heap.size+1)) (lit_at1 W0 _ _) (by simp)) ⟨g3,0,none⟩ m c3 (strs (J.take m)) (by rfl) LT.out (news_of HOW.out HM.out ((((Below.refl W0.heap.size W0).alloc (sqR _) (.cells #[.string s] 9)).alloc (by simp) (.cells #[] 9)).drew.block g3 hg3W) m) (strs_oneCell _) (by unfold maxLen;omega) (by omega) (((Below.refl W0.heap.size W0).alloc (sqR _) (.cells #[.string s] 9)).alloc (by simp) (.cells #[] 9)).drew.size ?_;intro v1 w1 hown1 hgr1 hv1;have O1:=hid hown1;have K1:Hid (Bz W0 w1):=below_own (((Below.refl W0.heap.size W0).alloc (sqR _) (.cells #[.string s] 9)).alloc (by simp) (.cells #[] 9)).drew (sqR _) (lit0_owns (W:=((W0.alloc (.cells #[.string s] 9)).alloc (.cells #[] 9)).drew) (b:=(W0.heap.size+1)) (lit_at1 W0 _ _) (by simp)) hgr1;have cx1:=cell_next K1.out cxW;have N1:Hid (w1.cell? ⟨W0.heap.size,0,none⟩=some (.string s)):=(sqK (hgr1.block W0.heap.size (by simp;omega) (by simp [Value.ownBlock]))).trans (lit1_old W0 s _))
         | (refine step_append_own (w1.alloc (.cells #[.string s] 9)) (by rfl) _ _ _ (by rfl) W0.heap.size 9 i0 (.string ⟨#[]⟩) 1 16 underlying51 hi hz0 hz1 hz2 rfl (by decide) v1 (0+m) ([] ++ strs (J.take m)) (by rfl) (own_nextS O1.out ((Below.refl _ _).alloc (sqR _) (.cells #[.string s] 9))) ⟨w1.heap.size,0,none⟩ 1 1 (strs [s]) (by rfl) (by rfl) (one_str w1 s _ rfl) (strs_oneCell _) (by unfold maxLen;omega) (by omega) (K1.out.alloc K1.out.size (.cells #[.string s] 9)).size ?_;intro v2 w2 hown2 hgr2 hv2;have K2:Hid (Bz W0 w2):=below_own (K1.out.alloc K1.out.size (.cells #[.string s] 9)) (sqR _) (own_nextS O1.out ((Below.refl _ _).alloc (sqR _) (.cells #[.string s] 9))) hgr2;have O2:=hid hown2;have cx2:=cell_next K2.out cxW)
         | (refine step_append_own w1 (by rfl) _ _ _ (by rfl) W0.heap.size 9 i0 (.string ⟨#[]⟩) 1 16 underlying51 hi hz0 hz1 hz2 rfl (by decide) v1 (0+m) ([] ++ strs (J.take m)) (by rfl) O1.out ⟨(W0.heap.size+1),0,none⟩ 1 1 (strs [s]) (by rfl) (by rfl) (one_at N1.out) (strs_oneCell _) (by unfold maxLen;omega) (by omega) K1.out.size ?_;intro v2 w2 hown2 hgr2 hv2;have K2:Hid (Bz W0 w2):=below_own K1.out (sqR _) O1.out hgr2;have O2:=hid hown2;have cx2:=cell_next K2.out cxW)
         | (refine step_append_own w1 (by rfl) _ _ _ (by rfl) W0.heap.size 9 i0 (.string ⟨#[]⟩) 1 16 underlying51 hi hz0 hz1 hz2 rfl (by decide) v1 (0+m) ([] ++ strs (J.take m)) (by rfl) O1.out ⟨W0.heap.size,0,none⟩ 1 1 (strs [s]) (by rfl) (by rfl) (one_at N1.out) (strs_oneCell _) (by unfold maxLen;omega) (by omega) K1.out.size ?_;intro v2 w2 hown2 hgr2 hv2;have K2:Hid (Bz W0 w2):=below_own K1.out (sqR _) O1.out hgr2;have O2:=hid hown2;have cx2:=cell_next K2.out cxW)
         | (refine step_append_own w2 (by rfl) _ _ _ (by rfl) W0.heap.size 9 i0 (.string ⟨#[]⟩) 1 16 underlying51 hi hz0 hz1 hz2 rfl (by decide) v2 (0+m+1) ([] ++ strs (J.take m) ++ strs [s]) (by rfl) O2.out ⟨g3,oa,none⟩ (m - m) (c3 - m) (strs (J.drop m)) (by first | rfl | (simp [Act.eval,Act.put,hoe];omega) | (simp [Act.eval,Act.put,hoe];split <;> rfl)) LD.out (news_from HOW.out HM.out (K2.out.block g3 hg3W) m oa hoa) (strs_oneCell _) (by unfold maxLen;omega) (by omega) K2.out.size ?_;intro v3 w3 hown3 hgr3 hv3;have K3:Hid (Bz W0 w3):=below_own K2.out (sqR _) O2.out hgr3;have O3:=hid hown3;have cx3:=cell_next K3.out cxW))
       all_goals
        go_split_ands
        have HO9:Hid (OwnS w3 w.heap.size v3 (sortS (xs.take (k+1)))∧v3≠.slice none 0 0):=by
         have h1:sortS (xs.take (k+1))=J.take m ++ s :: J.drop m:=(by rw [HJ.out];exact HIN.out);have h2:=O3.out;have h3:([] ++ strs (J.take m) ++ strs [s] ++ strs (J.drop m))=strs (J.take m ++ s :: J.drop m):=(by simp [strs])
         have h4:0+m+1+(m - m)=(J.take m ++ s :: J.drop m).length:=by
          rw [List.length_append,List.length_cons,List.length_take,List.length_drop,HM.out];omega
         rw [h3,h4] at h2;refine ⟨?_,fun e=>?_⟩
         · rw [h1];exact OwnS.base ⟨h2,K3.out.size⟩ HBW.out.size
         · have h5:=h2.2
           rw [e] at h5
           rcases h5 with ⟨_,h6⟩ | ⟨g',cap',cur,h6,_⟩
           · simp at h6
           · simp at h6
        have HB9:Hid (Bz w w3):=HBW.out.trans (K3.out.mono HBW.out.size);clear O1 O2 O3 K1 K2 K3 hown1 hown2 hown3 hgr1 hgr2 hgr3 hv1 hv2 hv3 cx1 cx2 cx3;go_wp2_with fail;exact ⟨⟨k+1,by omega,by go_num,HO9.out,HB9.out⟩,by simp [intOf];omega⟩
  · have HS:Hid (OwnS wr w.heap.size (.slice (some ⟨g3,0,none⟩) (sortS (xs.take k)).length c3) (sortS xs)):=by
     have:=ho.out.1;rw [List.take_of_length_le (by rw [HN.out];omega)] at this ⊢;exact this
    clear ho;go_wp2_with fail;go_ret;exact ⟨_,rfl,HS.out,HB.out⟩
theorem clauseVars_ex (d:Nat) (c:Cl):clauseVars d c=allV (d+1) (.mk 10 0 ByteArray.empty ByteArray.empty [] [c]):=rfl
theorem clauseWt_ex (d:Nat) (c:Cl):wtEx (d+1) (.mk 10 0 ByteArray.empty ByteArray.empty [] [c])=1+wtCl (wtEx d) c:=by
 show 0+0+wtS (wtEx d) []+wtS (wtCl (wtEx d)) [c]=_;simp [wtS]
theorem clause_txts {w:World} {d:Nat} {cs:List Value} {c:Cl} (h:HCl w All (HEx w All d) cs c):exS (d+1) (.mk 10 0 ByteArray.empty ByteArray.empty [] [c]):=by
 obtain ⟨p,b,rfl,hp,hb⟩:=h
 have hh:∀ (v:Value) (l:List Ex),Rows w All 6 (HEx w All d) v l→∀ y ∈ l,exS d y:=by
  intro v l hr y hy;obtain ⟨_,_,_,_,_,hx⟩:=hr;obtain ⟨i,hi⟩:=List.mem_iff_getElem?.1 hy;obtain ⟨g,off,_,_,_,hat⟩:=hx (by intro e;rw [e] at hy;simp at hy);obtain ⟨cs,_,_,hr⟩:=hat i y hi;exact hr.txts
 refine ⟨by show (0:Nat)≤maxLen;exact Nat.zero_le _,by simp,fun c' hc'=>?_⟩;simp only [List.mem_singleton] at hc';subst hc';exact ⟨hh p c'.1 hp,hh b c'.2 hb⟩
theorem l07Vars_any (d:Nat) (w:World) (cs:List Value) (c:Cl) (h:HCl w All (HEx w All d) cs c) (hwt:1+wtCl (wtEx d) c≤16777216) :
 Calls prog 21 #[.agg cs.toArray] w fun e w'=>∃ u,e=.returned u∧OwnS w' w.heap.size u (sortS (clauseVars d c))∧Bz w w':=by
 have hok:=clause_txts h;have hE:=all_all d;rw [← clauseWt_ex] at hwt;have HW:=hid hwt
 have BC:Hid (∀ y,(y ∈ c.1∨y ∈ c.2)→wtEx d y≤16777216∧(∀ s ∈ allV d y,keyS s ∈ varL (d+1) (.mk 10 0 ByteArray.empty ByteArray.empty [] [c])∧okS s)∧exS d y):=fun y hy=>by
  have hy':wtEx d y≤wtCl (wtEx d) c:=by
   have hc:wtCl (wtEx d) c=wtS (wtEx d) c.1+wtS (wtEx d) c.2:=rfl
   rcases hy with hy | hy
   · obtain ⟨q,hq⟩:=List.mem_iff_getElem?.1 hy
     have:=wtS_part (wtEx d) c.1 q y hq;omega
   · obtain ⟨q,hq⟩:=List.mem_iff_getElem?.1 hy
     have:=wtS_part (wtEx d) c.2 q y hq;omega
  have hm:c ∈ [c]:=by simp
  have he:exS d y:=by
   rcases hy with hy | hy
   · exact (hok.2.2 c hm).1 y hy
   · exact (hok.2.2 c hm).2 y hy
  rw [clauseWt_ex] at hwt;exact ⟨by omega,fun s hs=>⟨varL_cl hm hy (allV_sub d y s hs),allV_ok d y he s hs⟩,he⟩
 have G0:Hid (Got (d+1) (.mk 10 0 ByteArray.empty ByteArray.empty [] [c]) []):=⟨by simp [NdK],fun s hs=>by simp at hs,fun s hs=>by simp at hs⟩;have HC:Hid (clauseVars d c=foldV (allV d) (foldV (allV d) [] c.1) c.2):=rfl;rw [HC.out];clear hok HC;obtain ⟨pv,bv,rfl,hp,hb⟩:=h;obtain ⟨P,B⟩:=c;simp only at *;obtain ⟨p,cap,rfl,hcl,hcm,hx⟩:=hp;obtain ⟨pb,capb,rfl,hclb,hcmb,hxb⟩:=hb;have hnp:=sqM hcl hcm;have hnb:B.length≤9223372036854775807:=(by unfold maxLen at hcmb;omega);have HXP:=hid hx;have HXB:=hid hxb;generalize hn:P.length=np at *;have HNP:=hid hn;generalize hn':B.length=nb at *;have HNB:=hid hn';clear hn hn' hx hxb hwt;obtain ⟨W1,hW1⟩:∃ W1,W1=(w.alloc (.cells #[.slice p np cap,.slice pb nb capb] 46)).alloc (.cells #[] 9):=⟨_,rfl⟩;have bA:Hid (Blk W1 w.heap.size #[.slice p np cap,.slice pb nb capb] 46):=(by show Blk _ _ _ _;rw [hW1];exact Blk.new.alloc);have B1:Hid (Bz w W1):=(by show Below _ _ _;rw [hW1];exact ((sqN _ _)).alloc (by simp) _)
 have O0:Hid (OwnS W1 w.heap.size (.slice (some ⟨w.heap.size+1,0,none⟩) 0 0) []):=by
  have:=OwnS.fresh (w:=w.alloc (.cells #[.slice p np cap,.slice pb nb capb] 46));rw [alloc_hs] at this;show OwnS _ _ _ _;rw [hW1];exact this.base (by omega)
 have HW1:=hid hW1;clear hW1;go_enter func21,ntmps21;go_wp2_with fail;rw [← HW1.out]
 go_loopw [3,4] (fun ov iv wr=>∃ k:Nat,k≤np∧iv=.int .i64 k∧Hid (OwnS wr w.heap.size ov (foldV (allV d) [] (P.take k)))∧Hid (Got (d+1) (.mk 10 0 ByteArray.empty ByteArray.empty [] [(P,B)]) (foldV (allV d) [] (P.take k)))∧Hid (Blk wr w.heap.size #[.slice p np cap,.slice pb nb capb] 46)∧Hid (Bz w wr)) (fun _ iv _=>np - (intOf iv).toNat)
 case atStart=>exact ⟨0,Nat.zero_le _,rfl,O0.out,G0.out,bA.out,B1.out⟩
 case round =>
  obtain ⟨k,hk,rfl,ho,hg,hbk,HB⟩:=hrel;obtain ⟨xa0,xa1⟩:=sqB2 hbk.out;by_cases hlt:k<np
  · obtain ⟨x,hxk⟩:∃ x,P[k]?=some x:=⟨P[k]'(by rw [HNP.out];exact hlt),List.getElem?_eq_getElem _⟩
    obtain ⟨g,off,rfl,-,hgl,hat⟩:=HXP.out (sqE hxk);obtain ⟨cs,hcsl,hcs,r1⟩:=hat k x hxk;have E1:∀ w',Bz w w'→HEx w' All d cs x:=fun w' hw=>r1.mono (sqO hw) (fun _ h=>h);obtain ⟨c0,c1,c2,c3,c4,c5,rfl⟩:=len6 hcsl;obtain ⟨a0,a1,a2,a3,a4,a5⟩:=sqC6 hcs (by omega);rw [← HB.out.cell (p:=⟨g,_,none⟩) hgl] at a0 a1 a2 a3 a4 a5;simp at a0 a1 a2 a3 a4 a5;have hki:(k:Int)<(np:Int):=(by omega);have hk0:=sqI k;obtain ⟨wx,sx,ex⟩:=BC.out x (.inl (List.mem_of_getElem? hxk));have GX:=hid (hg.out.once sx);have HJ:Hid (foldV (allV d) [] (P.take (k+1))=onceS (foldV (allV d) [] (P.take k)) (allV d x)):=foldV_snoc _ _ P k x hxk;have lq:=hg.out.len HW.out;have lx:=(allV_got ex).len wx;have OX:Hid (∀ s ∈ allV d x,okS s):=fun s hs=>(sx s hs).2;have OJ:=hid hg.out.ok;generalize hJ0:foldV (allV d) [] (P.take k)=J at *;clear hcs hat hcsl r1 hJ0 hg sx;go_wp2_with fail;refine (hE _ _ x (E1 _ HB.out) wx).mono ?_;rintro e w4 ⟨u4,rfl,ho4,hb4⟩;have HB4:=hid (HB.out.trans (hb4.mono HB.out.size));have SV:Hid (StrV w4 u3 J):=(ho.out.next hb4).strV OJ.out;have SR:=hid (ho4.strR OX.out);have bk4:=hid (hbk.out.next hb4);clear hb4 ho4 xa0 xa1 a0 a1 a2 a3 a4 a5;go_wp2_with fail;refine (once_any _ _ _ J (allV d x) SV.out SR.out (by omega)).mono ?_;rintro e w5 ⟨u5,rfl,ho5,hb5⟩;have HB5:=hid (HB4.out.trans (hb5.mono HB4.out.size));have HO5:=hid (ho5.base HB4.out.size);have bk5:=hid (bk4.out.next hb5);clear hb5 ho5;go_wp2_with fail;exact ⟨⟨k+1,by omega,by go_num,by show OwnS _ _ _ _;rw [HJ.out];exact HO5.out,by show Got _ _ _;rw [HJ.out];exact GX.out,bk5.out,HB5.out⟩,by simp [intOf];omega⟩
  · have HS:Hid (OwnS wr w.heap.size u3 (foldV (allV d) [] P)):=by
     have:=ho.out
     rwa [List.take_of_length_le (by rw [HNP.out];omega)] at this
    have GS:Hid (Got (d+1) (.mk 10 0 ByteArray.empty ByteArray.empty [] [(P,B)]) (foldV (allV d) [] P)):=by
     have:=hg.out
     rwa [List.take_of_length_le (by rw [HNP.out];omega)] at this
    clear ho hg;generalize hP1:foldV (allV d) [] P=P1 at HS GS;have HP1:=hid hP1;clear hP1;go_wp2_with fail
    go_loopw [3,5] (fun ov iv wr=>∃ k:Nat,k≤nb∧iv=.int .i64 k∧Hid (OwnS wr w.heap.size ov (foldV (allV d) P1 (B.take k)))∧Hid (Got (d+1) (.mk 10 0 ByteArray.empty ByteArray.empty [] [(P,B)]) (foldV (allV d) P1 (B.take k)))∧Hid (Blk wr w.heap.size #[.slice p np cap,.slice pb nb capb] 46)∧Hid (Bz w wr)) (fun _ iv _=>nb - (intOf iv).toNat)
    case atStart=>exact ⟨0,Nat.zero_le _,rfl,HS.out,GS.out,hbk.out,HB.out⟩
    case round =>
     obtain ⟨k,hk,rfl,ho,hg,hbk,HB⟩:=hrel;obtain ⟨xa0,xa1⟩:=sqB2 hbk.out;by_cases hlt:k<nb
     · obtain ⟨x,hxk⟩:∃ x,B[k]?=some x:=⟨B[k]'(by rw [HNB.out];exact hlt),List.getElem?_eq_getElem _⟩
       obtain ⟨g,off,rfl,-,hgl,hat⟩:=HXB.out (sqE hxk);obtain ⟨cs,hcsl,hcs,r1⟩:=hat k x hxk;have E1:∀ w',Bz w w'→HEx w' All d cs x:=fun w' hw=>r1.mono (sqO hw) (fun _ h=>h);obtain ⟨c0,c1,c2,c3,c4,c5,rfl⟩:=len6 hcsl;obtain ⟨a0,a1,a2,a3,a4,a5⟩:=sqC6 hcs (by omega);rw [← HB.out.cell (p:=⟨g,_,none⟩) hgl] at a0 a1 a2 a3 a4 a5;simp at a0 a1 a2 a3 a4 a5;have hki:(k:Int)<(nb:Int):=(by omega);have hk0:=sqI k;obtain ⟨wx,sx,ex⟩:=BC.out x (.inr (List.mem_of_getElem? hxk));have GX:=hid (hg.out.once sx);have HJ:Hid (foldV (allV d) P1 (B.take (k+1))=onceS (foldV (allV d) P1 (B.take k)) (allV d x)):=foldV_snoc _ _ B k x hxk;have lq:=hg.out.len HW.out;have lx:=(allV_got ex).len wx;have OX:Hid (∀ s ∈ allV d x,okS s):=fun s hs=>(sx s hs).2;have OJ:=hid hg.out.ok;generalize hJ0:foldV (allV d) P1 (B.take k)=J at *;clear hcs hat hcsl r1 hJ0 hg sx;go_wp2_with fail;refine (hE _ _ x (E1 _ HB.out) wx).mono ?_;rintro e w4 ⟨u4,rfl,ho4,hb4⟩;have HB4:=hid (HB.out.trans (hb4.mono HB.out.size));have SV:Hid (StrV w4 u3 J):=(ho.out.next hb4).strV OJ.out;have SR:=hid (ho4.strR OX.out);have bk4:=hid (hbk.out.next hb4);clear hb4 ho4 xa0 xa1 a0 a1 a2 a3 a4 a5;go_wp2_with fail;refine (once_any _ _ _ J (allV d x) SV.out SR.out (by omega)).mono ?_;rintro e w5 ⟨u5,rfl,ho5,hb5⟩;have HB5:=hid (HB4.out.trans (hb5.mono HB4.out.size));have HO5:=hid (ho5.base HB4.out.size);have bk5:=hid (bk4.out.next hb5);clear hb5 ho5;go_wp2_with fail;exact ⟨⟨k+1,by omega,by go_num,by show OwnS _ _ _ _;rw [HJ.out];exact HO5.out,by show Got _ _ _;rw [HJ.out];exact GX.out,bk5.out,HB5.out⟩,by simp [intOf];omega⟩
     · have HS:Hid (OwnS wr w.heap.size u3 (foldV (allV d) P1 B)):=by
        have:=ho.out
        rwa [List.take_of_length_le (by rw [HNB.out];omega)] at this
       have GS:Hid (Got (d+1) (.mk 10 0 ByteArray.empty ByteArray.empty [] [(P,B)]) (foldV (allV d) P1 B)):=by
        have:=hg.out
        rwa [List.take_of_length_le (by rw [HNB.out];omega)] at this
       clear ho hg;have lz:=GS.out.len HW.out;generalize hP2:foldV (allV d) P1 B=P2 at HS GS lz;have HP2:=hid hP2;clear hP2;go_wp2_with fail;refine (sorted_any wr u3 _ (HS.out.strR GS.out.ok) (by omega)).mono ?_;rintro e w6 ⟨u6,rfl,ho6,hb6⟩;go_wp2_with fail;go_ret;exact ⟨u6,rfl,by rw [HP1.out,HP2.out];exact ho6.base HB.out.size,HB.out.trans (hb6.mono HB.out.size)⟩
theorem l05Mod_any (d:Nat) (w:World) (v:Value) (ms:List Md) (s:ByteArray) (h:Rows w All 3 (HMd w All d) v ms) :
 Calls prog 63 #[v,.string s] w fun e w'=>e=.returned (.int .i64 (findI (named s) ms))∧w'=w:=by
 obtain ⟨p,cap,rfl,hcl,hcm,hx⟩:=h;have hnb:=sqM hcl hcm;generalize hn:ms.length=n at *;have HN:=hid hn;have HX:=hid hx;clear hx hn;go_enter func63,ntmps63;go_wp2
 go_loop [5] (fun iv=>∃ k:Nat,k≤n∧iv=.int .i64 k∧Hid ((ms.take k).any (named s)=false)) (fun iv=>n - (intOf iv).toNat)
 case atStart=>exact ⟨0,Nat.zero_le _,rfl,by show _=_;simp⟩
 case round =>
  obtain ⟨k,hk,rfl,hno⟩:=hrel;by_cases hlt:k<n
  · obtain ⟨x,hxk⟩:=sqA (l:=ms) (k:=k) HN.out hlt
    obtain ⟨g,off,rfl,-,hgl,hat⟩:=HX.out (sqE hxk);obtain ⟨cs,hcsl,hcs,ev,fv,rfl,-⟩:=hat k x hxk;have a0:=hcs 0 (by omega);simp at a0;have hki:(k:Int)<(n:Int):=(by omega);have hk0:=sqI k;clear hcs hat hcsl
    cases hq:(x.name.toList == s.toList) with
    | true =>
     have HS:=hid (findI_at hno.out hxk hq);go_wp2;go_ret;exact ⟨by rw [HS.out];rfl,rfl⟩
    | false =>
     have HS:=hid (anyT_succ' _ ms k x hxk hno.out hq);go_wp2
     go_round
     case rel=>exact ⟨k+1,by omega,by go_num,HS⟩
     case measure=>simp [intOf];omega
  · have HS:Hid (findI (named s) ms = -1):=findI_none (by
     have:=hno.out
     rwa [List.take_of_length_le (by rw [HN.out];omega)] at this)
    go_wp2;go_ret;exact ⟨by rw [HS.out];rfl,rfl⟩
theorem l02FindI_any (d:Nat) (w:World) (cs:List Value) (m:Md) (rs:ByteArray) (rn:Int) (h:HMd w All d cs m) :
 Calls prog 64 #[.agg cs.toArray,.string rs,.int .i64 rn] w fun e w'=>e=.returned (.int .i64 (findI (sameR ⟨rs,rn⟩) m.funs))∧Bz w w':=by
 obtain ⟨ev,fv,rfl,hs,⟨pe,ce,rfl,-⟩,h⟩:=h;obtain ⟨ms,es,fs⟩:=m;simp only at *;obtain ⟨pf,cf,rfl,hcl,hcm,hx⟩:=h;have hnb:=sqM hcl hcm;generalize hn:fs.length=nf at *;generalize es.length=ne at *;have HN:=hid hn;have HX:=hid hx;obtain ⟨W1,hW1⟩:∃ W1,W1=w.alloc (.cells #[.string ms,.slice pe ne ce,.slice pf nf cf] 63):=⟨_,rfl⟩;have bA:Hid (Blk W1 w.heap.size #[.string ms,.slice pe ne ce,.slice pf nf cf] 63):=(by show Blk _ _ _ _;rw [hW1];exact Blk.new);have B1:Hid (Bz w W1):=(by show Below _ _ _;rw [hW1];exact (sqN _ _));have xa2:=bA.out.cell 2 _ rfl;have HW1:=hid hW1;clear hx hn hW1;go_enter func64,ntmps64;go_wp2_with fail;rw [← HW1.out]
 go_loop [7] (fun iv=>∃ k:Nat,k≤nf∧iv=.int .i64 k∧Hid ((fs.take k).any (sameR ⟨rs,rn⟩)=false)) (fun iv=>nf - (intOf iv).toNat)
 case atStart=>exact ⟨0,Nat.zero_le _,rfl,by show _=_;simp⟩
 case round =>
  obtain ⟨k,hk,rfl,hall⟩:=hrel;by_cases hlt:k<nf
  · obtain ⟨x,hxk⟩:=sqA (l:=fs) (k:=k) HN.out hlt
    obtain ⟨g,off,rfl,-,hgl,hat⟩:=HX.out (sqE hxk);obtain ⟨cs,hcsl,hcs,r1⟩:=hat k x hxk;obtain ⟨p1,n1,q1,rfl⟩:=fnShape r1;have HC2:Hid (sameR ⟨rs,rn⟩ x=false→(fs.take (k+1)).any (sameR ⟨rs,rn⟩)=false):=fun h=>anyT_succ _ fs k _ hxk hall.out h;have HC3:Hid (sameR ⟨rs,rn⟩ x=true→findI (sameR ⟨rs,rn⟩) fs=k):=fun h=>findI_at hall.out hxk h;obtain ⟨xs,xn,xc⟩:=x;simp only at *;have hsm:sameR ⟨rs,rn⟩ ⟨xs,xn,xc⟩=(xs.toList == rs.toList && xn == rn):=rfl;rw [hsm] at HC2 HC3;obtain ⟨a0,a1,a2⟩:=sqC3 hcs (by omega);rw [← B1.out.cell (p:=⟨g,_,none⟩) hgl] at a0 a1 a2;simp at a0 a1 a2;have hki:(k:Int)<(nf:Int):=(by omega);have hk0:=sqI k;clear hcs hat hcsl r1 hsm
    cases c1:(xs.toList == rs.toList) with
    | false =>
     have HT':=hid (HC2.out (by rw [c1];rfl));clear HC2 HC3;go_wp2
     go_round
     case rel=>exact ⟨k+1,by omega,by go_num,HT'⟩
     case measure=>simp [intOf];omega
    | true =>
     cases c2:(xn == rn) with
     | false =>
      have HT':=hid (HC2.out (by rw [c2,Bool.and_false]));clear HC2 HC3;go_wp2
      go_round
      case rel=>exact ⟨k+1,by omega,by go_num,HT'⟩
      case measure=>simp [intOf];omega
     | true =>
      have HF:=hid (HC3.out (by rw [c1,c2];rfl));clear HC2 HC3;go_wp2;go_ret;exact ⟨by rw [HF.out];rfl,B1.out⟩
  · have HS:Hid (findI (sameR ⟨rs,rn⟩) fs = -1):=findI_none (by
     have:=hall.out
     rwa [List.take_of_length_le (by rw [HN.out];omega)] at this)
    go_wp2;go_ret;exact ⟨by rw [HS.out];rfl,B1.out⟩
theorem l05Exported_any (d:Nat) (w:World) (cs:List Value) (m:Md) (rs:ByteArray) (rn:Int) (h:HMd w All d cs m) :
 Calls prog 42 #[.agg cs.toArray,.agg #[.string rs,.int .i64 rn]] w fun e w'=>e=.returned (.bool (hasX m rs rn))∧Bz w w':=by
 obtain ⟨ev,fv,rfl,hs,h,⟨pf,cf,rfl,-⟩⟩:=h;obtain ⟨ms,es,fs⟩:=m;have hv:hasX ⟨ms,es,fs⟩ rs rn=es.any (sameRf rs rn):=rfl;rw [hv];clear hv;simp only at *;obtain ⟨pe,ce,rfl,hcl,hcm,hx⟩:=h;have hnb:=sqM hcl hcm;generalize hn:es.length=ne at *;generalize fs.length=nf at *;have HN:=hid hn;have HX:=hid hx;obtain ⟨W1,hW1⟩:∃ W1,W1=(w.alloc (.cells #[.string ms,.slice pe ne ce,.slice pf nf cf] 63)).alloc (.cells #[.string rs,.int .i64 rn] 84):=⟨_,rfl⟩;have bA:Hid (Blk W1 w.heap.size #[.string ms,.slice pe ne ce,.slice pf nf cf] 63):=(by show Blk _ _ _ _;rw [hW1];exact Blk.new.alloc)
 have bB:Hid (Blk W1 (w.heap.size+1) #[.string rs,.int .i64 rn] 84):=by
  show Blk _ _ _ _;rw [hW1];have:=Blk.new (w:=w.alloc (.cells #[.string ms,.slice pe ne ce,.slice pf nf cf] 63)) (cs:=#[.string rs,.int .i64 rn]) (t:=84)
  rwa [alloc_hs] at this
 have B1:Hid (Bz w W1):=(by show Below _ _ _;rw [hW1];exact ((sqN _ _)).alloc (by simp only [alloc_hs];omega) _);have xa1:=bA.out.cell 1 _ rfl;obtain ⟨xb0,xb1⟩:=sqB2 bB.out;have HW1:=hid hW1;clear hx hn hW1;go_enter func42,ntmps42;go_wp2_with fail;rw [← HW1.out]
 go_loopw [5] (fun iv wr=>∃ k:Nat,k≤ne∧iv=.int .i64 k∧Hid ((es.take k).any (sameRf rs rn)=false)∧Hid (SameOn All W1 wr)∧Bz w wr) (fun iv _=>ne - (intOf iv).toNat)
 case atStart=>exact ⟨0,Nat.zero_le _,rfl,by show _=_;simp,⟨Nat.le_refl _,fun _ _ _=>rfl⟩,B1.out⟩
 case round =>
  obtain ⟨k,hk,rfl,hall,hso,hb⟩:=hrel;clear xa1 xb0 xb1;have HB:=hid hb;have bM:=bA.out.same_on hso.out;have bR:=bB.out.same_on hso.out;have xa1:=bM.cell 1 _ rfl;by_cases hlt:k<ne
  · obtain ⟨x,hxk⟩:=sqA (l:=es) (k:=k) HN.out hlt
    obtain ⟨g,off,rfl,-,hgl,hat⟩:=HX.out (sqE hxk);obtain ⟨cs,hcsl,hcs,rfl,-,-⟩:=hat k x hxk;obtain ⟨xs,xn⟩:=x;simp only at *;obtain ⟨a0,a1⟩:=sqC2 hcs (by omega);rw [← hb.cell (p:=⟨g,_,none⟩) hgl] at a0 a1;simp at a0 a1;have hki:(k:Int)<(ne:Int):=(by omega);have hk0:=sqI k;have hgw:g<wr.heap.size:=Nat.lt_of_lt_of_le hgl hb.size;obtain ⟨y0,y1⟩:=sqB2 bR;have l0:=bM.lt;have l1:=bR.lt;have qx1:∀ m:Wd (fun w'=>SameOn All wr w'∧Bz w w'),m.val.cell? ⟨w.heap.size,1,none⟩=some (.slice (some ⟨g,off,none⟩) ne ce):=fun m=>(sqK (m.ok.1.2 w.heap.size trivial l0)).trans xa1;have qy0:∀ m:Wd (fun w'=>SameOn All wr w'∧Bz w w'),m.val.cell? ⟨w.heap.size+1,0,none⟩=some (.string rs):=fun m=>(sqK (m.ok.1.2 (w.heap.size+1) trivial l1)).trans y0;have qy1:∀ m:Wd (fun w'=>SameOn All wr w'∧Bz w w'),m.val.cell? ⟨w.heap.size+1,1,none⟩=some (.int .i64 rn):=fun m=>(sqK (m.ok.1.2 (w.heap.size+1) trivial l1)).trans y1;have qz0:∀ m:Wd (fun w'=>SameOn All wr w'∧Bz w w'),m.val.cell? ⟨g,off+k * 2,none⟩=some (.string xs):=fun m=>(sqK (m.ok.1.2 g trivial hgw)).trans a0;have qz1:∀ m:Wd (fun w'=>SameOn All wr w'∧Bz w w'),m.val.cell? ⟨g,off+k * 2+1,none⟩=some (.int .i64 xn):=fun m=>(sqK (m.ok.1.2 g trivial hgw)).trans a1;clear hb hcs hat hcsl y0 y1 l0 l1 bR bM a0 a1;go_wp2_with fail;have e1:=refG;have e2:=refE;have hCne:Nonempty (Wd (fun w'=>SameOn All wr w'∧Bz w w')):=⟨⟨wr.drew,⟨⟨Nat.le_refl _,fun _ _ _=>rfl⟩,HB.out.drew⟩⟩⟩;refine wp_region_class (fun w'=>SameOn All wr w'∧Bz w w') (by kernel_rfl) (by kernel_rfl) ⟨⟨Nat.le_refl _,fun _ _ _=>rfl⟩,HB.out.drew⟩ ?_
    repeat (go_big_quiet_step (fail))
    refine wpQuiet_nil ?_;rintro _ ⟨mq,rfl⟩;have HB4:=hid mq.ok.2;have HS4:=hid (hso.out.trans mq.ok.1);generalize mq.val=w4 at HB4 HS4 ⊢;generalize hcv:(xs.toList == rs.toList && xn == rn)=cv;have HC2:Hid (cv=false→(es.take (k+1)).any (sameRf rs rn)=false):=fun h=>anyT_succ _ es k _ hxk hall.out (show (xs.toList == rs.toList && xn == rn)=false from hcv.trans h);have HC3:Hid (cv=true→es.any (sameRf rs rn)=true):=fun h=>anyT_at _ es k _ hxk (show (xs.toList == rs.toList && xn == rn)=true from hcv.trans h);clear hcv
    cases cv with
    | false =>
     have HT':Hid _:=HC2.out rfl;clear HC2 HC3;go_wp2_with fail;exact ⟨⟨k+1,by omega,by go_num,HT'.out,HS4.out,HB4.out⟩,by simp [intOf];omega⟩
    | true =>
     have HF:Hid _:=HC3.out rfl;clear HC2 HC3;go_wp2_with fail;go_ret;exact ⟨by rw [HF.out];rfl,HB4.out⟩
  · have HS:Hid (es.any (sameRf rs rn)=false):=by
     have:=hall.out
     rwa [List.take_of_length_le (by rw [HN.out];omega)] at this
    clear bM bR;go_wp2;go_ret;exact ⟨by rw [HS.out];rfl,HB.out⟩
def FindR (ms:List Md) (q:Pl) (a b:Int) (ok:Bool):Prop :=
 (ok=false∧fnOf ms q=none)∨(ok=true∧∃ (k j:Nat) (m:Md) (f:Fn'),a=k∧b=j∧ms[k]?=some m∧ms.find? (named q.mod)=some m∧m.funs[j]?=some f∧m.funs.find? (sameR ⟨q.name,q.arity⟩)=some f∧(ms.take k).any (named q.mod)=false∧(m.funs.take j).any (sameR ⟨q.name,q.arity⟩)=false)
def FindE (ms:List Md) (q:Pl) (e:Ending):Prop:=∃ a b ok,e=.returned (.tuple #[.int .i64 a,.int .i64 b,.bool ok])∧FindR ms q a b ok
theorem findI_first {α:Type} {f:α→Bool} {xs:List α} {k:Nat} (h:findI f xs=(k:Nat)):(xs.take k).any f=false:=by
 unfold findI at h
 cases hi:xs.findIdx? f with
 | none=>rw [hi] at h;have h0:(-1:Int)=(k:Nat):=h;omega
 | some k' =>
  rw [hi] at h;simp only [Int.natCast_inj] at h;subst h;rw [List.findIdx?_eq_some_iff_getElem] at hi;obtain ⟨hk,_,hj⟩:=hi;rw [List.any_eq_false];intro y hy;obtain ⟨j,hj'⟩:=List.mem_iff_getElem?.1 hy;rw [List.getElem?_take] at hj'
  split at hj'
  · rename_i hjk
    obtain ⟨h1,rfl⟩:=List.getElem?_eq_some_iff.1 hj'
    simpa using hj j hjk
  · cases hj'
theorem fnOf_at {ms:List Md} {q:Pl} {m:Md} {f:Fn'} (h:ms.find? (named q.mod)=some m) (hf:m.funs.find? (sameR ⟨q.name,q.arity⟩)=some f):fnOf ms q=some f:=by
 simp [fnOf,h,hf]
theorem fnOf_nom {ms:List Md} {q:Pl} (h:ms.any (named q.mod)=false):fnOf ms q=none:=by
 have:ms.find? (named q.mod)=none:=by
  rw [List.find?_eq_none];intro x hx;have:=List.any_eq_false.1 h x hx
  simpa using this
 simp [fnOf,this]
theorem fnOf_nof {ms:List Md} {q:Pl} {m:Md} (h:ms.find? (named q.mod)=some m) (hf:m.funs.any (sameR ⟨q.name,q.arity⟩)=false):fnOf ms q=none:=by
 have:m.funs.find? (sameR ⟨q.name,q.arity⟩)=none:=by
  rw [List.find?_eq_none];intro x hx;have:=List.any_eq_false.1 hf x hx
  simpa using this
 simp [fnOf,h,this]
theorem l07Find_any (d:Nat) (w:World) (v:Value) (ms:List Md) (q:Pl) (h:Rows w All 3 (HMd w All d) v ms) :
 Calls prog 23 #[v,.agg #[.string q.mod,.string q.name,.int .i64 q.arity,.int .i64 q.clause]] w fun e w'=>FindE ms q e∧Bz w w':=by
 have HR:Hid (∀ w',Bz w w'→Rows w' All 3 (HMd w' All d) v ms):=fun w' hw=>h.mono (sqO hw) (fun _ h=>h) (fun _ _ _ h=>h.mono (sqO hw) (fun _ h=>h));obtain ⟨W1,hW1⟩:∃ W1,W1=w.alloc (.cells #[.string q.mod,.string q.name,.int .i64 q.arity,.int .i64 q.clause] 31):=⟨_,rfl⟩;have bA:Hid (Blk W1 w.heap.size #[.string q.mod,.string q.name,.int .i64 q.arity,.int .i64 q.clause] 31):=(by show Blk _ _ _ _;rw [hW1];exact Blk.new);have B1:Hid (Bz w W1):=(by show Below _ _ _;rw [hW1];exact (sqN _ _));have HW1:=hid hW1;have hlw:=bA.out.lt;have y0:=bA.out.cell 0 _ rfl;clear hW1
 rcases findI_cases (named q.mod) ms with ⟨hno,hfi⟩ | ⟨k,x,hyes,hxk,hnx,hfi,hfd⟩
 · have HF:Hid (FindR ms q 0 0 false):=.inl ⟨rfl,fnOf_nom hno⟩
   have CM:Hid (Calls prog 63 #[v,.string q.mod] W1 fun e w'=>e=.returned (.int .i64 (-1))∧w'=W1):=by
    have:=l05Mod_any d W1 v ms q.mod (HR.out _ B1.out)
    rwa [hfi] at this
   clear hno hfi h;go_enter func23,ntmps23;go_wp2_with fail;rw [← HW1.out];refine CM.out.mono ?_;rintro e w2 ⟨rfl,rfl⟩;go_wp2_with fail;exact bodyPost_ret (v:=.tuple #[.int .i64 0,.int .i64 (0),.bool false]) (by simp [results,results23,go_sem]) rfl ⟨⟨0,0,false,rfl,HF.out⟩,B1.out⟩
 · have CM:Hid (Calls prog 63 #[v,.string q.mod] W1 fun e w'=>e=.returned (.int .i64 (k:Nat))∧w'=W1):=by
    have:=l05Mod_any d W1 v ms q.mod (HR.out _ B1.out)
    rwa [hfi] at this
   have HK:Hid (ms[k]?=some x∧ms.find? (named q.mod)=some x):=⟨hxk,hfd⟩;obtain ⟨p,cap,rfl,hcl,hcm,hx⟩:=h;obtain ⟨g,off,rfl,-,hgl,hat⟩:=hx (sqE hxk);obtain ⟨cs,hcsl,hcs,hmd⟩:=hat k x hxk;have hlt:k<ms.length:=(List.getElem?_eq_some_iff.1 hxk).1;have hnb:=sqM hcl hcm;have HMD:Hid (∀ w',Bz w w'→HMd w' All d cs x):=fun w' hw=>hmd.mono (sqO hw) (fun _ h=>h);obtain ⟨ev,fv,rfl,hxs,f0,f1⟩:=hmd;obtain ⟨pe,ce,rfl,-⟩:=f0;obtain ⟨pf,cf,rfl,-⟩:=f1;obtain ⟨a0,a1,a2⟩:=sqC3 hcs (by omega);rw [← B1.out.cell (p:=⟨g,_,none⟩) hgl] at a0 a1 a2;simp at a0 a1 a2;have hgw:g<W1.heap.size:=Nat.lt_of_lt_of_le hgl B1.out.size;have qa0:∀ m:Wd (fun w'=>SameOn All W1 w'∧Bz w w'),m.val.cell? ⟨g,off+k * 3,none⟩=some (.string x.name):=fun m=>(sqK (m.ok.1.2 g trivial hgw)).trans a0;have qa1:∀ m:Wd (fun w'=>SameOn All W1 w'∧Bz w w'),m.val.cell? ⟨g,off+k * 3+1,none⟩=some (.slice pe x.exports.length ce):=fun m=>(sqK (m.ok.1.2 g trivial hgw)).trans a1;have qa2:∀ m:Wd (fun w'=>SameOn All W1 w'∧Bz w w'),m.val.cell? ⟨g,off+k * 3+2,none⟩=some (.slice pf x.funs.length cf):=fun m=>(sqK (m.ok.1.2 g trivial hgw)).trans a2;have qx1:∀ mw:Wd (fun w'=>SameOn All W1 w'∧Bz w w'),mw.val.cell? ⟨w.heap.size,1,none⟩=some (.string q.name):=fun mw=>(sqK (mw.ok.1.2 w.heap.size trivial hlw)).trans (bA.out.cell 1 _ rfl);have qx2:∀ mw:Wd (fun w'=>SameOn All W1 w'∧Bz w w'),mw.val.cell? ⟨w.heap.size,2,none⟩=some (.int .i64 q.arity):=fun mw=>(sqK (mw.ok.1.2 w.heap.size trivial hlw)).trans (bA.out.cell 2 _ rfl);generalize hn:ms.length=n at *;have hki:(k:Int)<(n:Int):=(by omega);have hk0:=sqI k
   have HFF:Hid (∃ fi:Int,findI (sameR ⟨q.name,q.arity⟩) x.funs=fi∧((fi = -1∧FindR ms q k fi false)∨(∃ j:Nat,fi=j∧FindR ms q k fi true))):=by
    rcases findI_cases (sameR ⟨q.name,q.arity⟩) x.funs with ⟨h1,h2⟩ | ⟨j,f,h1,h2,h3,h4,h5⟩
    · exact ⟨_,rfl,.inl ⟨h2,.inl ⟨rfl,fnOf_nof hfd h1⟩⟩⟩
    · exact ⟨_,rfl,.inr ⟨j,h4,.inr ⟨rfl,k,j,x,f,rfl,h4,hxk,hfd,h2,h5,findI_first hfi,findI_first h4⟩⟩⟩
   obtain ⟨fi,hfe,hfr⟩:=HFF.out;have HFE:=hid hfe;have HFR:=hid hfr;clear hn hfe hfr HFF hyes hxk hnx hfi hfd hcs hat hx hcsl a0 a1 a2;go_enter func23,ntmps23;go_wp2_with fail;rw [← HW1.out];refine CM.out.mono ?_;rintro e w2 ⟨rfl,rfl⟩;go_wp2_with fail;have hCne:Nonempty (Wd (fun w'=>SameOn All w2 w'∧Bz w w')):=⟨⟨w2.drew,⟨⟨Nat.le_refl _,fun _ _ _=>rfl⟩,B1.out.drew⟩⟩⟩;refine wp_region_class (fun w'=>SameOn All w2 w'∧Bz w w') (by kernel_rfl) (by kernel_rfl) ⟨⟨Nat.le_refl _,fun _ _ _=>rfl⟩,B1.out.drew⟩ ?_
   repeat (go_big_quiet_step (first | (rename_i mm;go_at_call 64;refine (l02FindI_any d _ _ x q.name q.arity (HMD.out _ mm.ok.2)).mono ?_;rintro e w1 ⟨rfl,hb1⟩;exact ⟨by rw [HFE.out],⟨⟨w1,⟨(SameOn.trans mm.ok.1 (sqO hb1)),mm.ok.2.trans (hb1.mono mm.ok.2.size)⟩⟩,rfl⟩⟩)))
   refine wpQuiet_nil ?_;rintro _ ⟨mq,rfl⟩;have HB4:=hid mq.ok.2;generalize mq.val=w4 at HB4 ⊢
   rcases HFR.out with ⟨rfl,hr⟩ | ⟨j,rfl,hr⟩
   · have HRR:=hid hr
     clear hr HFR;go_wp2_with fail;exact bodyPost_ret (v:=.tuple #[.int .i64 (k:Nat),.int .i64 (-1),.bool false]) (by simp [results,results23,go_sem]) rfl ⟨⟨k,-1,false,rfl,HRR.out⟩,HB4.out⟩
   · have HRR:=hid hr
     have hj0:¬ (j:Int)<0:=(by omega);have hj1:=sqI j;clear hr HFR;go_wp2_with fail;exact bodyPost_ret (v:=.tuple #[.int .i64 (k:Nat),.int .i64 (j:Nat),.bool true]) (by simp [results,results23,go_sem]) rfl ⟨⟨k,j,true,rfl,HRR.out⟩,HB4.out⟩
def ClR (ms:List Md) (q:Pl) (w:World) (d:Nat) (cs:List Value) (ok:Bool):Prop :=
 (ok=false∧clauseOf ms q=none∧cs = [.slice none 0 0,.slice none 0 0])∨(ok=true∧∃ c,clauseOf ms q=some c∧HCl w All (HEx w All d) cs c)
def ClE (ms:List Md) (q:Pl) (w:World) (d:Nat) (e:Ending):Prop:=∃ pv bv ok,e=.returned (.tuple #[.agg #[pv,bv],.bool ok])∧ClR ms q w d [pv,bv] ok
theorem clauseOf_none {ms:List Md} {q:Pl} (h:fnOf ms q=none):clauseOf ms q=none:=by simp [clauseOf,h]
theorem clauseOf_out {ms:List Md} {q:Pl} {f:Fn'} (h:fnOf ms q=some f) (hi:inB q.clause 0 (f.clauses.length - 1)=false):clauseOf ms q=none:=by simp [clauseOf,h,hi]
theorem clauseOf_in {ms:List Md} {q:Pl} {f:Fn'} {j:Nat} (h:fnOf ms q=some f) (hj:q.clause=j) (hi:inB q.clause 0 (f.clauses.length - 1)=true):clauseOf ms q=f.clauses[j]?:=by
 simp [clauseOf,h,hi];rw [hj];simp
theorem l07Clause_any (d:Nat) (w:World) (v:Value) (ms:List Md) (q:Pl) (h:Rows w All 3 (HMd w All d) v ms) :
 Calls prog 18 #[v,.agg #[.string q.mod,.string q.name,.int .i64 q.arity,.int .i64 q.clause]] w fun e w'=>ClE ms q w' d e∧Bz w w':=by
 have HR:Hid (∀ w',Bz w w'→Rows w' All 3 (HMd w' All d) v ms):=fun w' hw=>h.mono (sqO hw) (fun _ h=>h) (fun _ _ _ h=>h.mono (sqO hw) (fun _ h=>h));obtain ⟨W1,hW1⟩:∃ W1,W1=(w.alloc (.cells #[.string q.mod,.string q.name,.int .i64 q.arity,.int .i64 q.clause] 31)).alloc (.cells #[.slice none 0 0,.slice none 0 0] 46):=⟨_,rfl⟩;have bA:Hid (Blk W1 w.heap.size #[.string q.mod,.string q.name,.int .i64 q.arity,.int .i64 q.clause] 31):=(by show Blk _ _ _ _;rw [hW1];exact Blk.new.alloc)
 have bR:Hid (Blk W1 (w.heap.size+1) #[.slice none 0 0,.slice none 0 0] 46):=by
  show Blk _ _ _ _;rw [hW1];have:=Blk.new (w:=w.alloc (.cells #[.string q.mod,.string q.name,.int .i64 q.arity,.int .i64 q.clause] 31)) (cs:=#[.slice none 0 0,.slice none 0 0]) (t:=46)
  rwa [alloc_hs] at this
 have B1:Hid (Bz w W1):=(by show Below _ _ _;rw [hW1];exact ((sqN _ _)).alloc (by simp) _);have HW1:=hid hW1;have CF:=hid (l07Find_any d W1 v ms q (HR.out _ B1.out));obtain ⟨y0,y1,y2,y3⟩:=sqB4 bA.out;clear hW1;obtain ⟨p,cap,rfl,hcl,hcm,hx⟩:=h;have HX:=hid hx;have HLM:Hid (ms.length≤9223372036854775807):=(by show _≤_;unfold maxLen at hcm;omega);clear hx;go_enter func18,ntmps18;go_wp2_with fail;rw [← HW1.out];refine CF.out.mono ?_;rintro e w2 ⟨⟨a,b,ok,rfl,hr⟩,hb⟩;have HFR:=hid hr;have B2:=hid (B1.out.trans (hb.mono B1.out.size));have bA2:=hid (bA.out.next hb);have bR2:=hid (bR.out.next hb);have hlw:=bA2.out.lt;clear hr hb y0 y1 y2 y3 bA bR CF HW1 B1
 rcases HFR.out with ⟨rfl,hno⟩ | ⟨rfl,k,j,m,f,rfl,rfl,hxk,hfm,hfk,hff,-,-⟩
 · have HC:Hid (clauseOf ms q=none):=clauseOf_none hno
   clear hno HFR;go_wp2_with fail;have hCne:Nonempty (Wd (fun w'=>SameOn All w2 w'∧Bz w w')):=⟨⟨w2.drew,⟨⟨Nat.le_refl _,fun _ _ _=>rfl⟩,B2.out.drew⟩⟩⟩;refine wp_region_class (fun w'=>SameOn All w2 w'∧Bz w w') (by kernel_rfl) (by kernel_rfl) ⟨⟨Nat.le_refl _,fun _ _ _=>rfl⟩,B2.out.drew⟩ ?_
   repeat (go_big_quiet_step (fail))
   refine wpQuiet_nil ?_;rintro _ ⟨mq,rfl⟩;have HB4:=hid mq.ok.2;have HS4:=hid mq.ok.1;generalize mq.val=w4 at HB4 HS4 ⊢;have bR4:=hid (bR2.out.same_on HS4.out);obtain ⟨z0,z1⟩:=sqB2 bR4.out;obtain ⟨f0,f1⟩:=sqF2 bR4.out;go_wp2_with fail;have hz:Bz w ((w4.setCell ⟨w.heap.size+1,0,none⟩ (.slice none 0 0)).setCell ⟨w.heap.size+1,1,none⟩ (.slice none 0 0)):=(HB4.out.setCell (by show _≤_+1;omega) _).setCell (by show _≤_+1;omega) _;have bz:Blk ((w4.setCell ⟨w.heap.size+1,0,none⟩ (.slice none 0 0)).setCell ⟨w.heap.size+1,1,none⟩ (.slice none 0 0)) (w.heap.size+1) #[.slice none 0 0,.slice none 0 0] 46:=(bR4.out.same rfl).same rfl;clear z0 z1;obtain ⟨z0,z1⟩:=sqB2 bz;exact bodyPost_ret (v:=.tuple #[.agg #[.slice none 0 0,.slice none 0 0],.bool false]) (by simp [results,results18,go_sem,z0,z1]) rfl ⟨⟨_,_,false,rfl,.inl ⟨rfl,HC.out,rfl⟩⟩,hz⟩
 · have HFN:Hid (fnOf ms q=some f):=fnOf_at hfm hff
   obtain ⟨g,off,rfl,-,hgl,hat⟩:=HX.out (sqE hxk);obtain ⟨cs,hcsl,hcs,ev,fv,rfl,hxs,f0,f1⟩:=hat k m hxk;obtain ⟨pe,ce,rfl,-⟩:=f0;obtain ⟨pf,cf,rfl,hclf,hcmf,hxf⟩:=f1;obtain ⟨gf,of,rfl,-,hgf,hatf⟩:=hxf (sqE hfk);obtain ⟨fcs,hfl,hfcs,cv,rfl,-,-,hcv⟩:=hatf j f hfk;obtain ⟨pc,cc,rfl,hclc,hcmc,hxc⟩:=hcv;have a2:=hcs 2 (by omega);have e2:=hfcs 2 (by omega);rw [← B2.out.cell (p:=⟨g,_,none⟩) hgl] at a2;rw [← B2.out.cell (p:=⟨gf,_,none⟩) hgf] at e2;simp at a2 e2;have hgw:g<w2.heap.size:=Nat.lt_of_lt_of_le hgl B2.out.size;have hgfw:gf<w2.heap.size:=Nat.lt_of_lt_of_le hgf B2.out.size;have qa2:∀ m':Wd (fun w'=>SameOn All w2 w'∧Bz w w'),m'.val.cell? ⟨g,off+k * 3+2,none⟩=some (.slice (some ⟨gf,of,none⟩) m.funs.length cf):=fun m'=>(sqK (m'.ok.1.2 g trivial hgw)).trans a2;have qe2:∀ m':Wd (fun w'=>SameOn All w2 w'∧Bz w w'),m'.val.cell? ⟨gf,of+j * 3+2,none⟩=some (.slice pc f.clauses.length cc):=fun m'=>(sqK (m'.ok.1.2 gf trivial hgfw)).trans e2;have qx3:∀ m':Wd (fun w'=>SameOn All w2 w'∧Bz w w'),m'.val.cell? ⟨w.heap.size,3,none⟩=some (.int .i64 q.clause):=fun m'=>(sqK (m'.ok.1.2 w.heap.size trivial hlw)).trans (bA2.out.cell 3 _ rfl);have hki:(k:Int)<(ms.length:Int):=(by have:=(List.getElem?_eq_some_iff.1 hxk).1;omega);have hk0:=sqI k;have hji:(j:Int)<(m.funs.length:Int):=(by have:=(List.getElem?_eq_some_iff.1 hfk).1;omega);have hj0:=sqI j;have hlm:=HLM.out;have hlf:m.funs.length≤9223372036854775807:=(by unfold maxLen at hcmf;omega);have hlc:f.clauses.length≤9223372036854775807:=(by unfold maxLen at hcmc;omega);generalize hn:ms.length=n at *;generalize hnf:m.funs.length=nf at *;generalize hnc:f.clauses.length=nc at *;have HNC:=hid hnc;clear hn hnf hnc hcs hat hcsl hatf hfcs hfl HFR hxf
   cases hin:inB q.clause 0 ((nc:Int) - 1) with
   | false =>
    have CI:Hid (∀ w',Calls prog 55 #[.int .i64 q.clause,.int .i64 0,.int .i64 ((nc:Int) - 1)] w' fun e w''=>e=.returned (.bool false)∧w''=w'):=fun w'=>by
     have:=l01In_any q.clause 0 ((nc:Int) - 1) w'
     rwa [hin] at this
    have HC:=hid (clauseOf_out HFN.out (by rw [HNC.out];exact hin));clear hin;go_wp2_with fail;have hCne:Nonempty (Wd (fun w'=>SameOn All w2 w'∧Bz w w')):=⟨⟨w2.drew,⟨⟨Nat.le_refl _,fun _ _ _=>rfl⟩,B2.out.drew⟩⟩⟩;refine wp_region_class (fun w'=>SameOn All w2 w'∧Bz w w') (by kernel_rfl) (by kernel_rfl) ⟨⟨Nat.le_refl _,fun _ _ _=>rfl⟩,B2.out.drew⟩ ?_
    repeat (go_big_quiet_step (first | (rename_i mm;go_at_call 55;refine (CI.out _).mono ?_;rintro e w1 ⟨rfl,rfl⟩;exact ⟨rfl,⟨mm,rfl⟩⟩)))
    refine wpQuiet_nil ?_;rintro _ ⟨mq,rfl⟩;have HB4:=hid mq.ok.2;have HS4:=hid mq.ok.1;generalize mq.val=w4 at HB4 HS4 ⊢;have bR4:=hid (bR2.out.same_on HS4.out);obtain ⟨z0,z1⟩:=sqB2 bR4.out;obtain ⟨f0,f1⟩:=sqF2 bR4.out;go_wp2_with fail;have hz:Bz w ((w4.setCell ⟨w.heap.size+1,0,none⟩ (.slice none 0 0)).setCell ⟨w.heap.size+1,1,none⟩ (.slice none 0 0)):=(HB4.out.setCell (by show _≤_+1;omega) _).setCell (by show _≤_+1;omega) _;have bz:Blk ((w4.setCell ⟨w.heap.size+1,0,none⟩ (.slice none 0 0)).setCell ⟨w.heap.size+1,1,none⟩ (.slice none 0 0)) (w.heap.size+1) #[.slice none 0 0,.slice none 0 0] 46:=(bR4.out.same rfl).same rfl;clear z0 z1;obtain ⟨z0,z1⟩:=sqB2 bz;exact bodyPost_ret (v:=.tuple #[.agg #[.slice none 0 0,.slice none 0 0],.bool false]) (by simp [results,results18,go_sem,z0,z1]) rfl ⟨⟨_,_,false,rfl,.inl ⟨rfl,HC.out,rfl⟩⟩,hz⟩
   | true =>
    have hin2:=hin;simp only [inB,decide_eq_true_eq] at hin2;obtain ⟨i,hi⟩:∃ i:Nat,q.clause=i:=⟨q.clause.toNat,by omega⟩;obtain ⟨c,hck⟩:∃ c,f.clauses[i]?=some c:=⟨f.clauses[i]'(by rw [HNC.out];omega),List.getElem?_eq_getElem _⟩
    have HC:Hid (clauseOf ms q=some c):=by
     show _=_;rw [clauseOf_in HFN.out hi (by rw [HNC.out];exact hin)];exact hck
    obtain ⟨gc,oc,rfl,-,hgc,hatc⟩:=hxc (sqE hck);obtain ⟨ccs,hccl,hccs,hcl0⟩:=hatc i c hck;have HCL:Hid (∀ w',Bz w w'→HCl w' All (HEx w' All d) ccs c):=fun w' hw=>hcl0.mono (sqO hw) (fun _ h=>h) (fun _ _ h=>h.mono (sqO hw) (fun _ h=>h));obtain ⟨pv,bv,rfl,hpv,hbv⟩:=hcl0;obtain ⟨ppv,cpv,rfl,-⟩:=hpv;obtain ⟨pbv,cbv,rfl,-⟩:=hbv;obtain ⟨c0,c1⟩:=sqC2 hccs (by omega);have hgcw:gc<w2.heap.size:=Nat.lt_of_lt_of_le hgc B2.out.size;rw [← B2.out.cell (p:=⟨gc,_,none⟩) hgc] at c0 c1;simp at c0 c1;have hii:(i:Int)<(nc:Int):=(by omega);have hi0:=sqI i
    have CI:Hid (∀ w',Calls prog 55 #[.int .i64 i,.int .i64 0,.int .i64 ((nc:Int) - 1)] w' fun e w''=>e=.returned (.bool true)∧w''=w'):=fun w'=>by
     have:=l01In_any (i:Int) 0 ((nc:Int) - 1) w';rw [hi] at hin
     rwa [hin] at this
    rw [hi] at qx3;clear hin hin2 hatc hccs hccl hxc hck;go_wp2_with fail;have hCne:Nonempty (Wd (fun w'=>SameOn All w2 w'∧Bz w w')):=⟨⟨w2.drew,⟨⟨Nat.le_refl _,fun _ _ _=>rfl⟩,B2.out.drew⟩⟩⟩;refine wp_region_class (fun w'=>SameOn All w2 w'∧Bz w w') (by kernel_rfl) (by kernel_rfl) ⟨⟨Nat.le_refl _,fun _ _ _=>rfl⟩,B2.out.drew⟩ ?_
    repeat (go_big_quiet_step (first | (rename_i mm;go_at_call 55;refine (CI.out _).mono ?_;rintro e w1 ⟨rfl,rfl⟩;exact ⟨rfl,⟨mm,rfl⟩⟩)))
    refine wpQuiet_nil ?_;rintro _ ⟨mq,rfl⟩;have HB4:=hid mq.ok.2;have HS4:=hid mq.ok.1;generalize mq.val=w4 at HB4 HS4 ⊢;have bR4:=hid (bR2.out.same_on HS4.out);obtain ⟨z0,z1⟩:=sqB2 bR4.out;obtain ⟨f0,f1⟩:=sqF2 bR4.out;have k2:=(sqK (HS4.out.2 g trivial hgw)).trans a2;have k3:=(sqK (HS4.out.2 gf trivial hgfw)).trans e2;have k4:=(sqK (HS4.out.2 gc trivial hgcw)).trans c0;have k5:=(sqK (HS4.out.2 gc trivial hgcw)).trans c1;have k6:=(sqK (HS4.out.2 w.heap.size trivial hlw)).trans (bA2.out.cell 3 _ rfl);clear qa2 qe2 qx3 a2 e2 c0 c1;have ne1:w.heap.size+1≠g:=(by omega);have ne2:w.heap.size+1≠gf:=(by omega);have ne3:w.heap.size+1≠gc:=(by omega);have ne4:w.heap.size+1≠w.heap.size:=(by omega);rw [hi] at k6;go_wp2_with fail
    go_region_held3 (fun w'=>w'.cell? ⟨g,off+k * 3+2,none⟩=some (.slice (some ⟨gf,of,none⟩) nf cf)∧w'.cell? ⟨gf,of+j * 3+2,none⟩=some (.slice (some ⟨gc,oc,none⟩) nc cc)∧w'.cell? ⟨gc,oc+i * 2,none⟩=some (.slice ppv c.1.length cpv)∧w'.cell? ⟨gc,oc+i * 2+1,none⟩=some (.slice pbv c.2.length cbv)∧w'.cell? ⟨w.heap.size,3,none⟩=some (.int .i64 i))
     (go_keep) (fail)
    go_split_ands;go_wp2_with fail;have hz:Bz w ((w4.setCell ⟨w.heap.size+1,0,none⟩ (.slice ppv c.1.length cpv)).setCell ⟨w.heap.size+1,1,none⟩ (.slice pbv c.2.length cbv)).drew:=((HB4.out.setCell (by show _≤_+1;omega) _).setCell (by show _≤_+1;omega) _).drew;have bz:Blk ((w4.setCell ⟨w.heap.size+1,0,none⟩ (.slice ppv c.1.length cpv)).setCell ⟨w.heap.size+1,1,none⟩ (.slice pbv c.2.length cbv)).drew (w.heap.size+1) #[.slice ppv c.1.length cpv,.slice pbv c.2.length cbv] 46:=(bR4.out.same rfl).same rfl;obtain ⟨y0,y1⟩:=sqB2 bz;exact bodyPost_ret (v:=.tuple #[.agg #[.slice ppv c.1.length cpv,.slice pbv c.2.length cbv],.bool true]) (by simp [results,results18,go_sem,y0,y1]) rfl ⟨⟨_,_,true,rfl,.inr ⟨rfl,c,HC.out,HCL.out _ hz⟩⟩,hz⟩
theorem fnOf_no {ms:List Md} {q:Pl} (h:ms.any (hasAt q)=false):fnOf ms q=none:=by
 unfold fnOf
 cases hf:ms.find? (named q.mod) with
 | none=>rfl
 | some m =>
  have hm:=List.mem_of_find?_eq_some hf;have hn:=List.find?_some hf;have h1:=List.any_eq_false.1 h m hm;simp only [hasAt,hn,Bool.true_and,Bool.not_eq_true] at h1;show m.funs.find? _=none;rw [List.find?_eq_none];intro x hx;have:=List.any_eq_false.1 h1 x hx
  simpa using this
def OneName (ms:List Md):Prop:=∀ (s:ByteArray) (k:Nat) (m:Md),ms[k]?=some m→named s m=true→ms.find? (named s)=some m
theorem FunP.fn {d:Nat} {ms:List Md} {q:Pl} {v:Value} {w:World} {gf o k j:Nat} {m:Md} {f:Fn'} (h:FunP d ms q v w gf o k j m f) (hu:OneName ms):fnOf ms q=some f :=
 fnOf_at (hu _ k m h.at_k h.nm) h.first
theorem less_chain:∀ {a b c:List UInt8},Op.bytesLess a b=true→Op.bytesLess b c=true→Op.bytesLess a c=true
 | [],[],_,h,_=>by simp [Op.bytesLess] at h
 | _ :: _,[],_,h,_=>by simp [Op.bytesLess] at h
 | _,_ :: _,[],_,h=>by simp [Op.bytesLess] at h
 | [],_ :: _,_ :: _,_,_=>rfl
 | x :: a,y :: b,z :: c,h,k=>by
  simp only [Op.bytesLess,Bool.or_eq_true,decide_eq_true_eq,Bool.and_eq_true,beq_iff_eq] at h k ⊢;rw [UInt8.lt_iff_toNat_lt] at h k ⊢
  rcases h with h | ⟨rfl,h⟩ <;> rcases k with k | ⟨rfl,k⟩
  · left;omega
  · left;exact h
  · left;exact k
  · exact Or.inr ⟨rfl,less_chain h k⟩
theorem less_self:∀ (a:List UInt8),Op.bytesLess a a=false
 | []=>by simp [Op.bytesLess]
 | x :: a=>by simp [Op.bytesLess,less_self a]
theorem pgOk_less {d:Nat} {ms:List Md} (h:pgOk d ms=true) {j:Nat} {b:Md}:∀ {i:Nat} {a:Md},i<j→ms[i]?=some a→ms[j]?=some b→Op.bytesLess a.name.toList b.name.toList=true:=by
 intro i a hij hi hj
 have hall:∀ k,k<ms.length→mdsAt d ms k=true:=by
  simp only [pgOk,Bool.and_eq_true,List.all_eq_true] at h;exact fun k hk=>h.2 k (List.mem_range.2 hk)
 induction j generalizing b with
 | zero=>omega
 | succ j ih =>
  have hl:=(List.getElem?_eq_some_iff.1 hj).1;obtain ⟨c,hc⟩:∃ c,ms[j]?=some c:=⟨ms[j]'(by omega),List.getElem?_eq_getElem _⟩;have h1:=hall (j+1) hl;rw [mdsAt_succ hc hj,Bool.and_eq_true] at h1;by_cases hij':i=j
  · subst hij'
    obtain rfl:=Option.some.inj (hc.symm.trans hi);exact h1.2
  · exact less_chain (ih (by omega) hc) h1.2
theorem pgOk_one {d:Nat} {ms:List Md} (h:pgOk d ms=true):OneName ms:=by
 intro s k m hk hn;obtain ⟨hl,he⟩:=List.getElem?_eq_some_iff.1 hk;rw [List.find?_eq_some_iff_getElem];refine ⟨hn,k,hl,he,fun j hj=>?_⟩;have hj':ms[j]?=some ms[j]:=List.getElem?_eq_getElem _;have h1:=pgOk_less h hj hj' hk
 cases hq:named s ms[j] with
 | false=>rfl
 | true =>
  have e1:ms[j].name.toList=s.toList:=(by simpa [named] using hq);have e2:m.name.toList=s.toList:=(by simpa [named] using hn);rw [e1,e2,less_self] at h1
  cases h1
def ClP (d:Nat) (ms:List Md) (q:Pl) (v:Value) (w:World) (gc o:Nat) (c:Cl):Prop :=
 ∃ gf og k j m f,FunP d ms q v w gf og k j m f∧∃ (i oc cc:Nat),q.clause=i∧f.clauses[i]?=some c∧gc<w.heap.size∧w.cell? ⟨gf,og+2,none⟩=some (.slice (some ⟨gc,oc,none⟩) f.clauses.length cc)∧o=oc+i * 2 ∧
  ∃ cs,cs.length=2∧(∀ i,i<2→w.cell? ⟨gc,o+i,none⟩=cs[i]?)∧HCl w All (HEx w All d) cs c
def ClQ (d:Nat) (ms:List Md) (q:Pl) (v:Value) (w:World) (e:Ending):Prop :=
 (e=.returned (.pointer none)∧clauseOf ms q=none)∨∃ gc o c,e=.returned (.pointer (some ⟨gc,o,none⟩))∧clauseOf ms q=some c∧ClP d ms q v w gc o c
theorem FunP.same {d:Nat} {ms:List Md} {q:Pl} {v:Value} {w w':World} {gf o k j:Nat} {m:Md} {f:Fn'} (h:FunP d ms q v w gf o k j m f) (hb:SameOn All w w'):FunP d ms q v w' gf o k j m f:=by
 obtain ⟨g,off,cap,of,cf,h1,h2,h3⟩:=h.lies;obtain ⟨cs,c1,c2,c3⟩:=h.is
 have hgl:g<w.heap.size:=by
  unfold World.cell? at h2
  split at h2
  · rename_i heq;exact (Array.getElem?_eq_some_iff.1 heq).1
  · cases h2
 refine ⟨h.at_k,h.nm,h.at_j,h.first,h.before,Nat.lt_of_lt_of_le h.lt hb.1,⟨g,off,cap,of,cf,h1,(sqK (hb.2 g trivial hgl)).trans h2,h3⟩,⟨cs,c1,fun i hi=>(sqK (hb.2 gf trivial h.lt)).trans (c2 i hi),c3.mono hb (fun _ h=>h)⟩⟩
theorem clauseAt_any (d:Nat) (w:World) (v:Value) (ms:List Md) (q:Pl) (h:Rows w All 3 (HMd w All d) v ms) (hu:OneName ms) :
 Calls prog 29 #[v,.agg #[.string q.mod,.string q.name,.int .i64 q.arity,.int .i64 q.clause]] w fun e w'=>ClQ d ms q v w' e∧Bz w w':=by
 have HU:=hid hu;have HR:Hid (∀ w',Bz w w'→Rows w' All 3 (HMd w' All d) v ms):=fun w' hw=>h.mono (sqO hw) (fun _ h=>h) (fun _ _ _ h=>h.mono (sqO hw) (fun _ h=>h));obtain ⟨W1,hW1⟩:∃ W1,W1=w.alloc (.cells #[.string q.mod,.string q.name,.int .i64 q.arity,.int .i64 q.clause] 31):=⟨_,rfl⟩;have bA:Hid (Blk W1 w.heap.size #[.string q.mod,.string q.name,.int .i64 q.arity,.int .i64 q.clause] 31):=(by show Blk _ _ _ _;rw [hW1];exact Blk.new);have B1:Hid (Bz w W1):=(by show Below _ _ _;rw [hW1];exact (sqN _ _));have HW1:=hid hW1;have CF:=hid (funAt_any d W1 v ms q (HR.out _ B1.out));obtain ⟨y0,y1,y2,y3⟩:=sqB4 bA.out;obtain ⟨p,cap,rfl,-⟩:=h;clear hW1 hu;go_enter func29,ntmps29;go_wp2_with fail;rw [← HW1.out];refine CF.out.mono ?_;rintro e w2 ⟨hr,hb⟩;have B2:=hid (B1.out.trans (hb.mono B1.out.size));have bA2:=hid (bA.out.next hb);have hlw:=bA2.out.lt;clear hb y0 y1 y2 y3 bA CF HW1 B1
 rcases hr with ⟨rfl,hno⟩ | ⟨gf,og,k,j,m,f,rfl,hP⟩
 · have HC:Hid (clauseOf ms q=none):=clauseOf_none (fnOf_no hno)
   clear hno;go_wp2_with fail;have hCne:Nonempty (Wd (fun w'=>SameOn All w2 w'∧Bz w w')):=⟨⟨w2.drew,⟨⟨Nat.le_refl _,fun _ _ _=>rfl⟩,B2.out.drew⟩⟩⟩;refine wp_region_class (fun w'=>SameOn All w2 w'∧Bz w w') (by kernel_rfl) (by kernel_rfl) ⟨⟨Nat.le_refl _,fun _ _ _=>rfl⟩,B2.out.drew⟩ ?_
   repeat (go_big_quiet_step (fail))
   refine wpQuiet_nil ?_;rintro _ ⟨mq,rfl⟩;have HB4:=hid mq.ok.2;have HS4:=hid mq.ok.1;generalize mq.val=w4 at HB4 HS4 ⊢;go_wp2_with fail;go_ret;exact ⟨.inl ⟨rfl,HC.out⟩,HB4.out⟩
 · have HFN:Hid (fnOf ms q=some f):=hP.fn HU.out
   have HP:=hid hP;obtain ⟨fcs,hfl,hfcs,cv,rfl,-,-,hcv⟩:=hP.is;obtain ⟨pc,cc,rfl,hclc,hcmc,hxc⟩:=hcv;have hgfw:=hP.lt;have e2:=hfcs 2 (by omega);simp at e2;have qe2:∀ m':Wd (fun w'=>SameOn All w2 w'∧Bz w w'),m'.val.cell? ⟨gf,og+2,none⟩=some (.slice pc f.clauses.length cc):=fun m'=>(sqK (m'.ok.1.2 gf trivial hgfw)).trans e2;have qx3:∀ m':Wd (fun w'=>SameOn All w2 w'∧Bz w w'),m'.val.cell? ⟨w.heap.size,3,none⟩=some (.int .i64 q.clause):=fun m'=>(sqK (m'.ok.1.2 w.heap.size trivial hlw)).trans (bA2.out.cell 3 _ rfl);have hlc:f.clauses.length≤9223372036854775807:=(by unfold maxLen at hcmc;omega);generalize hnc:f.clauses.length=nc at *;have HNC:=hid hnc;clear hnc hfcs hfl hP
   cases hin:inB q.clause 0 ((nc:Int) - 1) with
   | false =>
    have CI:Hid (∀ w',Calls prog 75 #[.int .i64 q.clause,.int .i64 0,.int .i64 ((nc:Int) - 1)] w' fun e w''=>e=.returned (.bool false)∧w''=w'):=fun w'=>by
     have:=withinM_any q.clause 0 ((nc:Int) - 1) w'
     rwa [hin] at this
    have HC:=hid (clauseOf_out HFN.out (by rw [HNC.out];exact hin));clear hin;go_wp2_with fail;have hCne:Nonempty (Wd (fun w'=>SameOn All w2 w'∧Bz w w')):=⟨⟨w2.drew,⟨⟨Nat.le_refl _,fun _ _ _=>rfl⟩,B2.out.drew⟩⟩⟩;refine wp_region_class (fun w'=>SameOn All w2 w'∧Bz w w') (by kernel_rfl) (by kernel_rfl) ⟨⟨Nat.le_refl _,fun _ _ _=>rfl⟩,B2.out.drew⟩ ?_
    repeat (go_big_quiet_step ((rename_i mm;go_at_call 75;refine (CI.out _).mono ?_;rintro e w1 ⟨rfl,rfl⟩;exact ⟨rfl,⟨mm,rfl⟩⟩)))
    refine wpQuiet_nil ?_;rintro _ ⟨mq,rfl⟩;have HB4:=hid mq.ok.2;have HS4:=hid mq.ok.1;generalize mq.val=w4 at HB4 HS4 ⊢;go_wp2_with fail;go_ret;exact ⟨.inl ⟨rfl,HC.out⟩,HB4.out⟩
   | true =>
    have hin2:=hin;simp only [inB,decide_eq_true_eq] at hin2;obtain ⟨i,hi⟩:∃ i:Nat,q.clause=i:=⟨q.clause.toNat,by omega⟩
    have CI:Hid (∀ w',Calls prog 75 #[.int .i64 i,.int .i64 0,.int .i64 ((nc:Int) - 1)] w' fun e w''=>e=.returned (.bool true)∧w''=w'):=fun w'=>by
     have:=withinM_any (i:Int) 0 ((nc:Int) - 1) w';rw [hi] at hin
     rwa [hin] at this
    obtain ⟨c,hck⟩:∃ c,f.clauses[i]?=some c:=⟨f.clauses[i]'(by rw [HNC.out];omega),List.getElem?_eq_getElem _⟩
    have HC:Hid (clauseOf ms q=some c):=by
     show _=_;rw [clauseOf_in HFN.out hi (by rw [HNC.out];exact hin)];exact hck
    obtain ⟨gc,oc,rfl,-,hgc,hatc⟩:=hxc (sqE hck);obtain ⟨ccs,hccl,hccs,hcl0⟩:=hatc i c hck;have HCL:Hid (∃ cs,cs.length=2∧(∀ i',i'<2→w2.cell? ⟨gc,oc+i * 2+i',none⟩=cs[i']?)∧HCl w2 All (HEx w2 All d) cs c):=⟨ccs,hccl,hccs,hcl0⟩;have HE2:Hid (w2.cell? ⟨gf,og+2,none⟩=some (.slice (some ⟨gc,oc,none⟩) f.clauses.length cc)):=(by show _=_;rw [HNC.out];exact e2);have HCK:=hid hck;have HGC:=hid hgc;have HQI:=hid hi;have hii:(i:Int)<(nc:Int):=(by omega);have hi0:=sqI i;rw [hi] at qx3;clear hin hin2 hatc hccs hccl hxc hck hcl0 e2;go_wp2_with fail;have hCne:Nonempty (Wd (fun w'=>SameOn All w2 w'∧Bz w w')):=⟨⟨w2.drew,⟨⟨Nat.le_refl _,fun _ _ _=>rfl⟩,B2.out.drew⟩⟩⟩;refine wp_region_class (fun w'=>SameOn All w2 w'∧Bz w w') (by kernel_rfl) (by kernel_rfl) ⟨⟨Nat.le_refl _,fun _ _ _=>rfl⟩,B2.out.drew⟩ ?_
    repeat (go_big_quiet_step ((rename_i mm;go_at_call 75;refine (CI.out _).mono ?_;rintro e w1 ⟨rfl,rfl⟩;exact ⟨rfl,⟨mm,rfl⟩⟩)))
    refine wpQuiet_nil ?_;rintro _ ⟨mq,rfl⟩;have HB4:=hid mq.ok.2;have HS4:=hid mq.ok.1;generalize mq.val=w4 at HB4 HS4 ⊢;have S4:=HS4.out;go_wp2_with fail;have hCne2:Nonempty (Wd (fun w'=>SameOn All w2 w'∧Bz w w')):=⟨⟨w4.drew,⟨HS4.out,HB4.out.drew⟩⟩⟩;refine wp_region_class (fun w'=>SameOn All w2 w'∧Bz w w') (by kernel_rfl) (by kernel_rfl) ⟨HS4.out,HB4.out.drew⟩ ?_
    repeat (go_big_quiet_step (fail))
    refine wpQuiet_nil ?_;rintro _ ⟨mq,rfl⟩;have HB5:=hid mq.ok.2;have HS5:=hid mq.ok.1;generalize mq.val=w5 at HB5 HS5 ⊢;go_wp2_with fail;go_ret;have hb5:=HS5.out;obtain ⟨cs,k1,k2,k3⟩:=HCL.out;refine ⟨.inr ⟨gc,oc+i * 2,c,rfl,HC.out,gf,og,k,j,m,f,HP.out.same HS5.out,i,oc,cc,HQI.out,HCK.out,Nat.lt_of_lt_of_le HGC.out HS5.out.1,(sqK (HS5.out.2 gf trivial hgfw)).trans HE2.out,rfl,cs,k1,fun i' hi'=>(sqK (HS5.out.2 gc trivial HGC.out)).trans (k2 i' hi'),k3.mono HS5.out (fun _ h=>h) (fun _ _ h=>h.mono HS5.out (fun _ h=>h))⟩,HB5.out⟩
theorem info_exC:(prog.info? 76).map (fun i=>(i.zero,i.size,i.bytes))=some (some (.agg #[.int .i64 0,.int .i64 0,.string ⟨#[]⟩,.string ⟨#[]⟩,.slice none 0 0,.slice none 0 0]),6,96):=by kernel_rfl
theorem exc_oneCell {w:World} {S:Nat→Prop} {d:Nat} (cs:List Value) (x:Ex) (h:HEx w S d cs x):∀ u ∈ cs,u.oneCell'=true:=by
 cases d with
 | zero=>exact h.elim
 | succ d =>
  obtain ⟨kv,cv,rfl,-,-,-,-,⟨p,c,rfl,-⟩,⟨p',c',rfl,-⟩⟩:=h;intro u hu;simp only [List.mem_cons,List.not_mem_nil,or_false] at hu
  rcases hu with rfl | rfl | rfl | rfl | rfl | rfl <;> rfl
theorem growEx_any (n:Nat) (w:World) (hn:n≤33554432) :
 Calls prog 156 #[.slice none 0 0,.int .i64 n] w fun e w'=>∃ u,e=.returned u∧w'.ownsRow w.heap.size 76 6 u 0 []∧Bz w w':=by
 by_cases h0:n=0
 · subst h0
   go_enter func156,ntmps156;go_wp2;go_ret;exact ⟨_,rfl,⟨by simp,.inl ⟨rfl,rfl⟩⟩,Below.refl _ _⟩
 · obtain ⟨i,hi,hz0,hz1,hz2⟩:=info_parts info_exC
   have hfc:(Builtin.firstCells i.size 0 (.slice none 0 0)).run prog w.drew=.ok #[] w.drew:=run_firstCells_none w.drew i.size 0 0 0
   have hrz:∀ ty,(Builtin.append_ #[44,3] ty #[.slice none 0 0,.int .i64 n]).run prog w =
    .ok (.slice (some ⟨w.heap.size,0,none⟩) n (grownCap w n 0 76)) (w.drew.alloc (.cells (#[] ++ Builtin.zeroCells (Value.agg #[.int .i64 0,.int .i64 0,.string ⟨#[]⟩,.string ⟨#[]⟩,.slice none 0 0,.slice none 0 0]).cells n ++ Builtin.zeroCells (Value.agg #[.int .i64 0,.int .i64 0,.string ⟨#[]⟩,.string ⟨#[]⟩,.slice none 0 0,.slice none 0 0]).cells (grownCap w n 0 76 - n)) 76)):=fun ty=>by
    have h:=Lib.run_append_grow_zeros w 44 3 ty 76 i _ .i64 .i64 underlying44 underlying3 hi hz0 none 0 0 [] hfc n (by omega) (by omega) (by omega) (by omega)
     (by rw [hz2];omega) (growslice_fits (by omega) (by rw [hz2];omega))
    simpa using h
   have hGn:n≤grownCap w n 0 76:=grownCap_ge w _ _ _;have hGm:=grownCap_le_maxLen w n 0 76 (by unfold maxLen;omega);generalize grownCap w n 0 76=G at *;have HGM:=hid hGm;have hG63:G≤9223372036854775807:=(by unfold maxLen at hGm;omega);have h1:(0:Int)<(n:Int):=(by omega);obtain ⟨CC,hCC⟩:∃ CC:Array Value,CC=#[] ++ Builtin.zeroCells (Value.agg #[.int .i64 0,.int .i64 0,.string ⟨#[]⟩,.string ⟨#[]⟩,.slice none 0 0,.slice none 0 0]).cells n ++ Builtin.zeroCells (Value.agg #[.int .i64 0,.int .i64 0,.string ⟨#[]⟩,.string ⟨#[]⟩,.slice none 0 0,.slice none 0 0]).cells (G - n):=⟨_,rfl⟩
   have hCS:CC.size=G * 6:=by
    rw [hCC];simp only [Array.size_append,size_zeroCells,Value.cells];simp;omega
   rw [← hCC] at hrz;have HB:Hid (Bz w (w.alloc (.cells CC 76)).drew):=((sqN _ _)).drew
   have HO:Hid ((w.alloc (.cells CC 76)).drew.ownsRow w.heap.size 76 6 (.slice (some ⟨w.heap.size,0,none⟩) 0 G) 0 []) :=
    ⟨by simp,.inr ⟨w.heap.size,G,CC,rfl,Nat.le_refl _,heap_alloc_new w _,Nat.zero_le _,hGm,hCS,by simp⟩⟩
   clear hCC hCS;clear hfc hi hz0 hz1 hz2 hGm;go_enter func156,ntmps156;go_wp2_with (at_builtin;refine Lib.wpList_append_run _ rfl _ _ _ _ rfl _ _ rfl rfl _ _ (hrz _) ?_);go_ret;exact ⟨_,rfl,HO.out,HB.out⟩
def aheadC (P Q:List Ex):Nat→List Ex
 | 0=>[]
 | 1=>P
 | _=>P ++ Q
theorem concatEx_any (R:List Value→Ex→Prop) (hone:∀ cs y,R cs y→∀ q ∈ cs,q.oneCell'=true) (w:World) (sb:Nat) (p1 p2:Option Addr) (c1 c2:Nat) (P Q:List Ex) (hs:Blk w sb #[.slice p1 P.length c1,.slice p2 Q.length c2] 44)
 (h1:Rows w All 6 R (.slice p1 P.length c1) P) (h2:Rows w All 6 R (.slice p2 Q.length c2) Q) (hl:P.length+Q.length≤16777216) :
 Calls prog 111 #[.slice (some ⟨sb,0,none⟩) 2 2] w fun e w'=>∃ u,e=.returned u∧OwnG 76 6 R w' w.heap.size u (P ++ Q)∧Bz w w':=by
 have HR1:Hid (∀ w',Bz w w'→Rows w' All 6 R (.slice p1 P.length c1) P):=fun w' hb=>h1.mono (sqO hb) (fun _ h=>h) (fun _ _ _ h=>h);have HR2:Hid (∀ w',Bz w w'→Rows w' All 6 R (.slice p2 Q.length c2) Q):=fun w' hb=>h2.mono (sqO hb) (fun _ h=>h) (fun _ _ _ h=>h);have HBK:Hid (∀ w',Bz w w'→Blk w' sb #[.slice p1 P.length c1,.slice p2 Q.length c2] 44):=fun w' hb=>hs.next hb;have HL:=hid hl;obtain ⟨y0,y1⟩:=sqB2 hs;generalize hn1:P.length=n1 at *;generalize hn2:Q.length=n2 at *;have HN1:=hid hn1;have HN2:=hid hn2;clear h1 h2 hs hn1 hn2;go_enter func111,ntmps111;go_wp2_with fail
 go_loopw [3,11] (fun sv iv wr=>wr=w∧((iv=.int .i64 0∧sv=.int .i64 0)∨(iv=.int .i64 1∧sv=.int .i64 n1)∨(iv=.int .i64 2∧sv=.int .i64 ((n1:Int)+n2)))) (fun _ iv _=>2 - (intOf iv).toNat)
 case atStart=>exact ⟨by first | rfl | trivial,.inl ⟨rfl,rfl⟩⟩
 case round =>
  obtain ⟨hww,hrel⟩:=hrel;have hww':=hww.symm;subst hww';clear hww
  rcases hrel with ⟨rfl,rfl⟩ | ⟨rfl,rfl⟩ | ⟨rfl,rfl⟩
  · go_wp2_with fail
    exact ⟨⟨by first | rfl | trivial,.inr (.inl ⟨rfl,by go_num⟩)⟩,by simp [intOf]⟩
  · go_wp2_with fail
    exact ⟨⟨by first | rfl | trivial,.inr (.inr ⟨rfl,by go_num⟩)⟩,by simp [intOf]⟩
  · have CG:Hid (Calls prog 156 #[.slice none 0 0,.int .i64 ((n1:Int)+n2)] w fun e w'=>∃ u,e=.returned u∧w'.ownsRow w.heap.size 76 6 u 0 []∧Bz w w'):=by
     have:=growEx_any (n1+n2) w (by omega)
     rwa [Int.natCast_add] at this
    go_wp2_with fail;refine CG.out.mono ?_;rintro e w1 ⟨u0,rfl,ho,hb⟩;have HO:Hid (OwnG 76 6 R w1 w.heap.size u0 []):=⟨⟨[],ho,CellsR.nil⟩,hb.size⟩;have HB:=hid hb;clear ho hb y0 y1;go_wp2_with fail
    go_loopw [6,27] (fun ov iv wq=>∃ k:Nat,k≤2∧iv=.int .i64 k∧Hid (OwnG 76 6 R wq w.heap.size ov (aheadC P Q k))∧Hid (Bz w wq)) (fun _ iv _=>2 - (intOf iv).toNat)
    case atStart=>exact ⟨0,by omega,rfl,HO.out,HB.out⟩
    case round =>
     clear HO HB;obtain ⟨k,hk,rfl,HO,HB⟩:=hrel;have bk:=HBK.out _ HB.out;obtain ⟨y0,y1⟩:=sqB2 bk
     rcases (by omega:k=0∨k=1∨k=2) with rfl | rfl | rfl
     · have R1:Hid (Rows wr All 6 R (.slice p1 n1 c1) P):=HR1.out _ HB.out
       go_wp2_with (at_builtin;refine wpList_append_own_rows rfl _ _ 44 rfl _ 96 underlying44 info_exC rfl (by decide) HO.out rfl (.slice p1 n1 c1) P rfl R1.out hone (by have:=HL.out;rw [HN1.out];simp only [aheadC,List.length_nil];omega) (by decide) ?_;intro v7 w7 ho7 hb7 hap7);exact ⟨⟨1,by omega,by go_num,by show OwnG _ _ _ _ _ _ _;simpa [aheadC] using ho7,HB.out.trans hb7⟩,by simp [intOf]⟩
     · have R2:Hid (Rows wr All 6 R (.slice p2 n2 c2) Q):=HR2.out _ HB.out
       go_wp2_with (at_builtin;refine wpList_append_own_rows rfl _ _ 44 rfl _ 96 underlying44 info_exC rfl (by decide) HO.out rfl (.slice p2 n2 c2) Q rfl R2.out hone (by have:=HL.out;rw [HN2.out];simp only [aheadC,HN1.out];omega) (by decide) ?_;intro v7 w7 ho7 hb7 hap7);exact ⟨⟨2,by omega,by go_num,by show OwnG _ _ _ _ _ _ _;simpa [aheadC] using ho7,HB.out.trans hb7⟩,by simp [intOf]⟩
     · go_wp2_with fail
       go_ret;exact ⟨_,rfl,HO.out,HB.out⟩
end Go.Proofs.YtdhlonogmnkemaaGreatDoor
namespace Go.Proofs.YtdhlonogmnkemaaGreatDoor
open Go.ChangeShapes Go.WideShapes Go.ChangeAt Go.RowKit Go.Maps Go.WideMaps Go.Proofs.Tryz
set_option linter.unusedVariables false
set_option maxRecDepth 100000
theorem mkMap (w:World):Sem.run prog (Instr.makeMap 151 none) w=.ok (.map (some w.heap.size)) (w.alloc (.map #[] 0)):=by kernel_rfl
theorem lawS:Keyed prog 9:=string_keyed underlying9
def setR (_:Value):Option (DataW Unit × List MemPlace):=some (.agg [],[])
def setD (K:List (List UInt8)):DataW Unit:=K.foldl (fun D x=>D.put (.string x) (.agg [])) (.map [])
theorem setD_snoc (K:List (List UInt8)) (x:List UInt8):setD (K ++ [x])=(setD K).put (.string x) (.agg []):=by simp [setD,List.foldl_append]
def MapAt (w:World) (mb:Nat) (K:List (List UInt8)):Prop:=w.ownsMap prog 9 setR mb K.length (setD K)
theorem MapAt.keep {w w':World} {mb:Nat} {K:List (List UInt8)} (h:MapAt w mb K) (he:w'.heap[mb]?=w.heap[mb]?):MapAt w' mb K:=by
 obtain ⟨es,clock,h1,h2⟩:=h;exact ⟨es,clock,he.trans h1,h2⟩
theorem MapAt.lt {w:World} {mb:Nat} {K:List (List UInt8)} (h:MapAt w mb K):mb<w.heap.size:=by
 obtain ⟨es,clock,h1,h2⟩:=h;exact (Array.getElem?_eq_some_iff.1 h1).1
theorem add_any (w:World) (mb:Nat) (K:List (List UInt8)) (s:ByteArray) (h:MapAt w mb K) (hs:okS s) (hK:K.length<maxLen) :
 Calls prog 113 #[.map (some mb),.string s] w fun e w'=>e=.returned (.tuple #[])∧MapAt w' mb (K ++ [s.data.toList])∧Off [mb] w w':=by
 have H:=hid h;have hk:keyOf prog 9 (.string s)=some (.string s.data.toList):=keyOf_string_mk underlying9 hs;clear h;go_enter func113,ntmps113;go_wp2_with (at_mapUpdate;refine wpList_mapUpdate_own _ rfl _ _ _ 151 rfl 9 _ lawS underlying151 setR mb K.length (setD K) rfl H.out hK _ _ _ rfl rfl hk (.agg []) [] rfl ?_;intro w1 hm1 hg1);go_end0;refine ⟨rfl,?_,Off.of_grown hg1 (by simp)⟩;unfold MapAt;rw [setD_snoc,List.length_append];exact hm1
structure Ev (w:World) (mb tb:Nat) (K:List (List UInt8)):Prop where
 m:MapAt w mb K
 b:Blk w tb #[.func (.func 113) #[.map (some mb)] #[]] 155
 ne:tb≠mb
theorem Ev.next {w w':World} {mb tb:Nat} {K:List (List UInt8)} (h:Ev w mb tb K) (hb:Bz w w'):Ev w' mb tb K :=
 ⟨h.m.keep (hb.block mb h.m.lt),h.b.next hb,h.ne⟩
theorem HEx.offN {w w':World} {mb d:Nat} {cs:List Value} {x:Ex} (h:HEx w (fun g=>g≠mb) d cs x) (ho:Off [mb] w w'):HEx w' (fun g=>g≠mb) d cs x :=
 h.mono ⟨ho.size,fun g hg hl=>ho.block g hl (by simpa using hg)⟩ (fun _ h=>h)
abbrev FV (tb:Nat):Value:=.func (.func 158) #[] #[.pointer (some ⟨tb,0,none⟩)]
theorem cbk_any (w:World) (mb tb d:Nat) (cs:List Value) (x:Ex) (K:List (List UInt8)) (h:HEx w (fun g=>g≠mb) (d+1) cs x) (hv:Ev w mb tb K) (hK:K.length<67108864) (A:List (List UInt8)) (hA:(if x.kind=2 then [keyS x.text] else [])=A) :
 Calls prog 158 #[.agg cs.toArray,.pointer (some ⟨tb,0,none⟩)] w fun e w'=>e=.returned (.tuple #[])∧Ev w' mb tb (K ++ A)∧Off [mb] w w':=by
 obtain ⟨kv,cv,rfl,-,-,hts,-,f0,f1⟩:=h;obtain ⟨p,cap,rfl,-⟩:=f0;obtain ⟨pc,capc,rfl,-⟩:=f1;have BA:Bz w (w.alloc (.cells #[.int .i64 x.kind,.int .i64 x.n,.string x.text,.string x.mod,.slice p x.kids.length cap,.slice pc x.clauses.length capc] 76)):=(sqN _ _);have HV:=hid (hv.next BA);have HBA:=hid BA;have ct:=HV.out.b.cell 0 _ rfl;by_cases hk:x.kind=2
 · rw [if_pos hk] at hA
   subst hA;clear hv BA;rw [hk] at HV HBA ct ⊢;go_enter func158,ntmps158;go_wp2_with fail;refine (add_any _ mb K x.text HV.out.m hts (by unfold maxLen;omega)).mono ?_;rintro e w1 ⟨rfl,hm1,ho1⟩;have h1:Ev w1 mb tb (K ++ [keyS x.text]):=⟨by unfold keyS;rw [ByteArray.toList_eq];exact hm1,(ho1.block tb HV.out.b.lt (by simpa using HV.out.ne)).trans HV.out.b,HV.out.ne⟩;go_wp2_with fail;go_end0;exact ⟨rfl,h1,(Off.of_below HBA.out).trans ho1⟩
 · rw [if_neg hk] at hA
   subst hA;rw [List.append_nil];have hkb:(x.kind == 2)=false:=(by simpa using hk);clear hv BA;go_enter func158,ntmps158;go_wp2_with fail;go_end0;exact ⟨rfl,HV.out,Off.of_below HBA.out⟩
theorem HEx.shapeN {w:World} {S:Nat→Prop} {d:Nat} {cs:List Value} {x:Ex} (h:HEx w S d cs x):∃ sk sn st se p1 n1 q1 p2 n2 q2,cs = [.int .i64 sk,.int .i64 sn,.string st,.string se,.slice p1 n1 q1,.slice p2 n2 q2]:=by
 cases d with
 | zero=>exact h.elim
 | succ d =>
  obtain ⟨kv,cv,rfl,_,_,_,_,⟨p1,c1,rfl,_⟩,⟨p2,c2,rfl,_⟩⟩:=h;exact ⟨_,_,_,_,_,_,_,_,_,_,rfl⟩
def EeC (d:Nat):Prop:=∀ (w:World) (mb tb:Nat) (cs:List Value) (x:Ex) (K:List (List UInt8)),HEx w (fun g=>g≠mb) d cs x→Ev w mb tb K→K.length+(varL d x).length≤33554432 →
 Calls prog 157 #[.agg cs.toArray,FV tb] w fun e w'=>e=.returned (.tuple #[])∧Ev w' mb tb (K ++ varL d x)∧Off [mb] w w'
def EoC (d:Nat):Prop:=∀ (w:World) (mb tb:Nat) (v:Value) (es:List Ex) (K:List (List UInt8)),Rows w (fun g=>g≠mb) 6 (HEx w (fun g=>g≠mb) d) v es→Ev w mb tb K→K.length+(es.flatMap (varL d)).length≤33554432 →
 Calls prog 193 #[v,FV tb] w fun e w'=>e=.returned (.tuple #[])∧Ev w' mb tb (K ++ es.flatMap (varL d))∧Off [mb] w w'
theorem eachOf_of {d:Nat} (hE:EeC d):EoC d:=by
 intro w mb tb v es K hr hv hK;obtain ⟨p,cap,rfl,hcl,hcm,hx⟩:=hr;have hnb:=sqM hcl hcm;have HX:=hid hx;have HV:=hid hv;have HK:=hid hK;generalize hn:es.length=n at *;have HN:=hid hn;clear hx hv hK hn;go_enter func193,ntmps193;go_wp2_with fail
 go_loopw [8] (fun iv wr=>∃ k:Nat,k≤n∧iv=.int .i64 k∧Hid (Ev wr mb tb (K ++ (es.take k).flatMap (varL d)))∧Hid (Off [mb] w wr)) (fun iv _=>n - (intOf iv).toNat)
 case atStart=>exact ⟨0,Nat.zero_le _,rfl,by show Ev _ _ _ _;simpa using HV.out,Off.refl _ _⟩
 case round =>
  obtain ⟨k,hk,rfl,HVk,HOk⟩:=hrel;by_cases hlt:k<n
  · obtain ⟨x,hxk⟩:=sqA (l:=es) (k:=k) HN.out hlt
    obtain ⟨g,off,rfl,hgm,hgl,hat⟩:=HX.out (sqE hxk);obtain ⟨cs,hcsl,hcs,r1⟩:=hat k x hxk;have E1:=hid (r1.offN HOk.out);obtain ⟨c0,c1,c2,c3,c4,c5,rfl⟩:=len6 hcsl;have hge:wr.heap[g]?=w.heap[g]?:=HOk.out.block g hgl (by simpa using hgm);have a0:=(sqK (a:=⟨g,off+k * 6+0,none⟩) hge).trans (hcs 0 (by omega));have a1:=(sqK (a:=⟨g,off+k * 6+1,none⟩) hge).trans (hcs 1 (by omega));have a2:=(sqK (a:=⟨g,off+k * 6+2,none⟩) hge).trans (hcs 2 (by omega));have a3:=(sqK (a:=⟨g,off+k * 6+3,none⟩) hge).trans (hcs 3 (by omega));have a4:=(sqK (a:=⟨g,off+k * 6+4,none⟩) hge).trans (hcs 4 (by omega));have a5:=(sqK (a:=⟨g,off+k * 6+5,none⟩) hge).trans (hcs 5 (by omega));simp at a0 a1 a2 a3 a4 a5
    have HJ:Hid (K ++ (es.take (k+1)).flatMap (varL d)=K ++ (es.take k).flatMap (varL d) ++ varL d x):=by
     show _=_;rw [List.take_add_one,hxk];simp
    have HKk:Hid ((K ++ (es.take k).flatMap (varL d)).length+(varL d x).length≤33554432):=by
     have h1:=HK.out
     have h2:(es.flatMap (varL d))=(es.take k).flatMap (varL d) ++ (varL d x ++ (es.drop (k+1)).flatMap (varL d)):=by
      have h3:es=es.take k ++ x :: es.drop (k+1):=by
       have h4:=List.take_append_drop k es;rw [List.drop_eq_getElem_cons (by rw [HN.out];exact hlt)] at h4;have h5:es[k]'(by rw [HN.out];exact hlt)=x:=(List.getElem?_eq_some_iff.1 hxk).2;rw [h5] at h4;exact h4.symm
      conv=>lhs;rw [h3]
      simp
     rw [h2] at h1;show _≤_;simp only [List.length_append] at h1 ⊢;omega
    generalize K ++ (es.take k).flatMap (varL d)=Kk at *;have hki:(k:Int)<(n:Int):=(by omega);have hk0:=sqI k;clear hat hcs hcsl r1 hge;obtain ⟨sk,sn,st,se,p1,n1,q1,p2,n2,q2,hsh⟩:=HEx.shapeN E1.out;simp only [List.cons.injEq,and_true] at hsh;obtain ⟨rfl,rfl,rfl,rfl,rfl,rfl⟩:=hsh;have HBA:Hid (Bz wr (wr.alloc (.cells #[.int .i64 sk,.int .i64 sn,.string st,.string se,.slice p1 n1 q1,.slice p2 n2 q2] 76))):=(sqN _ _);go_wp2_with fail;refine (hE _ mb tb _ x Kk (E1.out.offN (Off.of_below HBA.out)) (HVk.out.next HBA.out) HKk.out).mono ?_;rintro e w1 ⟨rfl,hv1,ho1⟩;go_wp2_with fail;exact ⟨⟨k+1,by omega,by go_num,by show Ev _ _ _ _;rw [HJ.out];exact hv1,(HOk.out.trans (Off.of_below HBA.out)).trans ho1⟩,by simp [intOf];omega⟩
  · have HS:Hid (Ev wr mb tb (K ++ es.flatMap (varL d))):=by
     have:=HVk.out
     rwa [List.take_of_length_le (by rw [HN.out];omega)] at this
    go_wp2_with fail;go_end0;exact ⟨rfl,HS.out,HOk.out⟩
theorem eachExp_of {d:Nat} (hO:EoC d):EeC (d+1):=by
 intro w mb tb cs x K h hv hK;have HEX:=hid h;obtain ⟨kv,cv,rfl,-,-,hts,-,f0,f1⟩:=h;obtain ⟨kx,nx,tx,mx,ks,cl⟩:=x;simp only [Ex.kind,Ex.n,Ex.text,Ex.mod,Ex.kids,Ex.clauses] at *;have hvl:varL (d+1) (.mk kx nx tx mx ks cl)=(if kx=2 then [keyS tx] else []) ++ (ks.flatMap (varL d) ++ cl.flatMap fun c=>c.1.flatMap (varL d) ++ c.2.flatMap (varL d)):=rfl;rw [hvl] at hK ⊢;generalize hA:(if kx=2 then [keyS tx] else ([]:List (List UInt8)))=A at hK ⊢;have HA:=hid hA;simp only [List.length_append] at hK;have F0:=hid f0;obtain ⟨p,cap,rfl,-⟩:=id f0;obtain ⟨pc,capc,rfl,hcl',hcm',hxc⟩:=f1;have hnc:=sqM hcl' hcm';have HXC:=hid hxc;have HKK:=hid hK;generalize hm:cl.length=nc at *;have HNC:=hid hm;have HBA:Hid (Bz w (w.alloc (.cells #[.int .i64 kx,.int .i64 nx,.string tx,.string mx,.slice p ks.length cap,.slice pc nc capc] 76))):=(sqN _ _);have HV:=hid (hv.next HBA.out);have bA:Hid (Blk (w.alloc (.cells #[.int .i64 kx,.int .i64 nx,.string tx,.string mx,.slice p ks.length cap,.slice pc nc capc] 76)) w.heap.size #[.int .i64 kx,.int .i64 nx,.string tx,.string mx,.slice p ks.length cap,.slice pc nc capc] 76):=Blk.new;have hmb:mb≠w.heap.size:=(by have:=hv.m.lt;omega);clear f0 hxc hA hm hvl hv hK;go_enter func157,ntmps157;go_wp2_with fail;refine (cbk_any _ mb tb d _ _ K (HEX.out.offN (Off.of_below HBA.out)) HV.out (by have:=HKK.out;omega) A HA.out).mono ?_;rintro e w1 ⟨rfl,hv1,ho1⟩;have HV1:=hid hv1;have HO1:Hid (Off [mb] w w1):=(Off.of_below HBA.out).trans ho1;have b1:Hid (Blk w1 w.heap.size #[.int .i64 kx,.int .i64 nx,.string tx,.string mx,.slice p ks.length cap,.slice pc nc capc] 76):=(ho1.block w.heap.size bA.out.lt (by simpa using fun e=>hmb e.symm)).trans bA.out;have x4:=b1.out.cell 4 _ rfl;clear hv1 ho1 HV bA;go_wp2_with fail;refine (hO _ mb tb _ ks (K ++ A) (Rows.mono F0.out ⟨HO1.out.size,fun g hg hl=>HO1.out.block g hl (by simpa using hg)⟩ (fun _ h=>h) (fun _ _ _ h=>HEx.offN h HO1.out)) HV1.out (by have:=HKK.out;simp only [List.length_append];omega)).mono ?_;rintro e w2 ⟨rfl,hv2,ho2⟩;have HV2:=hid hv2;have HO2:=hid (HO1.out.trans ho2);have b2:Hid (Blk w2 w.heap.size #[.int .i64 kx,.int .i64 nx,.string tx,.string mx,.slice p ks.length cap,.slice pc nc capc] 76):=(ho2.block w.heap.size b1.out.lt (by simpa using fun e=>hmb e.symm)).trans b1.out;have x5:=b2.out.cell 5 _ rfl;clear hv2 ho2 x4 b1 HV1 HO1;go_wp2_with fail
 go_loopw [16] (fun iv wr=>∃ k:Nat,k≤nc∧iv=.int .i64 k∧Hid (Ev wr mb tb (K ++ A ++ ks.flatMap (varL d) ++ (cl.take k).flatMap fun c=>c.1.flatMap (varL d) ++ c.2.flatMap (varL d)))∧Hid (Off [mb] w wr)) (fun iv _=>nc - (intOf iv).toNat)
 case atStart=>exact ⟨0,Nat.zero_le _,rfl,by show Ev _ _ _ _;simpa using HV2.out,HO2.out⟩
 case round =>
  obtain ⟨k,hk,rfl,HVk,HOk⟩:=hrel;clear x5 HV2 HO2 b2;by_cases hlt:k<nc
  · obtain ⟨c,hck⟩:∃ c,cl[k]?=some c:=⟨cl[k]'(by rw [HNC.out];exact hlt),List.getElem?_eq_getElem _⟩
    obtain ⟨g,off,rfl,hgm,hgl,hat⟩:=HXC.out (sqE hck);obtain ⟨cs,hcsl,hcs,pv,bv,rfl,rp,rb⟩:=hat k c hck;have SK:Hid (SameOn (fun g=>g≠mb) w wr):=⟨HOk.out.size,fun g hg hl=>HOk.out.block g hl (by simpa using hg)⟩;have RP:=hid (Rows.mono rp SK.out (fun _ h=>h) (fun _ _ _ h=>HEx.offN h HOk.out));have RB:=hid (Rows.mono rb SK.out (fun _ h=>h) (fun _ _ _ h=>HEx.offN h HOk.out));obtain ⟨pp,capp,rfl,-⟩:=rp;obtain ⟨pb,capb,rfl,-⟩:=rb;have hge:wr.heap[g]?=w.heap[g]?:=HOk.out.block g hgl (by simpa using hgm);have a0:=(sqK (a:=⟨g,off+k * 2+0,none⟩) hge).trans (hcs 0 (by omega));have a1:=(sqK (a:=⟨g,off+k * 2+1,none⟩) hge).trans (hcs 1 (by omega));simp at a0 a1
    have HJ:Hid ((K ++ A ++ ks.flatMap (varL d) ++ (cl.take (k+1)).flatMap fun c=>c.1.flatMap (varL d) ++ c.2.flatMap (varL d))=(K ++ A ++ ks.flatMap (varL d) ++ (cl.take k).flatMap fun c=>c.1.flatMap (varL d) ++ c.2.flatMap (varL d)) ++ c.1.flatMap (varL d) ++ c.2.flatMap (varL d)):=by
     show _=_;rw [List.take_add_one,hck];simp
    have HKk:Hid ((K ++ A ++ ks.flatMap (varL d) ++ (cl.take k).flatMap fun c=>c.1.flatMap (varL d) ++ c.2.flatMap (varL d)).length+(c.1.flatMap (varL d)).length+(c.2.flatMap (varL d)).length≤33554432):=by
     have h1:=HKK.out
     have h2:(cl.flatMap fun c=>c.1.flatMap (varL d) ++ c.2.flatMap (varL d))=((cl.take k).flatMap fun c=>c.1.flatMap (varL d) ++ c.2.flatMap (varL d)) ++ ((c.1.flatMap (varL d) ++ c.2.flatMap (varL d)) ++ (cl.drop (k+1)).flatMap fun c=>c.1.flatMap (varL d) ++ c.2.flatMap (varL d)):=by
      have h3:cl=cl.take k ++ c :: cl.drop (k+1):=by
       have h4:=List.take_append_drop k cl;rw [List.drop_eq_getElem_cons (by rw [HNC.out];exact hlt)] at h4;have h5:cl[k]'(by rw [HNC.out];exact hlt)=c:=(List.getElem?_eq_some_iff.1 hck).2;rw [h5] at h4;exact h4.symm
      conv=>lhs;rw [h3]
      simp
     rw [h2] at h1;show _≤_;simp only [List.length_append] at h1 ⊢;omega
    generalize (K ++ A ++ ks.flatMap (varL d) ++ (cl.take k).flatMap fun c=>c.1.flatMap (varL d) ++ c.2.flatMap (varL d))=Kk at *;have hki:(k:Int)<(nc:Int):=(by omega);have hk0:=sqI k;have hmw:mb≠wr.heap.size:=(by have:=HVk.out.m.lt;omega);have HBC:Hid (Bz wr (wr.alloc (.cells #[.slice pp c.1.length capp,.slice pb c.2.length capb] 46))):=(sqN _ _);have bC:Hid (Blk (wr.alloc (.cells #[.slice pp c.1.length capp,.slice pb c.2.length capb] 46)) wr.heap.size #[.slice pp c.1.length capp,.slice pb c.2.length capb] 46):=Blk.new;clear hat hcs hcsl hge;go_wp2_with fail;refine (hO _ mb tb _ c.1 Kk (Rows.mono RP.out ⟨HBC.out.size,fun g _ hl=>HBC.out.block g hl⟩ (fun _ h=>h) (fun _ _ _ h=>HEx.offN h (Off.of_below HBC.out))) (HVk.out.next HBC.out) (by have:=HKk.out;omega)).mono ?_;rintro e w3 ⟨rfl,hv3,ho3⟩;have HV3:=hid hv3;have HO3:Hid (Off [mb] wr w3):=(Off.of_below HBC.out).trans ho3;have b3:Blk w3 wr.heap.size #[.slice pp c.1.length capp,.slice pb c.2.length capb] 46:=(ho3.block wr.heap.size bC.out.lt (by simpa using fun e=>hmw e.symm)).trans bC.out;have y1:=b3.cell 1 _ rfl;clear hv3 ho3 bC b3 a0 a1;go_wp2_with fail;refine (hO _ mb tb _ c.2 (Kk ++ c.1.flatMap (varL d)) (Rows.mono RB.out ⟨HO3.out.size,fun g hg hl=>HO3.out.block g hl (by simpa using hg)⟩ (fun _ h=>h) (fun _ _ _ h=>HEx.offN h HO3.out)) HV3.out (by have:=HKk.out;simp only [List.length_append];omega)).mono ?_;rintro e w4 ⟨rfl,hv4,ho4⟩;go_wp2_with fail;exact ⟨⟨k+1,by omega,by go_num,by show Ev _ _ _ _;rw [HJ.out];exact hv4,(HOk.out.trans HO3.out).trans ho4⟩,by simp [intOf];omega⟩
  · have HS:Hid (Ev wr mb tb (K ++ (A ++ (ks.flatMap (varL d) ++ cl.flatMap fun c=>c.1.flatMap (varL d) ++ c.2.flatMap (varL d))))):=by
     have:=HVk.out;rw [List.take_of_length_le (by rw [HNC.out];omega)] at this;show Ev _ _ _ _
     simpa only [List.append_assoc] using this
    go_wp2_with fail;go_end0;exact ⟨rfl,HS.out,HOk.out⟩
theorem eachExp_all:∀ d,EeC d
 | 0=>fun w mb tb cs x K h _ _=>h.elim
 | d+1=>eachExp_of (eachOf_of (eachExp_all d))
theorem eachVar_any (w:World) (mb d:Nat) (cs:List Value) (x:Ex) (K:List (List UInt8)) (h:HEx w (fun g=>g≠mb) d cs x) (hm:MapAt w mb K) (hK:K.length+(varL d x).length≤33554432) :
 Calls prog 112 #[.agg cs.toArray,.func (.func 113) #[.map (some mb)] #[]] w fun e w'=>e=.returned (.tuple #[])∧MapAt w' mb (K ++ varL d x)∧Off [mb] w w':=by
 obtain ⟨sk,sn,st,se,p1,n1,q1,p2,n2,q2,rfl⟩:=HEx.shapeN h;have HH:=hid h;have HM:=hid hm;have hlt:=hm.lt;clear h hm;go_enter func112,ntmps112;go_wp2_with fail;have hB:Bz w ((w.alloc (.cells #[.int .i64 sk,.int .i64 sn,.string st,.string se,.slice p1 n1 q1,.slice p2 n2 q2] 76)).alloc (.cells #[.func (.func 113) #[.map (some mb)] #[]] 155)):=((sqN _ _)).alloc (by simp) _
 have hE:Ev ((w.alloc (.cells #[.int .i64 sk,.int .i64 sn,.string st,.string se,.slice p1 n1 q1,.slice p2 n2 q2] 76)).alloc (.cells #[.func (.func 113) #[.map (some mb)] #[]] 155)) mb (w.heap.size+1) K:=⟨HM.out.keep (hB.block mb hlt),by
  have:=Blk.new (w:=w.alloc (.cells #[.int .i64 sk,.int .i64 sn,.string st,.string se,.slice p1 n1 q1,.slice p2 n2 q2] 76)) (cs:=#[.func (.func 113) #[.map (some mb)] #[]]) (t:=155)
  rwa [alloc_hs] at this,by omega⟩
 refine (eachExp_all d _ mb (w.heap.size+1) _ x K (HH.out.offN (Off.of_below hB)) hE hK).mono ?_;rintro e w1 ⟨rfl,hv1,ho1⟩;go_wp2_with fail;go_end0;exact ⟨rfl,hv1.m,(Off.of_below hB).trans ho1⟩
end Go.Proofs.YtdhlonogmnkemaaGreatDoor
namespace Go.Proofs.YtdhlonogmnkemaaGreatDoor
open Go.ChangeShapes Go.WideShapes Go.ChangeAt Go.RowKit Go.Maps Go.WideMaps Go.Shelf
set_option linter.unusedVariables false
set_option maxRecDepth 100000
theorem grown_of {A B:World} (h:Bz A B):A.grownBy B none:=⟨h.os,h.tape,h.output,h.size,fun k hk _=>h.block k hk⟩
theorem range_bound {α:Type} {F:Fence} {n:Nat} {P:Program} {g:Operand} {ps:Array Tmp} {assign body:Code} {Q:Exit→Act→World→Prop} {a:Act} {w:World}
 (hro:F.round=none) (h1:1≤n) {gf:Nat} {bs:Array Value} (hg:a.eval g=.func (.func gf) bs #[]) (hFg:F.fn gf) (eg:∀ args w,(callFunc gf args).run P w=.ok (.enter gf args) w)
 {encs:α→Array Value} (hps:∀ x,(encs x).size=ps.size) (xs:List α)
 (hseq:∀ (l:Nat) (J:Option Nat→List α→World→Prop) (W:World),Bz w W →
  (∀ q s A B,J q s A→Bz A B→J q s B) →
  (∀ s A B b,J none s A→Bz A B→A.heap.size≤b→b<B.heap.size→J (some b) s B) →
  (∀ q pre x W1,J q pre W1→pre.length<xs.length→YieldAt F (n - 1 - 1) P l (encs x) W1 fun e W'=>e=.returned (.bool true)∧J q (pre ++ [x]) W'∧∀ b,q=some b→b<W1.heap.size→W'.heap[b]?=W1.heap[b]?) →
  J none [] W→CallsIn F (n - 1) P gf (bs ++ #[.func (.yield l) #[] #[]]) W fun e W'=>(∃ v,e=.returned v)∧∃ q,J q xs W')
 (I:Option Nat→List α→World→Prop) (hI:∀ q,OwnFrom w.heap.size (I q)) (hIn:∀ s A B b,I none s A→Bz A B→A.heap.size≤b→b<B.heap.size→I (some b) s B) (h0:I none [] w) (a₁:α→Act)
 (hassign:∀ (l:Nat) (x:α) (W:World) (K:Act→World→Prop),K (a₁ x) W →
  assign.wpIn (F.inRound l) (n - 1 - 1) P (Exit.then K (fun _ _ _=>False)) { tmps:=(ps.zip (encs x)).foldl (fun t (p,v)=>t.setIfInBounds p v) a.tmps,defers:=[] } W)
 (hbody:∀ (l:Nat) (q:Option Nat) (pre:List α) (x:α) (W:World),I q pre W→pre.length<xs.length →
  body.wpIn (F.inRound l) (n - 1 - 1) P (fun e _ W'=>e=.normal∧KeepsOthers W W'∧I q (pre ++ [x]) W'∧∀ b,q=some b→b<W.heap.size→W'.heap[b]?=W.heap[b]?) (a₁ x) W)
 (hdone:∀ (D:Nat) (q:Option Nat) (W:World),w.heap.size≤D→I q xs W→W.heap[D]?=some (.deferred (some []))→Q .normal { a with defers:={ target:=.collected D,args:=#[] } :: a.defers } W) :
 (Code.rangeFunc g ps assign body).wpIn F n P Q a w:=by
 refine wpIn_rangeFunc fun fn hfn=>?_;rw [hro];obtain ⟨R,hR⟩:∃ R:LoopState→Loop,R=fun st=>{ state:=st,pending:=none,fn:=fn,tmps:=a.tmps,params:=ps,assign:=assign,body:=body,defers:=w.heap.size }:=⟨_,rfl⟩;obtain ⟨L,hL⟩:∃ L,L=w.heap.size+1:=⟨_,rfl⟩;obtain ⟨W1,hW1⟩:∃ W1,W1=(w.alloc (.deferred (some []))).alloc (.loop (R .ready)):=⟨_,rfl⟩;have b1:Bz w W1:=(by rw [hW1];exact ((Below.refl _ w).alloc (sqR _) _).alloc (by simp) _)
 have l1:W1.heap[L]?=some (.loop (R .ready)):=by
  have:=World.alloc_heap_new (w.alloc (.deferred (some []))) (.loop (R .ready));rw [World.size_alloc] at this;rw [hW1,hL];exact this
 have k1:W1.heap[w.heap.size]?=some (.deferred (some [])):=(by rw [hW1];exact (Below.heap_alloc _ _ _ (by simp)).trans (World.alloc_heap_new w _));have i1:I none [] W1:=(by rw [hW1];exact (hI none).alloc _ ((hI none).alloc _ h0));have hLw:w.heap.size≤L:=(by omega);have hLn:w.heap.size≠L:=(by omega);refine ⟨L,[{ target:=.collected w.heap.size,args:=#[] }],W1,{ target:=.fn (.func gf) #[],args:=bs ++ #[.func (.yield L) #[] #[]] },W1,gf,bs ++ #[.func (.yield L) #[] #[]],W1,?_,?_,?_,?_,fun _=>h1,?_⟩
 · rw [hW1,hR,hL];exact run_enterLoop_outer _ _ _ _ _
 · simp only [resolve,hg]
   simp [go_sem]
 · intro f' hf';simp [Target.leads] at hf';subst hf';exact hFg
 · simp [invoke,go_sem,eg]
 · refine (hseq L (fun q s W=>I q s W∧W.heap[L]?=some (.loop (R .ready))∧W.heap[w.heap.size]?=some (.deferred (some []))∧∀ b,q=some b→L<b) W1 b1 ?_ ?_ ?_ ⟨i1,l1,k1,fun b e=>by cases e⟩).mono ?_
   · rintro q s A B ⟨ha,hb,hc,hd⟩ hAB
     exact ⟨hI q s A B none ha (grown_of hAB) (fun r e=>by cases e),(hAB.block _ (Array.getElem?_eq_some_iff.1 hb).1).trans hb,(hAB.block _ (Array.getElem?_eq_some_iff.1 hc).1).trans hc,hd⟩
   · rintro s A B b ⟨ha,hb,hc,hd⟩ hAB hbs hbB
     exact ⟨hIn s A B b ha hAB hbs hbB,(hAB.block _ (Array.getElem?_eq_some_iff.1 hb).1).trans hb,(hAB.block _ (Array.getElem?_eq_some_iff.1 hc).1).trans hc,fun b' e=>by cases e;have:=(Array.getElem?_eq_some_iff.1 hb).1;omega⟩
   · rintro q pre x W ⟨hi,hl,hk,hq⟩ hlen
     have hlt:L<W.heap.size:=(Array.getElem?_eq_some_iff.1 hl).1;have hy:=run_yield (P:=P) (args:=encs x) hl (by rw [hR];exact hps x);rw [hR] at hy;refine ⟨fn,_,assign,body,hy,roundIn_of_wpIn hfn (hassign _ x W _ ⟨_,run_beginRound hl (by rw [hR]),?_⟩)⟩;refine wpIn_mono (hbody _ q pre x _ ((hI q).putObj _ hi hLw hl rfl) hlen) ?_;rintro e a3 W3 ⟨rfl,hk3,hi3,hq3⟩;have hl2:=hk3.same L _ (World.putObj_heap_same hlt) rfl;have hk2:=hk3.same w.heap.size _ ((World.putObj_heap_other hLn).trans hk) rfl;have hr:=run_endRound (P:=P) none hl2;refine ⟨_,_,hr,rfl,⟨(hI q).putObj _ hi3 hLw hl2 rfl,?_,(World.putObj_heap_other hLn).trans hk2,hq⟩,?_⟩
     · rw [World.putObj_heap_same (Array.getElem?_eq_some_iff.1 hl2).1,hR];rfl
     · intro b hb hbl
       have hbL:b≠L:=(by have:=hq b hb;omega);rw [World.putObj_heap_other hbL,hq3 b hb (by simpa using hbl),World.putObj_heap_other hbL]
   · rintro e W2 ⟨⟨v,rfl⟩,q,hi,hl,hk,-⟩
     have he:=run_endLoop (P:=P) hl (by rw [hR];simp);refine ⟨none,_,by rw [hR] at he;exact he,hdone _ q _ (sqR _) ((hI q).putObj _ hi hLw hl rfl) ((World.putObj_heap_other hLn).trans hk)⟩
end Go.Proofs.YtdhlonogmnkemaaGreatDoor
namespace Go.Proofs
open Go.Shelf Go.Proofs.Tryz
def Tryz.keys192_ren:Go.Shelf.Ren:=⟨fun | 7=>192 | 10=>218 | n=>n,fun | 23=>151 | 26=>9 | 3=>196 | 28=>235 | 0=>0 | 27=>191 | 33=>53 | 4=>4 | n=>n,fun | n=>n⟩
theorem Tryz.keys192:Go.Proofs.SlLaysZ.n7 prog Tryz.keys192_ren:={
 mixed:=by kernel_rfl
 f7:=⟨Tryz.f192.name,by decide,func192.trans (congrArg some (by kernel_rfl))⟩
 f10:=⟨Tryz.f218.name,by decide,func218.trans (congrArg some (by kernel_rfl))⟩
 t0:=underlying0
 a0:=Tryz.isAgg0
 z0:=Tryz.sizeOf0
 v0:=Tryz.zeroValue0
 t4:=underlying4
 a4:=Tryz.isAgg4
 z4:=Tryz.sizeOf4
 v4:=Tryz.zeroValue4
 t23:=underlying151
 a23:=Tryz.isAgg151
 z23:=Tryz.sizeOf151
 v23:=Tryz.zeroValue151
 t26:=underlying9
 a26:=Tryz.isAgg9
 z26:=Tryz.sizeOf9
 v26:=Tryz.zeroValue9
 t27:=underlying191
 a27:=Tryz.isAgg191
 z27:=Tryz.sizeOf191
 v27:=Tryz.zeroValue191
 t28:=underlying235
 a28:=Tryz.isAgg235
 z28:=Tryz.sizeOf235
 v28:=Tryz.zeroValue235
 t33:=underlying53
 a33:=Tryz.isAgg53
 z33:=Tryz.sizeOf53
 v33:=Tryz.zeroValue53 }
def Tryz.sorted191_ren:Go.Shelf.Ren:=⟨fun | 6=>191 | 8=>216 | 9=>217 | 11=>226 | 13=>139 | 12=>227 | 23=>172 | 24=>173 | 14=>232 | 15=>233 | 16=>234 | 17=>235 | 18=>236 | 19=>237 | 20=>238 | 21=>239 | 22=>240 | 25=>247 | 26=>199 | 27=>200 | 28=>248 | 29=>249 | 30=>250 | 31=>255 | n=>n,fun | 26=>9 | 28=>235 | 24=>51 | 0=>0 | 3=>3 | 37=>179 | 48=>212 | 50=>214 | 4=>4 | 40=>205 | 39=>204 | 45=>209 | 5=>5 | 9=>9 | 51=>241 | 55=>245 | 57=>258 | 58=>259 | 33=>53 | n=>n,fun | n=>n⟩
theorem Tryz.sorted191:Go.Proofs.SlLaysZ.n6 prog Tryz.sorted191_ren:={
 mixed:=by kernel_rfl
 f6:=⟨Tryz.f191.name,by decide,func191.trans (congrArg some (by kernel_rfl))⟩
 f8:=⟨Tryz.f216.name,by decide,func216.trans (congrArg some (by kernel_rfl))⟩
 f11:=⟨Tryz.f226.name,by decide,func226.trans (congrArg some (by kernel_rfl))⟩
 t0:=underlying0
 a0:=Tryz.isAgg0
 z0:=Tryz.sizeOf0
 v0:=Tryz.zeroValue0
 t24:=underlying51
 a24:=Tryz.isAgg51
 z24:=Tryz.sizeOf51
 v24:=Tryz.zeroValue51
 t26:=underlying9
 a26:=Tryz.isAgg9
 z26:=Tryz.sizeOf9
 v26:=Tryz.zeroValue9
 t28:=underlying235
 a28:=Tryz.isAgg235
 z28:=Tryz.sizeOf235
 v28:=Tryz.zeroValue235
 i26:=by kernel_rfl }
def Tryz.sort217_ren:Go.Shelf.Ren:=⟨fun | 6=>217 | 8=>139 | 9=>227 | 19=>172 | 20=>173 | 21=>232 | 22=>233 | 23=>234 | 24=>235 | 25=>236 | 26=>237 | 27=>238 | 28=>239 | 29=>240 | 36=>247 | 31=>199 | 32=>200 | 37=>248 | 38=>249 | 39=>250 | 41=>255 | n=>n,fun | 27=>51 | 29=>9 | 3=>3 | 32=>179 | 26=>51 | 0=>0 | 44=>212 | 46=>214 | 4=>4 | 36=>205 | 35=>204 | 41=>209 | 5=>5 | 9=>9 | 53=>241 | 57=>245 | 63=>258 | 64=>259 | n=>n,fun | n=>n⟩
theorem Tryz.sort217:Go.Proofs.SlLaysM.n6 prog Tryz.sort217_ren:={
 mixed:=by kernel_rfl
 f6:=⟨Tryz.f217.name,by decide,func217.trans (congrArg some (by kernel_rfl))⟩
 f8:=func139.trans (congrArg some (by kernel_rfl))
 f9:=⟨Tryz.f227.name,by decide,func227.trans (congrArg some (by kernel_rfl))⟩
 f19:=func172.trans (congrArg some (by kernel_rfl))
 f20:=func173.trans (congrArg some (by kernel_rfl))
 f21:=⟨Tryz.f232.name,by decide,func232.trans (congrArg some (by kernel_rfl))⟩
 f22:=⟨Tryz.f233.name,by decide,func233.trans (congrArg some (by kernel_rfl))⟩
 f23:=⟨Tryz.f234.name,by decide,func234.trans (congrArg some (by kernel_rfl))⟩
 f24:=⟨Tryz.f235.name,by decide,func235.trans (congrArg some (by kernel_rfl))⟩
 f25:=⟨Tryz.f236.name,by decide,func236.trans (congrArg some (by kernel_rfl))⟩
 f26:=⟨Tryz.f237.name,by decide,func237.trans (congrArg some (by kernel_rfl))⟩
 f27:=⟨Tryz.f238.name,by decide,func238.trans (congrArg some (by kernel_rfl))⟩
 f28:=⟨Tryz.f239.name,by decide,func239.trans (congrArg some (by kernel_rfl))⟩
 f29:=⟨Tryz.f240.name,by decide,func240.trans (congrArg some (by kernel_rfl))⟩
 f31:=func199.trans (congrArg some (by kernel_rfl))
 f32:=func200.trans (congrArg some (by kernel_rfl))
 f36:=⟨Tryz.f247.name,by decide,func247.trans (congrArg some (by kernel_rfl))⟩
 f37:=⟨Tryz.f248.name,by decide,func248.trans (congrArg some (by kernel_rfl))⟩
 f38:=⟨Tryz.f249.name,by decide,func249.trans (congrArg some (by kernel_rfl))⟩
 f39:=⟨Tryz.f250.name,by decide,func250.trans (congrArg some (by kernel_rfl))⟩
 f41:=⟨Tryz.f255.name,by decide,func255.trans (congrArg some (by kernel_rfl))⟩
 t0:=underlying0
 a0:=Tryz.isAgg0
 z0:=Tryz.sizeOf0
 v0:=Tryz.zeroValue0
 t3:=underlying3
 a3:=Tryz.isAgg3
 z3:=Tryz.sizeOf3
 v3:=Tryz.zeroValue3
 t4:=underlying4
 a4:=Tryz.isAgg4
 z4:=Tryz.sizeOf4
 v4:=Tryz.zeroValue4
 t5:=underlying5
 a5:=Tryz.isAgg5
 z5:=Tryz.sizeOf5
 v5:=Tryz.zeroValue5
 t9:=underlying9
 a9:=Tryz.isAgg9
 z9:=Tryz.sizeOf9
 v9:=Tryz.zeroValue9
 t26:=underlying51
 a26:=Tryz.isAgg51
 z26:=Tryz.sizeOf51
 v26:=Tryz.zeroValue51
 t27:=underlying51
 a27:=Tryz.isAgg51
 z27:=Tryz.sizeOf51
 v27:=Tryz.zeroValue51
 t29:=underlying9
 a29:=Tryz.isAgg9
 z29:=Tryz.sizeOf9
 v29:=Tryz.zeroValue9
 t32:=underlying179
 a32:=Tryz.isAgg179
 z32:=Tryz.sizeOf179
 v32:=Tryz.zeroValue179
 t35:=underlying204
 a35:=Tryz.isAgg204
 z35:=Tryz.sizeOf204
 v35:=Tryz.zeroValue204
 t36:=underlying205
 a36:=Tryz.isAgg205
 z36:=Tryz.sizeOf205
 v36:=Tryz.zeroValue205
 t41:=underlying209
 a41:=Tryz.isAgg209
 z41:=Tryz.sizeOf209
 v41:=Tryz.zeroValue209
 t44:=underlying212
 a44:=Tryz.isAgg212
 z44:=Tryz.sizeOf212
 v44:=Tryz.zeroValue212
 t46:=underlying214
 a46:=Tryz.isAgg214
 z46:=Tryz.sizeOf214
 v46:=Tryz.zeroValue214
 t53:=underlying241
 a53:=Tryz.isAgg241
 z53:=Tryz.sizeOf241
 v53:=Tryz.zeroValue241
 t57:=underlying245
 a57:=Tryz.isAgg245
 z57:=Tryz.sizeOf245
 v57:=Tryz.zeroValue245
 t63:=underlying258
 a63:=Tryz.isAgg258
 z63:=Tryz.sizeOf258
 v63:=Tryz.zeroValue258
 t64:=underlying259
 a64:=Tryz.isAgg259
 z64:=Tryz.sizeOf259
 v64:=Tryz.zeroValue259 }
open Go.RowKit Go.Maps Go.Sort Go.Shelf
theorem Tryz.sorts191 (m:Nat):AnyZ.SortsIn prog Tryz.sorted191_ren Fence.wide m :=
 ⟨fun blk off cap ss W hH hblk hsz=>callsIn_wide.2 (AnyM.slices_Sort_string Tryz.sort217 blk off cap ss W hH hblk hsz),
  fun p cap W=>callsIn_wide.2 (AnyM.slices_Sort_string_none Tryz.sort217 p cap W)⟩
theorem Tryz.maps_Keys_192 (mb:Option Nat) (W:World):CallsIn Fence.wide 5 prog 192 #[.map mb] W fun e w'=>e=.returned (.func (.func 218) #[] #[.pointer (some ⟨W.heap.size,0,none⟩)])∧w'=W.alloc (.cells #[.map mb] 151) :=
 AnyZ.keys_in Tryz.keys192 Fence.wide 5 trivial rfl mb W
set_option maxHeartbeats 1000000 in
theorem Tryz.slices_Sorted_keys_191_192 {H:Type} (b nn:Nat) (D0:DataW H) (R:Value→Option (DataW H × List MemPlace)) (w:World) (hown:w.ownsMap prog 9 R b nn D0) (hmax:Maps.size D0≤maxLen) (hbytes:Maps.size D0 * 16≤140737488355328) :
 CallsIn Fence.wide 5 prog 191 #[.func (.func 218) #[] #[.pointer (some ⟨w.heap.size,0,none⟩)]] (w.alloc (.cells #[.map (some b)] 151)) fun e w'=>∃ (v:Value) (ss:List (List UInt8)),e=.returned v∧ss.Perm (strKeys D0) ∧
  w'.ownsRow (w.alloc (.cells #[.map (some b)] 151)).heap.size 9 1 v ss.length ((ss.mergeSort (fun x y=>decide (x≤y))).map encStr)∧(v=.slice none 0 0 ↔ ss = [])∧Below (w.alloc (.cells #[.map (some b)] 151)).heap.size (w.alloc (.cells #[.map (some b)] 151)) w':=by
 have hbl:=hown.lt
 have hseq:SeqGives Fence.wide 2 prog 218 #[.pointer (some ⟨w.heap.size,0,none⟩)] encStr (fun ss=>ss.Perm (strKeys D0)) (Maps.size D0) (w.alloc (.cells #[.map (some b)] 151)) :=
  AnyZ.keys_gives (ρ:=Tryz.keys192_ren) { Tryz.keys192 with } Fence.wide _ trivial rfl (by omega) w.heap.size b nn D0 _ (by simp) (by simp) (by
   obtain ⟨es,clock,hb,Ft,hs,hD⟩:=hown
   exact ⟨es,clock,(Below.heap_alloc _ _ b hbl).trans hb,Ft,hs,hD⟩)
 exact AnyZ.sorted_in Tryz.sorted191 Fence.wide 5 trivial trivial trivial trivial rfl (by omega) (Tryz.sorts191 _) (enters_of func217 (by kernel_rfl) rfl) 218 #[.pointer (some ⟨w.heap.size,0,none⟩)] trivial (enters_of func218 (by kernel_rfl) rfl) _ _ hmax hbytes _ hseq
end Go.Proofs
namespace Go.Proofs.YtdhlonogmnkemaaGreatDoor
open Go.ChangeShapes Go.WideShapes Go.ChangeAt Go.RowKit Go.Maps Go.WideMaps Go.Shelf Go.Sort Go.Proofs.Tryz
set_option linter.unusedVariables false
set_option maxRecDepth 100000
attribute [local go_sem] Oper.semAt_some
def keysD (D:DataW Unit):List (List UInt8):=(strKeys D).mergeSort (fun x y=>decide (x≤y))
theorem keysD_len (D:DataW Unit):(keysD D).length≤Maps.size D:=by
 unfold keysD;rw [List.length_mergeSort]
 cases D <;> simp [strKeys,Maps.size]
def keysL (K:List (List UInt8)):List (List UInt8):=keysD (setD K)
structure SetOk (D:DataW Unit):Prop where
 tidy:Tidy D
 keys:∀ es,D=.map es→∀ p ∈ es,∃ x,p.1=.string x
theorem put_ok {D:DataW Unit} (h:SetOk D) (x:List UInt8):SetOk (D.put (.string x) (.agg [])):=by
 refine ⟨h.tidy.put (k:=.string x) trivial _,fun es he p hp=>?_⟩;obtain ⟨es0,rfl,hp0⟩:=h.tidy;have he':DataW.insert (Lit.string x,DataW.agg []) (es0.filter fun p=>!p.1.sameKey (.string x))=es:=(by simpa [DataW.put] using he);rw [← he'] at hp;have hp2:=((insert_perm (Lit.string x,(DataW.agg []:DataW Unit)) (es0.filter fun p=>!p.1.sameKey (.string x))).mem_iff).1 hp
 rcases List.mem_cons.1 hp2 with rfl | hp2
 · exact ⟨x,rfl⟩
 · exact h.keys es0 rfl p (List.mem_filter.1 hp2).1
theorem setD_from:∀ (K:List (List UInt8)) (D:DataW Unit),SetOk D→SetOk (K.foldl (fun D x=>D.put (.string x) (.agg [])) D)∧Maps.size (K.foldl (fun D x=>D.put (.string x) (.agg [])) D)≤Maps.size D+K.length ∧
 ∀ z,has (K.foldl (fun D x=>D.put (.string x) (.agg [])) D) (.string z)=true ↔ has D (.string z)=true∨z ∈ K
 | [],D,h=>⟨h,by simp,fun z=>by simp⟩
 | x :: xs,D,h=>by
  obtain ⟨h1,h2,h3⟩:=setD_from xs _ (put_ok h x);refine ⟨h1,?_,fun z=>?_⟩
  · have:=size_put (k:=.string x) h.tidy (.agg [])
    have h4:Maps.size (D.put (.string x) (.agg []))≤Maps.size D+1:=by rw [this];split <;> omega
    simp only [List.foldl_cons,List.length_cons];omega
  · rw [List.foldl_cons,h3 z]
    by_cases hz:z=x
    · subst hz
      have hm:IsMap D:=(by obtain ⟨es,rfl,_⟩:=h.tidy;exact ⟨es,rfl⟩);simp [has_put_same hm (k:=Lit.string z) trivial]
    · rw [has_put_other (by intro e;cases e;exact hz rfl)]
      simp [hz]
theorem setD_ok (K:List (List UInt8)):SetOk (setD K)∧Maps.size (setD K)≤K.length∧∀ z,has (setD K) (.string z)=true ↔ z ∈ K:=by
 obtain ⟨h1,h2,h3⟩:=setD_from K (.map []) ⟨⟨[],rfl,List.Pairwise.nil⟩,fun es he p hp=>by cases he;cases hp⟩;refine ⟨h1,by (have h4:Maps.size (DataW.map ([]:List (Lit × DataW Unit)))=0:=rfl;rw [h4] at h2;unfold setD;omega),fun z=>(h3 z).trans ?_⟩;simp [has_eq]
theorem setD_size (K:List (List UInt8)):Maps.size (setD K)≤K.length:=(setD_ok K).2.1
theorem setD_perm (K ss:List (List UInt8)) (hnd:ss.Nodup) (hm:∀ x,x ∈ ss ↔ x ∈ K):ss.Perm (strKeys (setD K)):=by
 obtain ⟨h1,-,h3⟩:=setD_ok K;obtain ⟨es,he,hp⟩:=h1.tidy;have hk:=h1.keys es he;rw [he] at h3 ⊢;exact perm_strKeys hp hk hnd (fun x=>(hm x).trans (h3 x).symm)
theorem srow {w:World} {B:Nat} {v:Value} {L:List (List UInt8)} {n:Nat} (hn:L.length=n) (h:w.ownsRow B 9 1 v n (L.map encStr)) :
 ∃ p cap,v=.slice p n cap∧(∀ a,p=some a→B≤a.block∧a.block<w.heap.size)∧∀ k x,L[k]?=some x→∃ b,p=some ⟨b,0,none⟩∧B≤b∧b<w.heap.size∧w.cell? ⟨b,k,none⟩=some (encStr x):=by
 rcases h.2 with ⟨rfl,h0⟩ | ⟨g,cap,cur,rfl,hB,hg,hr⟩
 · refine ⟨none,0,by rw [h0],fun a e=>by (cases e),fun k x hx=>?_⟩
   have:=(List.getElem?_eq_some_iff.1 hx).1;omega
 · refine ⟨_,cap,rfl,fun a e=>by (cases e;exact ⟨hB,(Array.getElem?_eq_some_iff.1 hg).1⟩),fun k x hx=>⟨g,rfl,hB,(Array.getElem?_eq_some_iff.1 hg).1,?_⟩⟩
   have:=(List.getElem?_eq_some_iff.1 hx).1;rw [h.cellAt k (by omega)];simp [hx]
theorem blk_lt {A B:World} {b:Nat} (h:B.heap[b]?=A.heap[b]?) (hb:b<A.heap.size):b<B.heap.size:=by
 rw [Array.getElem?_eq_getElem hb] at h;exact (Array.getElem?_eq_some_iff.1 h).1
def blkOf:Option Addr→Option Nat
 | some a=>some a.block
 | none=>none
theorem asc_in {R:Value→Option (DataW Unit × List MemPlace)} (l mb nn:Nat) (D:DataW Unit) (W0:World) (hm:W0.ownsMap prog 9 R mb nn D) (hsz:Maps.size D≤67108864) (J:Option Nat→List (List UInt8)→World→Prop)
 (hJb:∀ q s A B,J q s A→Bz A B→J q s B) (hJn:∀ s A B b,J none s A→Bz A B→A.heap.size≤b→b<B.heap.size→J (some b) s B)
 (hY:∀ q pre x W1,J q pre W1→pre.length<(keysD D).length→YieldAt Fence.wide 5 prog l #[encStr x] W1 fun e W'=>e=.returned (.bool true)∧J q (pre ++ [x]) W'∧∀ b,q=some b→b<W1.heap.size→W'.heap[b]?=W1.heap[b]?)
 (h0:J none [] W0) :
 CallsIn Fence.wide 6 prog 155 #[.map (some mb),.func (.yield l) #[] #[]] W0 fun e W'=>(∃ v,e=.returned v)∧∃ q,J q (keysD D) W':=by
 have hmax:Maps.size D≤maxLen:=(by unfold maxLen;omega);have hbytes:Maps.size D * 16≤140737488355328:=(by omega);have hfK:Fence.wide.fn 192:=trivial;have hfS:Fence.wide.fn 191:=trivial;refine callsIn_of_wp func155 rfl trivial ?_ rfl;simp only [ntmps155,List.size_toArray,List.length_cons,List.length_nil,Nat.reduceAdd,Nat.reduceSub,Array.replicate_succ,Array.replicate_zero,List.push_toArray,List.append_toArray,List.nil_append,List.cons_append]
 gi_wp2_with (first
  | (gi_at_call 192;refine (Tryz.maps_Keys_192 _ _).mono ?_;rintro e w' ⟨rfl,rfl⟩)
  | (gi_at_call 191;refine (Tryz.slices_Sorted_keys_191_192 mb nn D R W0 hm hmax hbytes).mono ?_;rintro e w' ⟨v,ss,rfl,hS,hrow,hnil,hb⟩;obtain ⟨p,cap,rfl,hpb,hat⟩:=srow (by simp) hrow))
 have hL:(ss.mergeSort fun x y=>decide (x≤y))=keysD D:=mergeSort_of_perm hS;rw [hL] at hat;have hn:ss.length=(keysD D).length:=(by rw [← hL,List.length_mergeSort]);have hBW:Bz W0 w':=((Below.refl _ W0).alloc (sqR _) _).trans (hb.mono (by simp))
 have hJ1:J (blkOf p) [] w':=by
  cases p with
  | none=>exact hJb _ _ _ _ h0 hBW
  | some a=>exact hJn _ _ _ a.block h0 hBW (by have:=(hpb a rfl).1;simp at this;omega) (hpb a rfl).2
 have HKL:=hid (keysD_len D)
 have HAT:Hid (∀ k x,(keysD D)[k]?=some x→∃ b,p=some ⟨b,0,none⟩∧b<w'.heap.size∧w'.cell? ⟨b,k,none⟩=some (encStr x)):=fun k x hx=>by
  obtain ⟨b,e1,e2,e3,e4⟩:=hat k x hx;exact ⟨b,e1,e3,e4⟩
 have HPB:Hid (∀ b,blkOf p=some b→b<w'.heap.size):=fun b e=>by
  cases p with
  | none=>cases e
  | some a=>cases e;exact (hpb a rfl).2
 clear hat hpb hnil hrow hL hS hb hBW h0 hm hmax hbytes;generalize ss.length=n at *;have HN:=hid hn;have hnb:n≤9223372036854775807:=(by have:=HKL.out;omega);clear hn
 gi_loopw [10] (fun iv wr=>∃ k:Nat,k≤n∧iv=.int .i64 k∧Hid (J (blkOf p) ((keysD D).take k) wr)∧Hid (∀ b,blkOf p=some b→b<wr.heap.size∧wr.heap[b]?=w'.heap[b]?)) (fun iv _=>n - (intOf iv).toNat)
 case atStart=>exact ⟨0,Nat.zero_le _,rfl,hJ1,fun b e=>⟨HPB.out b e,rfl⟩⟩
 case round =>
  obtain ⟨k,hk,rfl,HJ,HB⟩:=hrel;by_cases hlt:k<n
  · obtain ⟨x,hx⟩:∃ x,(keysD D)[k]?=some x:=⟨(keysD D)[k]'(by rw [← HN.out];exact hlt),List.getElem?_eq_getElem _⟩
    obtain ⟨b,rfl,hbl,hc0⟩:=HAT.out k x hx;have hc:=(sqK (a:=⟨b,k,none⟩) (HB.out b rfl).2).trans hc0;have HT:Hid ((keysD D).take (k+1)=(keysD D).take k ++ [x]):=(by show _=_;rw [List.take_add_one,hx];rfl);obtain ⟨fn,tmps,assign,body,hy,hR⟩:=hY _ _ x wr HJ.out (by rw [List.length_take,← HN.out];omega);have hki:(k:Int)<(n:Int):=(by omega);have hk0:=sqI k;clear hc0
    gi_wp2
    refine hR.mono ?_;rintro e W3 ⟨rfl,hJ3,hk3⟩
    gi_wp2
    go_roundw
    case rel=>exact ⟨k+1,by omega,by go_num,by show J _ _ _;rw [HT.out];exact hJ3,fun b' e=>by cases e;exact ⟨blk_lt (hk3 b rfl (HB.out b rfl).1) (HB.out b rfl).1,(hk3 b rfl (HB.out b rfl).1).trans (HB.out b rfl).2⟩⟩
    case measure=>simp [intOf];omega
  · have HS:J (blkOf p) (keysD D) wr:=by
     have:=HJ.out
     rwa [List.take_of_length_le (by rw [← HN.out];omega)] at this
    gi_wp2
    go_end0;exact ⟨⟨_,rfl⟩,_,HS⟩
attribute [local go_sem] Oper.semAt_some
theorem info_strN:(prog.info? 9).map (fun i=>(i.zero,i.size,i.bytes))=some (some (.string ⟨#[]⟩),1,16):=by kernel_rfl
theorem owns_keep {R:Value→Option (DataW Unit × List MemPlace)} {w w':World} {mb nn:Nat} {D:DataW Unit} (h:w.ownsMap prog 9 R mb nn D) (he:w'.heap[mb]?=w.heap[mb]?):w'.ownsMap prog 9 R mb nn D:=by
 obtain ⟨es,clock,h1,h2⟩:=h;exact ⟨es,clock,he.trans h1,h2⟩
theorem list_in {R:Value→Option (DataW Unit × List MemPlace)} (w:World) (mb nn:Nat) (D:DataW Unit) (hm:w.ownsMap prog 9 R mb nn D) (hK:nn≤67108864) (hsD:Maps.size D≤67108864) :
 Calls prog 110 #[.map (some mb)] w fun e w'=>∃ u,e=.returned u∧w'.ownsRow w.heap.size 9 1 u (keysD D).length ((keysD D).map encStr)∧Bz w w':=by
 refine (callsIn_wide (n:=7)).1 ?_;obtain ⟨i0,hi,hz0,hz1,hz2⟩:=info_parts info_strN;have HM:=hid hm;have hlt0:mb<w.heap.size:=hm.lt;obtain ⟨es,clock,hes,-,hsz,-⟩:=hm;have hsz2:es.size≤67108864:=Nat.le_trans hsz hK;have hlen:∀ ty,(Builtin.len_ #[151] ty #[.map (some mb)]).run prog w=.ok (goInt es.size) w:=fun ty=>run_len_map (w:=w) 151 ty mb es clock underlying151 hes;clear hsz;refine callsIn_of_wp_marks func110 rfl trivial ?_ rfl;simp only [ntmps110,List.size_toArray,List.length_cons,List.length_nil,Nat.reduceAdd,Nat.reduceSub,Array.replicate_succ,Array.replicate_zero,List.push_toArray,List.append_toArray,List.nil_append,List.cons_append]
 gi_wp2_with (gi_at_make;refine wpListIn_make_own _ rfl _ _ 51 rfl w.heap.size 9 i0 (.string ⟨#[]⟩) 1 underlying51 hi hz0 hz1 .i64 .i64 _ es.size rfl rfl rfl (by rw [hz2];omega) (by unfold maxLen;omega) (sqR _) ?_;intro w1 hrow hgrow)
 have bO:=Boxed.new w1 51 (.slice (some ⟨w.heap.size,0,none⟩) 0 es.size);have hle:=hgrow.size;have hB1:Bz w w1:=⟨hgrow.os,hgrow.tape,hgrow.output,hgrow.size,fun j hj=>hgrow.block j hj (by simp)⟩;have hB0:Bz w (w1.alloc (.cells #[.slice (some ⟨w.heap.size,0,none⟩) 0 es.size] 51)):=hB1.alloc hle _
 refine range_bound rfl (by omega) (gf:=155) (bs:=#[.map (some mb)]) rfl trivial (enters_of func155 (by kernel_rfl) rfl)
  (encs:=fun x:List UInt8=>#[encStr x]) (fun _=>rfl) (keysD D)
  (fun l J W hW hJb hJn hY h0=>asc_in l mb nn D W (owns_keep HM.out ((hW.block mb (by have:=hB0.size;omega)).trans (hB0.block mb hlt0))) hsD J hJb hJn hY h0)
  (fun q pre W=>((∃ v,Boxed W w1.heap.size 51 v∧W.ownsRow w.heap.size 9 1 v pre.length (pre.map encStr)∧∀ b,q=some b→v.ownBlock≠some b∧b≠w1.heap.size)∧Bz w W)∧∀ b,q=some b→b<W.heap.size)
  (fun q=>OwnFrom.and (OwnFrom.and (Own.from (holdsRow_own w.heap.size w1.heap.size 51 9 1 (fun pre:List (List UInt8)=>pre.length) (fun pre=>pre.map encStr) (fun pre v=>∀ b,q=some b→v.ownBlock≠some b∧b≠w1.heap.size)) _) (ownFrom_below (sqR _) (by simp;omega)))
   (fun s A B row hs hg hr b e=>Nat.lt_of_lt_of_le (hs b e) hg.size))
  ?new ⟨⟨⟨_,bO,hrow.alloc _,fun b e=>by cases e⟩,hB0⟩,fun b e=>by cases e⟩
  (fun x=>{ tmps:=#[.map (some mb),undef,.slice none 0 0,.pointer (some ⟨w1.heap.size,0,none⟩),encStr x,.map (some mb),.int .i64 es.size,.slice (some ⟨w.heap.size,0,none⟩) 0 es.size,.map (some mb),.func (.func 155) #[.map (some mb)] #[],encStr x,undef,undef,undef,undef,undef],defers:=[] }) ?assign ?body ?done
 case new =>
  rintro s A B b ⟨⟨⟨v,h1,h2,-⟩,h3⟩,-⟩ hAB hb hbB;refine ⟨⟨⟨v,h1.kept (grown_of hAB) (by simp),h2.kept (grown_of hAB) (Classical.em _),fun b' e=>?_⟩,h3.trans (hAB.mono h3.size)⟩,fun b' e=>by cases e;exact hbB⟩
  cases e
  refine ⟨fun e'=>?_,?_⟩
  · have:=(h2.lt b e').2
    omega
  · have:=h1.lt
    omega
 case assign =>
  intro l x W K hK
  gi_wp2
  exact hK
 case body =>
  rintro l q pre x W ⟨⟨⟨v,hv,hrow,hq⟩,hB⟩,hqb⟩ hlt;have hc:=hv.cell;have hkl:=keysD_len D;have hpl:pre.length≤67108864:=(by omega)
  gi_wp2_with (gi_at_builtin;refine wpListIn_append_own_at _ rfl _ _ 51 rfl w.heap.size 9 i0 (.string ⟨#[]⟩) 1 16 underlying51 hi hz0 hz1 hz2 rfl (by decide) _ _ _ rfl (hrow.alloc _) ⟨W.heap.size,0,none⟩ 1 1 [encStr x] rfl rfl (cell_one_new _ _ _) (by simp [Value.oneCell']) (by unfold maxLen;omega) (by omega) (by have:=hB.size;simp;omega) ?_;intro v' w2 hown' hgr _ hat;obtain ⟨g',cap',rfl⟩:=ownsRow_succ hown';obtain ⟨hv1,hv2,hr2,hk2,hb2⟩:=hv.appended (by decide) hrow hB.size hle hown' hgr;have hc1:=hv1.cell;have hf1:=hv1.frozen)
  refine ⟨⟨⟨⟨_,hv2,by simpa using hr2,fun b e=>⟨?_,(hq b e).2⟩⟩,hB.trans hb2⟩,fun b e=>Nat.lt_of_lt_of_le (hqb b e) (by simpa using hk2.size)⟩,fun b e hbl=>?_⟩
  · rcases hat with h | h
    · rw [h];exact (hq b e).1
    · rw [h]
      intro e';have:=hqb b e;simp at e';omega
  · have hbA:b<(W.alloc (.cells #[encStr x] 9)).heap.size:=by simp;omega
    have s1:=hgr.block b (by simp;omega) (fun e'=>(hq b e).1 e'.symm);have s2:=(grownBy_setCell' w2 w1.heap.size (.slice (some ⟨g',0,none⟩) (pre.length+1) cap')).block b (Nat.lt_of_lt_of_le hbA (by simpa using hgr.size)) (fun e'=>(hq b e).2 (by cases e';rfl));exact (s2.trans s1).trans (Below.heap_alloc W _ b hbl)
 case done =>
  rintro D q W hD ⟨⟨⟨v,hv,hrow,-⟩,hB⟩,-⟩ hK;have hc:=hv.cell
  gi_wp2
  refine ⟨by simp,.inl ⟨_,_,rfl,run_takeDeferred hK,?_⟩⟩;exact ⟨_,results_tmp rfl _ _ _,v,rfl,ownsRow_putObj hrow _ hK rfl,hB.trans (belowK_b (w:=w) (sqR _) W D _ _ (by simp at hD;omega) hK rfl rfl)⟩
end Go.Proofs.YtdhlonogmnkemaaGreatDoor
namespace Go.Proofs.YtdhlonogmnkemaaGreatDoor
open Go.ChangeShapes Go.WideShapes Go.ChangeAt Go.RowKit Go.Sort
set_option linter.unusedVariables false
set_option maxRecDepth 100000
theorem insS_perm:∀ (l:List ByteArray) (s:ByteArray),keyS s ∉ l.map keyS→((insS l s).map keyS).Perm (keyS s :: l.map keyS)
 | [],s,h=>List.Perm.refl _
 | x :: xs,s,h=>by
  have h1:x.toList≠s.toList:=fun e=>h (by simp [keyS,e]);unfold insS
  split
  · exact ((insS_perm xs s (fun h'=>h (by simp only [List.map_cons,List.mem_cons];exact .inr h'))).cons _).trans (List.Perm.swap _ _ _)
  · exact List.Perm.refl _
theorem insS_asc:∀ (l:List ByteArray) (s:ByteArray),(l.map keyS).Pairwise (fun a b=>a≤b)→((insS l s).map keyS).Pairwise (fun a b=>a≤b)
 | [],s,h=>by simp [insS]
 | x :: xs,s,h=>by
  obtain ⟨h1,h2⟩:=List.pairwise_cons.1 h;unfold insS
  split
  · rename_i hlt
    have hlt':keyS x<keyS s:=by
     unfold ltS at hlt;rw [bytesLess_eq] at hlt;exact of_decide_eq_true hlt
    refine List.pairwise_cons.2 ⟨fun y hy=>?_,insS_asc xs s h2⟩;obtain ⟨z,hz,rfl⟩:=List.mem_map.1 hy
    rcases insS_mem xs s z hz with rfl | hz
    · exact List.le_of_lt hlt'
    · exact h1 _ (List.mem_map.2 ⟨z,hz,rfl⟩)
  · rename_i hlt
    have hle:keyS s≤keyS x:=by
     have:¬ keyS x<keyS s:=fun e=>hlt (by unfold ltS;rw [bytesLess_eq];exact decide_eq_true e);exact List.not_lt.1 this
    split
    · exact h
    · refine List.pairwise_cons.2 ⟨fun y hy=>?_,h⟩
      rcases List.mem_cons.1 hy with rfl | hy
      · exact hle
      · exact List.le_trans hle (h1 y hy)
theorem sortS_from:∀ (l acc:List ByteArray),(acc.map keyS ++ l.map keyS).Nodup→(acc.map keyS).Pairwise (fun a b=>a≤b) →
 ((l.foldl insS acc).map keyS).Perm (acc.map keyS ++ l.map keyS)∧((l.foldl insS acc).map keyS).Pairwise (fun a b=>a≤b)
 | [],acc,hn,h=>⟨by simp,h⟩
 | s :: l,acc,hn,h=>by
  have hs:keyS s ∉ acc.map keyS:=by
   intro hm;have:=(List.nodup_append.1 hn).2.2 _ hm (keyS s) (by simp);exact this rfl
  have hp:=insS_perm acc s hs
  have hp2:((insS acc s).map keyS ++ l.map keyS).Perm (acc.map keyS ++ (s :: l).map keyS):=by
   refine (hp.append_right _).trans ?_;simp only [List.map_cons,List.cons_append];exact List.perm_middle.symm
  obtain ⟨g1,g2⟩:=sortS_from l (insS acc s) (hp2.symm.nodup_iff.1 hn) (insS_asc acc s h);exact ⟨g1.trans hp2,g2⟩
theorem sortS_perm (l:List ByteArray) (hn:NdK l):((sortS l).map keyS).Perm (l.map keyS)∧((sortS l).map keyS).Pairwise (fun a b=>a≤b):=by
 have:=sortS_from l [] (by simpa [NdK] using hn) (by simp)
 simpa [sortS] using this
theorem keysL_eq (K:List (List UInt8)) (l:List ByteArray) (hn:NdK l) (hm:∀ x,x ∈ l.map keyS ↔ x ∈ K):keysL K=(sortS l).map keyS:=by
 obtain ⟨h1,h2⟩:=sortS_perm l hn;have h3:((sortS l).map keyS).Perm (strKeys (setD K)):=h1.trans (setD_perm K _ hn hm);unfold keysL keysD;rw [← mergeSort_of_perm h3];exact List.mergeSort_of_pairwise (h2.imp (fun h=>decide_eq_true h))
theorem encStr_keyS (s:ByteArray):encStr (keyS s)=.string s:=by
 unfold encStr keyS;rw [ByteArray.toList_eq]
theorem keysL_strs (K:List (List UInt8)) (l:List ByteArray) (hn:NdK l) (hm:∀ x,x ∈ l.map keyS ↔ x ∈ K):(keysL K).map encStr=strs (sortS l)∧(keysL K).length=(sortS l).length:=by
 rw [keysL_eq K l hn hm];refine ⟨?_,by simp⟩;unfold strs;rw [List.map_map];exact List.map_congr_left (fun s _=>encStr_keyS s)
end Go.Proofs.YtdhlonogmnkemaaGreatDoor
namespace Go.Proofs.YtdhlonogmnkemaaGreatDoor
open Go.ChangeShapes Go.WideShapes Go.ChangeAt Go.RowKit
set_option linter.unusedVariables false
set_option maxRecDepth 100000
theorem Rows.tight {α:Type} {w:World} {S:Nat→Prop} {c:Nat} {R R':List Value→α→Prop} {v:Value} {xs:List α} (h:Rows w S c R v xs) (hR:∀ cs x,R cs x→R' cs x):Rows w (fun g=>g<w.heap.size) c R' v xs:=by
 obtain ⟨p,cap,hv,h1,h2,h3⟩:=h;refine ⟨p,cap,hv,h1,h2,fun hne=>?_⟩;obtain ⟨g,off,hp,hg,hlt,hx⟩:=h3 hne;refine ⟨g,off,hp,hlt,hlt,fun i x hi=>?_⟩;obtain ⟨cs,hl,hc,hr⟩:=hx i x hi;exact ⟨cs,hl,hc,hR cs x hr⟩
theorem HEx.tight {w:World} {S:Nat→Prop}:∀ {d:Nat} {cs:List Value} {x:Ex},HEx w S d cs x→HEx w (fun g=>g<w.heap.size) d cs x
 | 0,_,_,h=>h.elim
 | d+1,cs,x,h=>by
  obtain ⟨kv,cv,rfl,h1,h2,h3,h4,hk,hc⟩:=h;refine ⟨kv,cv,rfl,h1,h2,h3,h4,hk.tight (fun _ _ h=>h.tight),hc.tight (fun _ _ h=>?_)⟩;obtain ⟨p,b,rfl,g1,g2⟩:=h;exact ⟨p,b,rfl,g1.tight (fun _ _ h=>h.tight),g2.tight (fun _ _ h=>h.tight)⟩
end Go.Proofs.YtdhlonogmnkemaaGreatDoor
namespace Go.Proofs.YtdhlonogmnkemaaGreatDoor
open Go.ChangeShapes Go.WideShapes Go.ChangeAt Go.RowKit Go.Maps Go.WideMaps Go.Sort
set_option linter.unusedVariables false
set_option maxRecDepth 100000
theorem MapAt.made (w:World):MapAt (w.alloc (.map #[] 0)) w.heap.size []:=by
 unfold MapAt;exact World.ownsMap_made w _ _ _
theorem list_any (w:World) (mb:Nat) (K:List (List UInt8)) (l:List ByteArray) (hm:MapAt w mb K) (hK:K.length≤67108864) (hn:NdK l) (hl:∀ x,x ∈ l.map keyS ↔ x ∈ K) :
 Calls Tryz.prog 110 #[.map (some mb)] w fun e w'=>∃ u,e=.returned u∧OwnS w' w.heap.size u (sortS l)∧Bz w w':=by
 refine (list_in w mb K.length (setD K) hm hK (Nat.le_trans (setD_size K) hK)).mono ?_;rintro e w' ⟨u,rfl,ho,hb⟩;obtain ⟨h1,h2⟩:=keysL_strs K l hn hl;unfold keysL at h1 h2;rw [h1,h2] at ho;exact ⟨u,rfl,⟨ho,hb.size⟩,hb⟩
end Go.Proofs.YtdhlonogmnkemaaGreatDoor
namespace Go.Proofs.YtdhlonogmnkemaaGreatDoor
open Go.ChangeShapes Go.WideShapes Go.ChangeAt Go.RowKit Go.Maps Go.WideMaps Go.Sort Go.Proofs.Tryz
set_option linter.unusedVariables false
set_option maxRecDepth 100000
theorem rows_apart {α:Type} {w:World} {S:Nat→Prop} {c mb:Nat} (hc0:0<c) {R R':List Value→α→Prop} {v:Value} {xs:List α} (h:Rows w S c R v xs) (hm:∀ o,w.cell? ⟨mb,o,none⟩=none) (hR:∀ cs x,R cs x→R' cs x):Rows w (fun g=>g≠mb) c R' v xs:=by
 obtain ⟨p,cap,hv,h1,h2,h3⟩:=h;refine ⟨p,cap,hv,h1,h2,fun hne=>?_⟩;obtain ⟨g,off,hp,hg,hlt,hx⟩:=h3 hne;refine ⟨g,off,hp,?_,hlt,fun i x hi=>?_⟩
 · rintro rfl
   obtain ⟨y,hy⟩:∃ y,xs[0]?=some y:=by
    cases xs with
    | nil=>exact absurd rfl hne
    | cons y ys=>exact ⟨y,rfl⟩
   obtain ⟨cs,hl,hc,-⟩:=hx 0 y hy;have:=hc 0 hc0;rw [hm,List.getElem?_eq_getElem (by omega)] at this
   cases this
 · obtain ⟨cs,hl,hc,hr⟩:=hx i x hi
   exact ⟨cs,hl,hc,hR cs x hr⟩
theorem HEx.apart {w:World} {S:Nat→Prop} {mb:Nat} (hm:∀ o,w.cell? ⟨mb,o,none⟩=none):∀ {d:Nat} {cs:List Value} {x:Ex},HEx w S d cs x→HEx w (fun g=>g≠mb) d cs x
 | 0,_,_,h=>h.elim
 | d+1,cs,x,h=>by
  obtain ⟨kv,cv,rfl,h1,h2,h3,h4,hk,hc⟩:=h;refine ⟨kv,cv,rfl,h1,h2,h3,h4,rows_apart (by decide) hk hm (fun _ _ h=>h.apart hm),rows_apart (by decide) hc hm (fun _ _ h=>?_)⟩;obtain ⟨p,b,rfl,g1,g2⟩:=h;exact ⟨p,b,rfl,rows_apart (by decide) g1 hm (fun _ _ h=>h.apart hm),rows_apart (by decide) g2 hm (fun _ _ h=>h.apart hm)⟩
theorem MapAt.nocell {w:World} {mb:Nat} {K:List (List UInt8)} (h:MapAt w mb K) (o:Nat):w.cell? ⟨mb,o,none⟩=none:=by
 obtain ⟨es,clock,h1,-⟩:=h;unfold World.cell?;simp [h1]
theorem ownG_low {α:Type} {e:TypeId} {c:Nat} {R:List Value→α→Prop} {w:World} {B:Nat} {v:Value} {l:List α} (h:OwnG e c R w B v l):Rows w (fun g=>B≤g) c R v l:=by
 obtain ⟨⟨cells,g1,g2⟩,-⟩:=h;obtain ⟨p,cap,rfl,h1,h2,h3⟩:=CellsR.rows g1 g2 rfl;refine ⟨p,cap,rfl,h1,h2,fun hne=>?_⟩;obtain ⟨g,off,rfl,-,hlt,hx⟩:=h3 hne;refine ⟨g,off,rfl,?_,hlt,hx⟩
 rcases g1.2 with ⟨hv,-⟩ | ⟨g',cap',cur,hv,hB,-⟩
 · cases hv
 · simp only [Value.slice.injEq,Option.some.injEq,Addr.mk.injEq] at hv
   rw [hv.1.1];exact hB
def clauseL (d:Nat) (c:Cl):List (List UInt8):=(c.1 ++ c.2).flatMap (varL d)
theorem clauseL_ex (d:Nat) (c:Cl):varL (d+1) (.mk 10 0 ByteArray.empty ByteArray.empty [] [c])=clauseL d c:=by
 show (if (10:Int)=2 then [keyS ByteArray.empty] else []) ++ (([]:List Ex).flatMap (varL d) ++ [c].flatMap fun c=>c.1.flatMap (varL d) ++ c.2.flatMap (varL d))=_;simp [clauseL]
theorem clauseL_len (d:Nat) (c:Cl) (h:1+wtCl (wtEx d) c≤16777216) (k:Nat):(((c.1 ++ c.2).take k).flatMap (varL d)).length≤16777216:=by
 have h1:=flat_len (varL d) (wtEx d) ((c.1 ++ c.2).take k) (fun y _=>varL_len d y)
 have h2:wtS (wtEx d) ((c.1 ++ c.2).take k)≤wtS (wtEx d) (c.1 ++ c.2):=by
  have:=sum_take_le (wtEx d) (c.1 ++ c.2) k;unfold wtS;rw [List.length_take];omega
 have h3:wtS (wtEx d) (c.1 ++ c.2)=wtCl (wtEx d) c:=by
  show _=wtS (wtEx d) c.1+wtS (wtEx d) c.2;simp [wtS];omega
 omega
theorem clauseL_all (d:Nat) (c:Cl) (z:List UInt8):z ∈ (clauseVars d c).map keyS ↔ z ∈ clauseL d c:=by
 rw [← clauseL_ex,clauseVars_ex];refine ⟨fun hz=>?_,allV_all _ _ z⟩;obtain ⟨s,hs,rfl⟩:=List.mem_map.1 hz;exact allV_sub _ _ s hs
theorem clauseVars_nd (d:Nat) (c:Cl):NdK (clauseVars d c):=by rw [clauseVars_ex];exact allV_nd _ _
theorem implVarsAt_any (d:Nat) (w:World) (v:Value) (ms:List Md) (q:Pl) (hT:Tabs w) (h:Rows w All 3 (HMd w All d) v ms) (hw:wtS (wtMd d) ms≤16777216) :
 Calls prog 69 #[v,.agg #[.string q.mod,.string q.name,.int .i64 q.arity,.int .i64 q.clause]] w fun e w'=>∃ u,e=.returned u∧OwnS w' w.heap.size u (varsAt d ms q)∧Bz w w':=by
 have HTAB:=hid hT;have HR:Hid (∀ w',Bz w w'→Rows w' All 3 (HMd w' All d) v ms):=fun w' hw=>h.mono (sqO hw) (fun _ h=>h) (fun _ _ _ h=>h.mono (sqO hw) (fun _ h=>h));have hm:=@mkMap;obtain ⟨W1,hW1⟩:∃ W1,W1=(w.alloc (.cells #[.string q.mod,.string q.name,.int .i64 q.arity,.int .i64 q.clause] 31)).alloc (.map #[] 0):=⟨_,rfl⟩;have bA:Hid (Blk W1 w.heap.size #[.string q.mod,.string q.name,.int .i64 q.arity,.int .i64 q.clause] 31):=(by show Blk _ _ _ _;rw [hW1];exact Blk.new.alloc);have B1:Hid (Bz w W1):=(by show Below _ _ _;rw [hW1];exact ((sqN _ _)).alloc (by simp) _)
 have M1:Hid (MapAt W1 (w.heap.size+1) []):=by
  have:=MapAt.made (w.alloc (.cells #[.string q.mod,.string q.name,.int .i64 q.arity,.int .i64 q.clause] 31));rw [alloc_hs] at this;show MapAt _ _ _;rw [hW1];exact this
 have HW1:=hid hW1;have CP:=hid (implProgramOk_any d W1 v ms (HTAB.out.below B1.out) (HR.out _ B1.out))
 have HV:Hid (varsAt d ms q=if pgOk d ms then (match clauseOf ms q with
  | none=>[]
  | some c=>sortS (clauseVars d c)) else []):=rfl
 have HWT:Hid (∀ c,clauseOf ms q=some c→1+wtCl (wtEx d) c≤16777216):=fun c hc=>Nat.le_trans (clauseOf_wt1 hc) hw;have HPG:Hid (pgOk d ms=true→OneName ms):=pgOk_one;obtain ⟨p,cap,rfl,-⟩:=h;have CC:Hid (∀ w',Bz w w'→OneName ms→Calls prog 29 #[.slice p ms.length cap,.agg #[.string q.mod,.string q.name,.int .i64 q.arity,.int .i64 q.clause]] w' fun e w''=>ClQ d ms q (.slice p ms.length cap) w'' e∧Below w'.heap.size w' w''):=fun w' hb hu=>clauseAt_any d w' _ ms q (HR.out _ hb) hu;clear hW1 hw hT;generalize ms.length=n at *;generalize hX:varsAt d ms q=X at *;clear hX;generalize hP:pgOk d ms=P at *;clear hP;go_enter func69,ntmps69;go_wp2_with fail;rw [← HW1.out];refine CP.out.mono ?_;rintro e w2 ⟨rfl,hb⟩;have B2:=hid (B1.out.trans (hb.mono B1.out.size));have M2:=hid (M1.out.keep (hb.block _ M1.out.lt));have bA2:=hid (bA.out.next hb);clear hb M1 B1 CP HW1 bA hm
 cases P with
 | false =>
  have HX:Hid (X = []):=by
   show X = [];rw [HV.out];rfl
  go_wp2_with fail;refine (list_any w2 (w.heap.size+1) [] [] M2.out (by simp) (by simp [NdK]) (by simp)).mono ?_;rintro e w3 ⟨u,rfl,ho,hb⟩;have HO:=hid (ho.base B2.out.size);have B3:=hid (B2.out.trans (hb.mono B2.out.size));clear ho hb;go_wp2_with fail;go_ret;exact ⟨u,rfl,by rw [HX.out];exact HO.out,B3.out⟩
 | true =>
  obtain ⟨y0,y1,y2,y3⟩:=sqB4 bA2.out;go_wp2_with fail;refine (CC.out _ B2.out (HPG.out (by first | rfl | trivial))).mono ?_;rintro e w3 ⟨hq,hb⟩;have B3:=hid (B2.out.trans (hb.mono B2.out.size));have M3:=hid (M2.out.keep (hb.block _ M2.out.lt));clear hb y0 y1 y2 y3 M2 B2 bA2 CC
  rcases hq with ⟨rfl,hno⟩ | ⟨gc,o,c,rfl,hc,hP⟩
  · have HX:Hid (X = []):=by
     show X = [];rw [HV.out,hno];rfl
    clear hno;go_wp2_with fail;refine (list_any w3 (w.heap.size+1) [] [] M3.out (by simp) (by simp [NdK]) (by simp)).mono ?_;rintro e w4 ⟨u,rfl,ho,hb⟩;have HO:=hid (ho.base B3.out.size);have B4:=hid (B3.out.trans (hb.mono B3.out.size));clear ho hb;go_wp2_with fail;go_ret;exact ⟨u,rfl,by rw [HX.out];exact HO.out,B4.out⟩
  · have HX:Hid (X=sortS (clauseVars d c)):=by
     show X=_;rw [HV.out,hc];rfl
    have HWC:=hid (HWT.out c hc);obtain ⟨_,_,_,_,_,_,-,_,_,_,-,-,hgc,-,-,cs,hcl,hcs,pv,bv,rfl,hp,hb⟩:=hP;have RP:=hid (hp.mono ⟨Nat.le_refl _,fun _ _ _=>rfl⟩ (fun _ _=>trivial) (fun _ _ _ h=>h.apart M3.out.nocell));have RB:=hid (hb.mono ⟨Nat.le_refl _,fun _ _ _=>rfl⟩ (fun _ _=>trivial) (fun _ _ _ h=>h.apart M3.out.nocell));obtain ⟨p1,c1,rfl,-⟩:=hp;obtain ⟨p2,c2,rfl,-⟩:=hb;obtain ⟨a0,a1⟩:=sqC2 hcs (by omega);clear hcs;have A0:Hid (w3.cell? ⟨gc,o,none⟩=some (.slice p1 c.1.length c1)):=(by show _=_;simpa using a0);have A1:Hid (w3.cell? ⟨gc,o+1,none⟩=some (.slice p2 c.2.length c2)):=(by show _=_;simpa using a1)
    have HLL:Hid (c.1.length+c.2.length≤16777216):=by
     have h1:wtCl (wtEx d) c=wtS (wtEx d) c.1+wtS (wtEx d) c.2:=rfl;have h2:=HWC.out;show _≤_;unfold wtS at h1;omega
    clear hcl hc HWT a0 a1;have K4:Hid (Bz w3 (w3.alloc (.cells #[.slice p1 c.1.length c1,.slice p2 c.2.length c2] 44)).drew):=((sqN _ _)).drew;have BK4:Hid (Blk (w3.alloc (.cells #[.slice p1 c.1.length c1,.slice p2 c.2.length c2] 44)).drew w3.heap.size #[.slice p1 c.1.length c1,.slice p2 c.2.length c2] 44):=Blk.new;have RP4:=hid (RP.out.mono (sqO K4.out) (fun _ h=>h) (fun _ _ _ h=>h));have RB4:=hid (RB.out.mono (sqO K4.out) (fun _ h=>h) (fun _ _ _ h=>h));have LT3:=hid M3.out.lt;clear RP RB;go_wp2_with fail;have a0:=A0.out;have a1:=A1.out
    go_region_held3 (fun w'=>w'.cell? ⟨gc,o,none⟩=some (.slice p1 c.1.length c1)∧w'.cell? ⟨gc,o+1,none⟩=some (.slice p2 c.2.length c2))
     (first | exact ⟨a0,a1⟩ | go_keep | (go_split_ands;refine ⟨?_,?_⟩ <;> exact cell_next hb (by assumption)))
     ((go_at_call 111;refine (concatEx_any (HEx w3 (fun g=>g≠w.heap.size+1) d) exc_oneCell _ w3.heap.size p1 p2 c1 c2 c.1 c.2 BK4.out RP4.out RB4.out HLL.out).mono ?_;rintro e w5 ⟨u,rfl,ho,hb⟩;obtain ⟨pu,cu,hu,-⟩:=ho.slice;obtain ⟨ne,hnn⟩:∃ nn,(c.1 ++ c.2).length=nn:=⟨_,rfl⟩;rw [hnn] at hu;subst hu;have HNN:=hid hnn;clear hnn;have HO5:=hid (ho.base K4.out.size);have K5:=hid (K4.out.trans (hb.mono K4.out.size))))
    go_split_ands;clear a0 a1 A0 A1 hb ho BK4 RP4 RB4 K4;have B5:=hid (B3.out.trans (K5.out.mono B3.out.size));have M5:=hid (M3.out.keep (K5.out.block _ LT3.out));have HE5:Hid (∀ cs x,HEx w3 (fun g=>g≠w.heap.size+1) d cs x→HEx w5 (fun g=>g≠w.heap.size+1) d cs x):=fun cs x h=>h.mono (sqO K5.out) (fun _ h=>h)
    have HRW:Hid (Rows w5 (fun g=>w3.heap.size≤g) 6 (HEx w3 (fun g=>g≠w.heap.size+1) d) (.slice pu ne cu) (c.1 ++ c.2)):=by
     exact ownG_low HO5.out
    have HNL:=hid (clauseL_len d c HWC.out)
    have HFN:Hid (∀ K,K=(c.1 ++ c.2).flatMap (varL d)→∀ x,x ∈ (clauseVars d c).map keyS ↔ x ∈ K):=fun K hK x=>by rw [hK];exact clauseL_all d c x
    have HND:=hid (clauseVars_nd d c);generalize hes:c.1 ++ c.2=es at *;have HNE:=hid HNN.out;clear hes HO5 HNN;obtain ⟨pu',cu',hpu,hcl5,hcm5,hx5⟩:=HRW.out;simp only [Value.slice.injEq] at hpu;obtain ⟨rfl,-,rfl⟩:=hpu;have hnb:ne≤9223372036854775807:=(by unfold maxLen at hcm5;rw [HNE.out] at hcl5;omega);have HX5:=hid hx5;clear hx5 hcl5 hcm5 HRW;go_wp2_with fail
    go_loopw [31] (fun iv wr=>∃ k:Nat,k≤ne∧iv=.int .i64 k∧Hid (MapAt wr (w.heap.size+1) ((es.take k).flatMap (varL d)))∧Hid (Off [w.heap.size+1] w5 wr)) (fun iv _=>ne - (intOf iv).toNat)
    case atStart=>exact ⟨0,Nat.zero_le _,rfl,by show MapAt _ _ _;simpa using M5.out,Off.refl _ _⟩
    case round =>
     obtain ⟨k,hk,rfl,hmk,hof⟩:=hrel;by_cases hlt:k<ne
     · obtain ⟨x,hxk⟩:∃ x,es[k]?=some x:=⟨es[k]'(by rw [HNE.out];exact hlt),List.getElem?_eq_getElem _⟩
       obtain ⟨g,off,rfl,hgB,hgl,hat⟩:=HX5.out (sqE hxk);obtain ⟨xcs,hxl,hxcs,hxe⟩:=hat k x hxk;have hgm:g≠w.heap.size+1:=(by have:=LT3.out;omega);have hgk:wr.heap[g]?=w5.heap[g]?:=hof.out.block g hgl (by simpa using hgm);have HEX:Hid (HEx wr (fun g=>g≠w.heap.size+1) d xcs x):=(HE5.out xcs x hxe).offN hof.out;obtain ⟨sk,sn,st,se,p3,n3,q3,p4,n4,q4,rfl⟩:=HEx.shapeN hxe;have c0:=hxcs 0 (by omega);have c1:=hxcs 1 (by omega);have c2:=hxcs 2 (by omega);have c3:=hxcs 3 (by omega);have c4:=hxcs 4 (by omega);have c5:=hxcs 5 (by omega);clear hxcs hat;rw [← sqK (w:=w5) (w':=wr) (a:=⟨g,_,none⟩) hgk] at c0 c1 c2 c3 c4 c5;simp at c0 c1 c2 c3 c4 c5;have hki:(k:Int)<(ne:Int):=(by omega);have hk0:=sqI k
       have HKS:Hid ((es.take (k+1)).flatMap (varL d)=(es.take k).flatMap (varL d) ++ varL d x):=by
        show _=_;rw [List.take_add_one,hxk];simp
       have HKL:Hid (((es.take k).flatMap (varL d)).length+(varL d x).length≤33554432):=by
        show _≤_;have h1:=HNL.out (k+1);rw [HKS.out,List.length_append] at h1;omega
       have K6:Hid (Bz wr (wr.alloc (.cells #[.int .i64 sk,.int .i64 sn,.string st,.string se,.slice p3 n3 q3,.slice p4 n4 q4] 76))):=(sqN _ _);clear hxl hxe hgk;go_wp2_with fail;refine (eachVar_any _ (w.heap.size+1) d _ x ((es.take k).flatMap (varL d)) (HEX.out.offN (Off.of_below K6.out)) (hmk.out.keep (K6.out.block _ hmk.out.lt)) HKL.out).mono ?_;rintro e w7 ⟨rfl,hm7,ho7⟩;have M7:Hid (MapAt w7 (w.heap.size+1) ((es.take (k+1)).flatMap (varL d))):=(by show MapAt _ _ _;rw [HKS.out];exact hm7);have O7:=hid (hof.out.trans ((Off.of_below K6.out).trans ho7));clear hm7 ho7 c0 c1 c2 c3 c4 c5 K6;go_wp2_with fail;exact ⟨⟨k+1,by omega,by go_num,M7.out,O7.out⟩,by simp [intOf];omega⟩
     · have hek:es.take k=es:=List.take_of_length_le (by rw [HNE.out];omega)
       rw [hek] at hmk
       have HLE:Hid ((es.flatMap (varL d)).length≤67108864):=by
        have:=HNL.out k;rw [hek] at this;show _≤_;omega
       have B8:=hid (B5.out.trans (hof.out.below (by simp) B5.out.size));clear hek;go_wp2_with fail;refine (list_any wr (w.heap.size+1) (es.flatMap (varL d)) (clauseVars d c) hmk.out HLE.out HND.out (HFN.out _ rfl)).mono ?_;rintro e w9 ⟨u,rfl,ho,hb⟩;have HO:=hid (ho.base B8.out.size);have B9:=hid (B8.out.trans (hb.mono B8.out.size));clear ho hb;go_wp2_with fail;go_ret;exact ⟨u,rfl,by rw [HX.out];exact HO.out,B9.out⟩
end Go.Proofs.YtdhlonogmnkemaaGreatDoor
namespace Go.Proofs.YtdhlonogmnkemaaGreatDoor
open Go.ChangeShapes Go.WideShapes Go.ChangeAt Go.RowKit
set_option linter.unusedVariables false
set_option maxRecDepth 100000
structure Pb where
 mod:ByteArray
 name:ByteArray
 arity:Int
 code:ByteArray
def HPb (cs:List Value) (q:Pb):Prop:=cs = [.string q.mod,.string q.name,.int .i64 q.arity,.string q.code]∧okS q.mod∧okS q.name∧okI q.arity∧okS q.code
theorem pb_oneCell (cs:List Value) (q:Pb) (h:HPb cs q):∀ u ∈ cs,u.oneCell'=true:=by
 obtain ⟨rfl,-⟩:=h;intro u hu;simp only [List.mem_cons,List.not_mem_nil,or_false] at hu
 rcases hu with rfl | rfl | rfl | rfl <;> rfl
theorem HFn.deeper {w:World} {S:Nat→Prop} {d d':Nat} (hd:d≤d') {cs:List Value} {f:Fn'} (h:HFn w S d cs f):HFn w S d' cs f:=by
 have hs:SameOn S w w:=⟨Nat.le_refl _,fun _ _ _=>rfl⟩;obtain ⟨cv,rfl,h1,h2,hc⟩:=h;exact ⟨cv,rfl,h1,h2,hc.mono hs (fun _ h=>h) (fun _ _ _ h=>h.mono hs (fun _ h=>h) (fun _ _=>HEx.deeper hd))⟩
theorem HMd.deeper {w:World} {S:Nat→Prop} {d d':Nat} (hd:d≤d') {cs:List Value} {m:Md} (h:HMd w S d cs m):HMd w S d' cs m:=by
 have hs:SameOn S w w:=⟨Nat.le_refl _,fun _ _ _=>rfl⟩;obtain ⟨ev,fv,rfl,h1,he,hf⟩:=h;exact ⟨ev,fv,rfl,h1,he.mono hs (fun _ h=>h) (fun _ _ _ h=>h),hf.mono hs (fun _ h=>h) (fun _ _ _ h=>h.deeper hd)⟩
theorem HMd.shape {w:World} {S:Nat→Prop} {d:Nat} {cs:List Value} {m:Md} (h:HMd w S d cs m):∃ s p1 n1 q1 p2 n2 q2,cs = [.string s,.slice p1 n1 q1,.slice p2 n2 q2]:=by
 obtain ⟨ev,fv,rfl,_,⟨p1,c1,rfl,_⟩,⟨p2,c2,rfl,_⟩⟩:=h;exact ⟨_,_,_,_,_,_,_,rfl⟩
end Go.Proofs.YtdhlonogmnkemaaGreatDoor
