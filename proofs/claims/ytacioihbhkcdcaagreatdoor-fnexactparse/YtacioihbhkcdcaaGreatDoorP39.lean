/-
  ImplLex
-/
import Derived.Test.YtacioihbhkcdcaaGreatDoorP37
import Derived.Deep.Onto
set_option maxHeartbeats 16000000
set_option linter.unusedVariables false
set_option maxRecDepth 100000
namespace Go.Proofs.YtacioihbhkcdcaaGreatDoor
open Go.ChangeShapes Go.WideShapes Go.ChangeAt Go.RowKit
section
open Go.Maps Go.WideMaps Go.WideElems Go.Proofs.Tryz
theorem Zhz {w w':World} (h:ZaE w) (hb:Bz w w'):ZaE w' :=
 ⟨λk hk=>(hb.cell (p:=⟨1,k,none⟩) (World.block_lt_of_cell? w _ (h.1 k hk))).trans (h.1 k hk),λk hk=>(hb.cell (p:=⟨2,k,none⟩) (World.block_lt_of_cell? w _ (h.2 k hk))).trans (h.2 k hk)⟩
theorem ZhA {w w':World} (h:Zbz w) (hb:Bz w w'):Zbz w' :=
 ⟨(hb.cell (p:=⟨0,0,none⟩) (World.block_lt_of_cell? w _ h.1)).trans h.1,(hb.cell (p:=⟨0,1,none⟩) (World.block_lt_of_cell? w _ h.2)).trans h.2⟩
theorem ZE.keep {w w':World} {C:Nat} {s:ByteArray} {i:Nat} {line:Int} (h:ZE w C s i line) (hC:w'.heap[C]?=w.heap[C]?) (hV:∀ bm,Zb7 w bm->w'.heap[bm]?=w.heap[bm]?):ZE w' C s i line:=by
 rcases h with h | ⟨bm,hne,h,hm⟩
 . exact .inl (hC.trans h)
 . refine .inr ⟨bm,hne,hC.trans h,?_⟩
   obtain ⟨es,clock,e1,e2⟩:=hm;exact ⟨es,clock,(hV bm ⟨es,clock,e1,e2⟩).trans e1,e2⟩
theorem ZE.lt {w:World} {C:Nat} {s:ByteArray} {i:Nat} {line:Int} (h:ZE w C s i line):C<w.heap.size:=by obtain ⟨_,_,h'⟩:=h.sc';exact h'.lt
theorem Zb7.lt {w:World} {bm:Nat} (h:Zb7 w bm):bm<w.heap.size:=World.ownsMap.lt h
theorem ZE.append {w w':World} {C B:Nat} {s:ByteArray} {i n:Nat} {line:Int} {e:TypeId} {size:Nat} {v:Value} {xs:List Value} (h:ZE w C s i line) (ho:w.ownsRow B e size v n xs) (hB:C<B) (hg:w.grownBy w' v.ownBlock):ZE w' C s i line:=by
 refine h.keep (hg.block C h.lt ?_) (λbm hm=>hg.block bm hm.lt ?_)
 . intro e;have:=(ho.lt C e.symm).1;omega
 . intro e
   rcases ho.2 with ⟨hv,_⟩ | ⟨g,cap,cur,hv,_,hgb,_⟩
   . rw [hv] at e;cases e
   . rw [hv] at e
     simp only [Value.ownBlock,Option.some.injEq] at e;exact Zao hm (e ▸ hgb) rfl
theorem ZfM (s:ByteArray) (w:World) (hs:s.size<=maxLen) (hl:¬ s.size<=4000) :
 Calls prog 13 #[.string s] w λe w'=>∃ v,e=.returned (.tuple #[v,.int .i64 (lexM s.data.toList).2])/\w'.ownsRow w.heap.size 43 4 v (lexM s.data.toList).1.length (Za6 (lexM s.data.toList).1)/\Bz w w':=by
 have e:lexM s.data.toList=([],1):=(by unfold lexM;rw [if_neg (by simpa using hl)]);rw [e];unfold maxLen at hs;go_enter func13,ntmps13;go_wp2
 go_ret2
 exact ⟨_,rfl,World.ownsRow_lit w #[] 0 (sqR _) (Nat.zero_le _) rfl,(sqN _ _)⟩
theorem Ze6 (s:ByteArray) (w:World) (hl:s.size<=4000) (hT:ZaE w) (hL:Zbz w) :
 Calls prog 13 #[.string s] w λe w'=>∃ v,e=.returned (.tuple #[v,.int .i64 (lexM s.data.toList).2])/\w'.ownsRow w.heap.size 43 4 v (lexM s.data.toList).1.length (Za6 (lexM s.data.toList).1)/\Bz w w':=by
 obtain ⟨i0,hi,hz0,hz1_,hz2_⟩:=info_parts Zku;obtain ⟨R,hR⟩:∃ R,R=lexM s.data.toList:=⟨_,rfl⟩;rw [<-hR];have HLL:Hid (s.data.toList.length=s.size):=(by show s.data.toList.length=s.size;simp);have E0:Hid (R=lexF s.data.toList (s.data.toList.length+1) 0 1 []):=(by show R=_;rw [hR];unfold lexM;rw [if_pos (by simpa using hl)]);have hC0:w.heap.size≠1:=(by have:=World.block_lt_of_cell? w ⟨1,0,none⟩ (hT.1 0 (by omega));simp at this;omega);have hC2:w.heap.size≠2:=(by have:=World.block_lt_of_cell? w ⟨2,0,none⟩ (hT.2 0 (by omega));simp at this;omega);have hC1:w.heap.size≠0:=(by have:=World.block_lt_of_cell? w ⟨0,0,none⟩ hL.1;simp at this;omega);have T:=hid hT;have L:=hid hL;clear hR hT hL;go_enter func13,ntmps13;go_wp2_with fail
 have h0:Sc ((w.alloc (.cells #[.string s,.int .i64 0,.int .i64 1,.int .u32 0,.int .i32 0,.int .u32 0,.map none] 86)).alloc (.cells #[] 43)) w.heap.size s 0 1 0 none:=by
  have ha:Sc (w.alloc (.cells #[.string s,.int .i64 0,.int .i64 1,.int .u32 0,.int .i32 0,.int .u32 0,.map none] 86)) w.heap.size s 0 1 0 none:=heap_alloc_new w _;exact ha.below ((sqN _ _))
 have o0:(((w.alloc (.cells #[.string s,.int .i64 0,.int .i64 1,.int .u32 0,.int .i32 0,.int .u32 0,.map none] 86)).alloc (.cells #[] 43))).ownsRow (w.heap.size+1) 43 4 (.slice (some ⟨w.heap.size+1,0,none⟩) 0 0) 0 (Za6 []):=by
  have:=World.ownsRow_lit (base:=w.heap.size+1) (e:=43) (size:=4) (w.alloc (.cells #[.string s,.int .i64 0,.int .i64 1,.int .u32 0,.int .i32 0,.int .u32 0,.map none] 86)) #[] 0 (by simp) (Nat.zero_le _) rfl
  simpa [Za6] using this
 have b0:Bz w ((w.alloc (.cells #[.string s,.int .i64 0,.int .i64 1,.int .u32 0,.int .i32 0,.int .u32 0,.map none] 86)).alloc (.cells #[] 43)):=((sqN _ _)).alloc (by simp) _;refine (Zd2 w.heap.size s 0 1 0 none _ hl (Nat.zero_le _) (by omega) (by omega) h0).mono ?_;rintro e w1 ⟨rfl,i1,l1,hsc1,hg1,_,hi1,hl1,hl2,hr1,hn1⟩;obtain ⟨f1,hf1,he1⟩:=hr1 [] (s.data.toList.length+1) (by omega);have V1:Hid (ZE w1 w.heap.size s i1 l1):=.inl hsc1;have O1:=hid (o0.kept hg1 (.inr (by simp [Value.ownBlock])));have B1:Hid (Bz w w1):=b0.trans (ZbA hg1 (sqR _) (by simp;omega));have E1:=hid (E0.out.trans he1);have F1:Hid (s.size - i1<f1):=(by rw [HLL.out] at hf1;exact hf1);have N1:=hid hn1;clear h0 o0 b0 hsc1 hg1 hr1 he1 hf1 hn1 E0;go_wp2
 go_loopw [5] (λv wr=>∃ (i f:Nat) (line:Int) (acc:List Tok),i<=s.size/\1<=line/\line<=i+1/\acc.length<=i/\s.size - i<f/\ZE wr w.heap.size s i line/\(i<s.size->Zav s.data.toList i line=none)/\wr.ownsRow (w.heap.size+1) 43 4 v acc.length (Za6 acc)/\R=lexF s.data.toList f i line acc/\Bz w wr) (λ_ wr=>s.size - Zgl wr w.heap.size)
 case atStart=>exact ⟨i1,f1,l1,[],hi1,hl1,hl2,by simp,F1.out,V1.out,N1.out,O1.out,E1.out,B1.out⟩
 case round =>
  clear V1 O1 B1 E1 F1 N1;obtain ⟨i,f,line,acc,hi',hl1',hl2',hacc,hf,hvs,hng,hown,hRr,hb⟩:=hrel;obtain ⟨d,V,hsc⟩:=hvs.sc';obtain ⟨_,c1,_,_,_,_,_⟩:=hsc.cells;have HPOS:=hid hsc.pos;have HV:=hid hvs;have HR:=hid hRr;have HB:=hid hb;have HO:=hid hown;have HNG:=hid hng;have hwr:w.heap.size<wr.heap.size:=hsc.lt;clear hvs hRr hb hown hng hsc;by_cases hlt:i<s.size
  . obtain ⟨g,rfl⟩:∃ g,f=g+1:=⟨f - 1,by omega⟩
    have hltl:i<s.data.toList.length:=(by rw [HLL.out];exact hlt);have TR:=hid (Zhz T.out HB.out);have LR:=hid (ZhA L.out HB.out);go_wp2_with fail;refine (Zjl w.heap.size s i line _ hl hlt HV.out TR.out LR.out hC0 hC1 hC2).mono ?_;rintro e w2 ⟨tv,ok,k,rfl,hres,hv2,hk1,hk2,hg2⟩;have HV2:=hid hv2;have HG2:=hid hg2;have HO2:=hid (HO.out.kept hg2 (by cases hv:u5.ownBlock with | none=>exact .inl rfl | some b=>exact .inr (by simp;have:=(HO.out.lt b hv).1;omega)));have HB2:Hid (Bz w w2):=HB.out.trans (ZbA hg2 (sqR _) (by omega));have hwz:w.heap.size<w2.heap.size:=hv2.lt;clear hv2 hg2 c1
    rcases hres with ⟨rfl,t,ht,rfl⟩ | ⟨rfl,ht,rfl⟩
    . have hgt:=ZeQ hltl ht
      have HR':=hid (HR.out.trans (ZeR hltl (HNG.out hlt) ht));have hk3:i<k:=hgt.1;have V3:Hid (ZE ((w2.alloc (.cells #[.int .i64 t.kind,.string ⟨t.text.toArray⟩,.int .i64 t.n,.int .i64 t.line] 43)).alloc (.cells #[.int .i64 t.kind,.string ⟨t.text.toArray⟩,.int .i64 t.n,.int .i64 t.line] 43)) w.heap.size s k line):=(HV2.out.alloc _).alloc _;clear ht hgt HR;simp only [Tok.agg];go_wp2_with (at_builtin;refine wpList_append_own _ rfl _ _ 31 rfl (w.heap.size+1) 43 i0 _ 4 40 underlying31 hi hz0 hz1_ hz2_ rfl (by decide) _ _ _ rfl ((HO2.out.alloc _).alloc _) ⟨w2.heap.size+1,0,none⟩ 1 1 (Tok.cells t) rfl rfl (Zdg _ t _ _ (by simp)) (ZdV _) (by unfold maxLen;omega) (by omega) (by simp;omega) ?_;intro v' w3 hown' hgr _;have HO3:Hid _:=hown';have HG3:Hid _:=hgr;clear hown' hgr);have hown3:w3.ownsRow (w.heap.size+1) 43 4 v' (acc.length+1) (Za6 acc ++ t.cells):=HO3.out;have hg3:((w2.alloc (.cells #[.int .i64 t.kind,.string ⟨t.text.toArray⟩,.int .i64 t.n,.int .i64 t.line] 43)).alloc (.cells #[.int .i64 t.kind,.string ⟨t.text.toArray⟩,.int .i64 t.n,.int .i64 t.line] 43)).grownBy w3 u5.ownBlock:=HG3.out;have hv3:ZE w3 w.heap.size s k line:=V3.out.append ((HO2.out.alloc _).alloc _) (by omega) hg3;have hb3:Bz w w3:=((HB2.out.alloc (by omega) _).alloc (by simp;omega) _).grown hg3 (by simp;omega) (λj hj=>by have:=(HO2.out.lt j hj).1;omega);obtain ⟨d3,V3',hs3,hkp3⟩:=hv3.sc;refine (Zd2 w.heap.size s k line d3 V3' _ hl hk2 hl1' (by omega) hs3).mono ?_;rintro e w4 ⟨rfl,i4,l4,hsc4,hg4,hle4,hi4,hl41,hl42,hr4,hn4⟩;obtain ⟨f4,hf4,he4⟩:=hr4 (acc ++ [t]) g (by rw [HLL.out];omega);have V4:=hid (hkp3 _ _ _ hsc4 hg4);have O4:=hid (hown3.kept hg4 (by cases hv:v'.ownBlock with | none=>exact .inl rfl | some b=>exact .inr (by simp;have:=(hown3.lt b hv).1;omega)));have B4:=hid (hb3.trans (ZbA hg4 (sqR _) (by have:=hv3.lt;omega)));have E4:=hid (HR'.out.trans he4);have F4:Hid (s.size - i4<f4):=(by rw [HLL.out] at hf4;exact hf4);have N4:=hid hn4;have P4:=hid hsc4.pos;clear hown3 hg3 hv3 hb3 hs3 hkp3 hsc4 hg4 hr4 he4 hf4 hn4 HO3 HG3 V3 HV2 HO2;go_wp2;refine ⟨⟨i4,f4,l4,acc ++ [t],hi4,hl41,hl42,by rw [List.length_append];simp only [List.length_cons,List.length_nil];omega,F4.out,V4.out,N4.out,by rw [Zen,List.length_append];exact O4.out,E4.out,B4.out⟩,?_⟩;rw [P4.out,HPOS.out];omega
    . have HE:Hid (R=([],line)):=HR.out.trans (ZeS hltl (HNG.out hlt) ht)
      obtain ⟨d2,V2,hsc2⟩:=HV2.out.sc';have c2:=hsc2.cells.2.2.1;clear ht HR hsc2;go_wp2
      go_region
      all_goals (try go_wp2)
      all_goals go_ret2
      all_goals
       have ho:=World.ownsRow_lit (base:=w.heap.size) (e:=43) (size:=4) (w2.alloc (.cells #[.int .i64 0,.string ⟨#[]⟩,.int .i64 0,.int .i64 0] 43)) #[] 0 (by simp;omega) (Nat.zero_le _) rfl;have hbe:Bz w ((w2.alloc (.cells #[.int .i64 0,.string ⟨#[]⟩,.int .i64 0,.int .i64 0] 43)).alloc (.cells #[] 43)):=(HB2.out.alloc (by omega) _).alloc (by simp;omega) _;refine ⟨.slice (some ⟨w2.heap.size+1,0,none⟩) 0 0,by rw [HE.out];rfl,?_,?_⟩
      . rw [HE.out];exact World.ownsRow.drew (by simpa [Za6] using ho)
      . exact hbe.drew
  . have hend:=ZeT (l:=s.data.toList) (f:=f) (i:=i) (line:=line) (acc:=acc) (by rw [HLL.out];exact hlt)
    have HE:=hid (HR.out.trans hend);clear hend HR;go_wp2
    go_ret2
    exact ⟨u5,by rw [HE.out];rfl,by rw [HE.out];exact HO.out.mono (by omega),HB.out⟩
theorem Zgs (s:ByteArray) (w:World) (hs:s.size<=maxLen) (hT:ZaE w) (hL:Zbz w) :
 Calls prog 13 #[.string s] w λe w'=>∃ v,e=.returned (.tuple #[v,.int .i64 (lexM s.data.toList).2])/\w'.ownsRow w.heap.size 43 4 v (lexM s.data.toList).1.length (Za6 (lexM s.data.toList).1)/\Bz w w':=by
 by_cases hl:s.size<=4000
 . exact Ze6 s w hl hT hL
 . exact ZfM s w hs hl
end
end Go.Proofs.YtacioihbhkcdcaaGreatDoor
