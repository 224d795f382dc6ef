/-
  Fill KindOf NameTok SignTok NextTok
-/
import Derived.Test.YtacioihbhkcdcaaGreatDoorP36
set_option maxHeartbeats 16000000
set_option linter.unusedVariables false
set_option maxRecDepth 100000
namespace Go.Proofs.YtacioihbhkcdcaaGreatDoor
open Go.ChangeShapes Go.WideShapes Go.ChangeAt Go.RowKit
section
open Go.Maps Go.WideMaps Go.WideElems Go.Proofs.Tryz
theorem ScM.cell6 {w:World} {C:Nat} {s:ByteArray} {i:Nat} {line d m:Int} {V:Option Nat} (h:ScM w C s i line d m V):w.cell? ⟨C,6,none⟩=some (.map V):=by
 unfold ScM at h;rw [cell_of_row w C _ _ _ (0,0) h];rfl
theorem ScM.frozen {w:World} {C:Nat} {s:ByteArray} {i:Nat} {line d m:Int} {V:Option Nat} (h:ScM w C s i line d m V) (j:Nat):w.frozen? ⟨C,j,none⟩=false:=frozen_of_row w C j _ _ h
theorem ScM.lt {w:World} {C:Nat} {s:ByteArray} {i:Nat} {line d m:Int} {V:Option Nat} (h:ScM w C s i line d m V):C<w.heap.size:=(Array.getElem?_eq_some_iff.1 h).1
theorem ScM.of_heap {w w':World} {C:Nat} {s:ByteArray} {i:Nat} {line d m:Int} {V:Option Nat} (h:ScM w C s i line d m V) (e:w'.heap[C]?=w.heap[C]?):ScM w' C s i line d m V:=e.trans h
theorem ScM.kinds {w:World} {C:Nat} {s:ByteArray} {i:Nat} {line d m:Int} {V:Option Nat} (h:ScM w C s i line d m V) (V':Option Nat):ScM (w.setCell ⟨C,6,none⟩ (.map V')) C s i line d m V' :=
 (heap_setCell_same w C 6 _ _ _ h).trans rfl
theorem ScM.alloc {w:World} {C:Nat} {s:ByteArray} {i:Nat} {line d m:Int} {V:Option Nat} (h:ScM w C s i line d m V) (o:Obj):ScM (w.alloc o) C s i line d m V :=
 h.of_heap (((Below.refl w.heap.size w).alloc (sqR _) o).block C h.lt)
theorem cell_behind {w:World} {C b:Nat} (hb:b≠C) (hl:b<w.heap.size) (v:Value) (o:Obj) (k:Nat):((w.setCell ⟨C,6,none⟩ v).alloc o).cell? ⟨b,k,none⟩=w.cell? ⟨b,k,none⟩:=by
 rw [World.cell?_alloc_past _ _ _ (by simpa using hl)];exact World.cell?_setCell_other _ ⟨C,6,none⟩ ⟨b,k,none⟩ _ (λe=>hb (by injection e with e1;exact e1.symm))
theorem Zhx (k:Nat) (hk:k<3):Zbq.take (k+1)=Zbq.take k ++ [keysL.getD k []]:=by
 rcases (by omega:k=0\/k=1\/k=2) with rfl | rfl | rfl <;> rfl
theorem Zgo (k:Nat) (hk:k<20):Zbq.take (3+k+1)=Zbq.take (3+k) ++ [signsL.getD k []]:=by
 rcases (by omega:k=0\/k=1\/k=2\/k=3\/k=4\/k=5\/k=6\/k=7\/k=8\/k=9\/k=10\/k=11\/k=12\/k=13\/k=14\/k=15\/k=16\/k=17\/k=18\/k=19) with rfl | rfl | rfl | rfl | rfl | rfl | rfl | rfl | rfl | rfl | rfl | rfl | rfl | rfl | rfl | rfl | rfl | rfl | rfl | rfl <;> rfl
theorem Zin (x:List UInt8) (h:x.length<=4):keyOf prog 9 (.string ⟨x.toArray⟩)=some (.string x):=by
 have:=keyOf_string_mk (s:=⟨x.toArray⟩) underlying9 (by unfold maxLen;show x.toArray.size<=_;simp;omega)
 simpa using this
theorem Zgp (k:Nat):(keysL.getD k []).length<=4:=by
 by_cases h:k<3
 . rcases (by omega:k=0\/k=1\/k=2) with rfl | rfl | rfl <;> decide
 . rw [List.getD,List.getElem?_eq_none (by show 3<=k;omega)];decide
theorem ZfI (k:Nat):(signsL.getD k []).length<=4:=by
 by_cases h:k<20
 . rcases (by omega:k=0\/k=1\/k=2\/k=3\/k=4\/k=5\/k=6\/k=7\/k=8\/k=9\/k=10\/k=11\/k=12\/k=13\/k=14\/k=15\/k=16\/k=17\/k=18\/k=19) with rfl | rfl | rfl | rfl | rfl | rfl | rfl | rfl | rfl | rfl | rfl | rfl | rfl | rfl | rfl | rfl | rfl | rfl | rfl | rfl <;> decide
 . rw [List.getD,List.getElem?_eq_none (by show 20<=k;omega)];decide
theorem ZfJ {w wr w1:World} {r:Option Nat} {b:Nat} (h:w.grownBy wr r) (k:wr.grownBy w1 (some b)) (hb:w.heap.size<=b):w.grownBy w1 r :=
 ⟨k.os.trans h.os,k.tape.trans h.tape,k.output.trans h.output,Nat.le_trans h.size k.size,λj hj hr=>(k.block j (Nat.lt_of_lt_of_le hj h.size) (by simp;omega)).trans (h.block j hj hr)⟩
theorem ScM.row {w w1:World} {C:Nat} {s:ByteArray} {i:Nat} {line d m:Int} {V:Option Nat} {b:Nat} (h:ScM w C s i line d m V) (k:w.grownBy w1 (some b)) (hb:C≠b):ScM w1 C s i line d m V :=
 h.of_heap (k.block C h.lt (by simp;exact hb))
theorem Zjd (C:Nat) (s:ByteArray) (i:Nat) (line d m:Int) (w:World) (h:ScM w C s i line d m none) (hK:Zgn w) (hS:Zim w) (hC0:C≠1) (hC2:C≠2) :
 Calls prog 110 #[.pointer (some ⟨C,3,none⟩)] w λe w'=>e=.returned (.tuple #[])/\∃ bm,ScM w' C s i line d m (some bm)/\w'.ownsMap prog 9 (plainElem prog 3) bm 23 (vocD Zbq)/\w.heap.size<=bm/\w.grownBy w' (some C):=by
 have c6:=h.cell6;have f6:=h.frozen 6;have hC:=h.lt;have H:=hid h;have HK:=hid hK;have HS:=hid hS;clear h hK hS
 have hmm:∀ w:World,Sem.run prog (Instr.makeMap 82 (some (.int .i64 23))) w=.ok (.map (some w.heap.size)) (w.alloc (.map #[] 0)):=λw=>by kernel_rfl
 have hk0:1<w.heap.size:=World.block_lt_of_cell? w ⟨1,0,none⟩ (HK.out 0 (by omega));have hs0:2<w.heap.size:=World.block_lt_of_cell? w ⟨2,0,none⟩ (HS.out 0 (by omega));have k0:((w.setCell ⟨C,6,none⟩ (.map (some w.heap.size))).alloc (.map #[] 0)).cell? ⟨1,0,none⟩=some (.string ⟨#[99,97,115,101]⟩):=(cell_behind (Ne.symm hC0) hk0 _ _ 0).trans (HK.out 0 (by omega));have k1:((w.setCell ⟨C,6,none⟩ (.map (some w.heap.size))).alloc (.map #[] 0)).cell? ⟨1,1,none⟩=some (.string ⟨#[111,102]⟩):=(cell_behind (Ne.symm hC0) hk0 _ _ 1).trans (HK.out 1 (by omega));have k2:((w.setCell ⟨C,6,none⟩ (.map (some w.heap.size))).alloc (.map #[] 0)).cell? ⟨1,2,none⟩=some (.string ⟨#[101,110,100]⟩):=(cell_behind (Ne.symm hC0) hk0 _ _ 2).trans (HK.out 2 (by omega));have HSC1:Hid (ScM ((w.setCell ⟨C,6,none⟩ (.map (some w.heap.size))).alloc (.map #[] 0)) C s i line d m (some w.heap.size)):=(H.out.kinds (some w.heap.size)).alloc _
 have HM1:Hid (((w.setCell ⟨C,6,none⟩ (.map (some w.heap.size))).alloc (.map #[] 0)).ownsMap prog 9 (plainElem prog 3) w.heap.size 0 (vocD [])):=by
  have:=World.ownsMap_made (w.setCell ⟨C,6,none⟩ (.map (some w.heap.size))) prog 9 (plainElem (H:=Unit) prog 3);have e:(w.setCell ⟨C,6,none⟩ (.map (some w.heap.size))).heap.size=w.heap.size:=(by simp);rw [e] at this;exact this
 have HG1:Hid (w.grownBy ((w.setCell ⟨C,6,none⟩ (.map (some w.heap.size))).alloc (.map #[] 0)) (some C)):=Zf (Zan _ _ _ _) (World.grownBy_alloc _ _ _);go_enter func110,ntmps110;go_wp2;clear k0 k1 k2
 go_loopw [11] (λkv wr=>∃ k:Nat,k<=3/\kv=.int .i64 k/\ScM wr C s i line d m (some w.heap.size)/\wr.ownsMap prog 9 (plainElem prog 3) w.heap.size k (vocD (Zbq.take k))/\w.grownBy wr (some C)) (λkv _=>3 - (intOf kv).toNat)
 case atStart=>exact ⟨0,by omega,rfl,HSC1.out,HM1.out,HG1.out⟩
 case round =>
  clear HSC1 HM1 HG1 c6 f6;obtain ⟨k,hk,rfl,hsc,hmap,hgr⟩:=hrel;have c6:=hsc.cell6;have HSC:=hid hsc;have HM:=hid hmap;have HG:=hid hgr;clear hsc hmap hgr;by_cases hlt:k<3
  . have hix:=Zkb k hlt
    have hks:=Zgp k;have HTV:=hid (Zhx k hlt);generalize keysL.getD k []=x at hix hks HTV;go_wp2_with (at_mapUpdate;refine wpList_mapUpdate_own _ rfl _ _ _ 82 rfl 9 3 law9 underlying82 _ w.heap.size k _ rfl HM.out (by unfold maxLen;omega) _ _ _ rfl rfl (Zin x hks) _ [] (plainElem_int underlying3 (by decide)) ?_;intro w1 hm1 hg1;have HM1:Hid _:=hm1;have HG1:Hid _:=hg1;clear hm1 hg1);have hown1:w1.ownsMap prog 9 (plainElem prog 3) w.heap.size (k+1) ((vocD (Zbq.take k)).put (.string x) (.lit (.int .i64 3))):=HM1.out;rw [<-Zd3,<-HTV.out] at hown1;exact ⟨⟨k+1,by omega,by go_num,HSC.out.row HG1.out (by omega),hown1,ZfJ HG.out HG1.out (sqR _)⟩,by simp [intOf];omega⟩
  . obtain rfl:k=3:=by omega
    have HSR:Hid (∀ k,k<20->wr.cell? ⟨2,k,none⟩=some (.string ⟨(signsL.getD k []).toArray⟩)):=λk hk=>(sqK (a:=⟨2,k,none⟩) (HG.out.block 2 hs0 (by simp;omega))).trans (HS.out k hk)
    have HRG:Hid (wr.rangeAt 2 0 ZcN.toList):=λj v hj=>by
     obtain ⟨h20,rfl⟩:=ZfH j v hj;rw [Nat.zero_add];exact HSR.out j h20
    go_wp2_with (refine wpList_load_mid rfl 151 (.global 2) rfl 2 0 rfl ZcN.toList _ HRG.out underlying151 rfl (by kernel_rfl) ?_);clear c6 HRG
    go_loopw [21] (λkv wr=>∃ k:Nat,k<=20/\kv=.int .i64 k/\ScM wr C s i line d m (some w.heap.size)/\wr.ownsMap prog 9 (plainElem prog 3) w.heap.size (3+k) (vocD (Zbq.take (3+k)))/\w.grownBy wr (some C)) (λkv _=>20 - (intOf kv).toNat)
    case atStart=>exact ⟨0,by omega,rfl,HSC.out,HM.out,HG.out⟩
    case round =>
     clear HSC HM HG HSR;obtain ⟨k,hk,rfl,hsc,hmap,hgr⟩:=hrel;have c6:=hsc.cell6;have HSC:=hid hsc;have HM:=hid hmap;have HG:=hid hgr;clear hsc hmap hgr;by_cases hlt:k<20
     . have hix:=Zjc k hlt
       have hks:=ZfI k;have HTV:=hid (Zgo k hlt);generalize signsL.getD k []=x at hix hks HTV;go_wp2_with (at_mapUpdate;refine wpList_mapUpdate_own _ rfl _ _ _ 82 rfl 9 3 law9 underlying82 _ w.heap.size (3+k) _ rfl HM.out (by unfold maxLen;omega) _ _ _ rfl rfl (Zin x hks) _ [] (plainElem_int underlying3 (by decide)) ?_;intro w1 hm1 hg1;have HM1:Hid _:=hm1;have HG1:Hid _:=hg1;clear hm1 hg1);have hown1:w1.ownsMap prog 9 (plainElem prog 3) w.heap.size (3+k+1) ((vocD (Zbq.take (3+k))).put (.string x) (.lit (.int .i64 3))):=HM1.out;rw [<-Zd3,<-HTV.out] at hown1
       go_roundw
       case rel=>exact ⟨k+1,by omega,by go_num,HSC.out.row HG1.out (by omega),hown1,ZfJ HG.out HG1.out (sqR _)⟩
       case measure=>simp [intOf];omega
     . obtain rfl:k=20:=by omega
       go_wp2;go_end0;exact ⟨rfl,w.heap.size,HSC.out,HM.out,Nat.le_refl _,HG.out⟩
theorem ScM.cells {w:World} {C:Nat} {s:ByteArray} {i:Nat} {line d m:Int} {V:Option Nat} (h:ScM w C s i line d m V) :
 w.cell? ⟨C,3,none⟩=some (.int .u32 d)/\w.cell? ⟨C,4,none⟩=some (.int .i32 m):=by
 unfold ScM at h
 refine ⟨?_,?_⟩ <;> (rw [cell_of_row w C _ _ _ (0,0) h];rfl)
theorem ScM.done_ {w:World} {C:Nat} {s:ByteArray} {i:Nat} {line d m:Int} {V:Option Nat} (h:ScM w C s i line d m V) (d':Int):ScM (w.setCell ⟨C,3,none⟩ (.int .u32 d')) C s i line d' m V :=
 (heap_setCell_same w C 3 _ _ _ h).trans rfl
theorem ScM.lock_ {w:World} {C:Nat} {s:ByteArray} {i:Nat} {line d m:Int} {V:Option Nat} (h:ScM w C s i line d m V) (m':Int):ScM (w.setCell ⟨C,4,none⟩ (.int .i32 m')) C s i line d m' V :=
 (heap_setCell_same w C 4 _ _ _ h).trans rfl
theorem ScM.drew {w:World} {C:Nat} {s:ByteArray} {i:Nat} {line d m:Int} {V:Option Nat} (h:ScM w C s i line d m V):ScM w.drew C s i line d m V:=h
def Zb7 (w:World) (bm:Nat):Prop:=w.ownsMap prog 9 (plainElem (H:=Unit) prog 3) bm 23 (vocD Zbq)
def ZaE (w:World):Prop:=Zgn w/\Zim w
theorem ZaS {w w':World} {C:Nat} (h:ZaE w) (g:w.grownBy w' (some C)) (h0:C≠1) (h2:C≠2):ZaE w':=by
 refine ⟨λk hk=>?_,λk hk=>?_⟩
 . have hl:=World.block_lt_of_cell? w ⟨1,k,none⟩ (h.1 k hk)
   exact (sqK (a:=⟨1,k,none⟩) (g.block _ hl (by simp;exact Ne.symm h0))).trans (h.1 k hk)
 . have hl:=World.block_lt_of_cell? w ⟨2,k,none⟩ (h.2 k hk)
   exact (sqK (a:=⟨2,k,none⟩) (g.block _ hl (by simp;exact Ne.symm h2))).trans (h.2 k hk)
theorem Zje (C:Nat) (s:ByteArray) (i:Nat) (line:Int) (w:World) (h:ScM w C s i line 0 0 none) (hT:ZaE w) (hC0:C≠1) (hC2:C≠2) :
 Calls prog 122 #[.pointer (some ⟨C,3,none⟩),.func (.func 110) #[.pointer (some ⟨C,3,none⟩)] #[]] w λe w'=>e=.returned (.tuple #[])/\∃ bm,ScM w' C s i line 1 0 (some bm)/\Zb7 w' bm/\w.heap.size<=bm/\w.grownBy w' (some C):=by
 obtain ⟨c3,c4⟩:=h.cells;have f4:=h.frozen 4;have f3:=h.frozen 3;have h1:ScM (w.setCell ⟨C,4,none⟩ (.int .i32 1)) C s i line 0 1 none:=h.lock_ 1;have g1:w.grownBy (w.setCell ⟨C,4,none⟩ (.int .i32 1)) (some C):=Zan _ _ _ _;have t1:=ZaS hT g1 hC0 hC2;have hl:=run_call_load (P:=prog) func128 (by kernel_rfl) (by kernel_rfl) (by kernel_rfl) .u32 (by kernel_rfl) (w:=w.setCell ⟨C,4,none⟩ (.int .i32 1)) (a:=⟨C,3,none⟩) (x:=0) h1.cells.1;have hnot:∀ (x:Bool) (w:World),(Op.unary .not (.bool x)).run prog w=.ok (.bool (!x)) w:=λ_ _=>rfl;have H1:=hid h1;have G1:=hid g1;have T1:=hid t1;clear h h1 g1 t1 hT
 go_enter_defers func122,ntmps122
 go_wp2_with (first
  | (go_at_call 129;refine (lock_free ⟨C,4,none⟩ _ (by go_simp) (by go_simp)).mono ?_;rintro e w' ⟨rfl,rfl⟩)
  | (go_at_call 121;go_in)
  | (go_at_call 110;refine (Zjd C s i line 0 1 _ H1.out T1.out.1 T1.out.2 hC0 hC2).mono ?_;rintro e w1 ⟨rfl,bm,hsc,hmap,hbm,hgr⟩))
 have d1:ScM (w1.drew.setCell ⟨C,3,none⟩ (.int .u32 1)) C s i line 1 1 (some bm):=hsc.drew.done_ 1;have d2:ScM ((w1.drew.setCell ⟨C,3,none⟩ (.int .u32 1)).setCell ⟨C,4,none⟩ (.int .i32 0)) C s i line 1 0 (some bm):=d1.lock_ 0;have hCbm:bm≠C:=(by have:=H1.out.lt;omega);have m2:Zb7 ((w1.drew.setCell ⟨C,3,none⟩ (.int .u32 1)).setCell ⟨C,4,none⟩ (.int .i32 0)) bm:=((hmap.drew).setCell (a:=⟨C,3,none⟩) hCbm _).setCell (a:=⟨C,4,none⟩) hCbm _;have g2:w.grownBy ((w1.drew.setCell ⟨C,3,none⟩ (.int .u32 1)).setCell ⟨C,4,none⟩ (.int .i32 0)) (some C):=Zf G1.out (Zf (ZeB hgr) (Zf (Zan _ _ _ _) (Zan _ _ _ _)));have hbm':w.heap.size<=bm:=(by simpa using hbm);refine leaves_cons (f:=131) (args:=#[.pointer (some ⟨C,3,none⟩),.bool true]) (by simp) (by simp [go_sem]) ?_;refine (Zeb ⟨C,3,none⟩ (.int .u32 0) .returning _ hsc.cells.1 (hsc.frozen 3)).mono ?_;rintro e u' w'' ⟨rfl,rfl,rfl⟩;refine leaves_cons (f:=130) (args:=#[.pointer (some ⟨C,4,none⟩)]) (by simp [settle]) (by simp [go_sem]) ?_;refine (unlock_deferred ⟨C,4,none⟩ _ _ d1.cells.2 (d1.frozen 4)).mono ?_;rintro e u' w'' ⟨rfl,rfl,rfl⟩;simp only [Leaves,settle,results,results122];refine ⟨.tuple #[],?_,rfl,bm,d2,m2,hbm',g2⟩
 first | rfl | simp
theorem Zjf (C:Nat) (s:ByteArray) (i:Nat) (line:Int) (w:World) (h:ScM w C s i line 0 0 none) (hT:ZaE w) (hC0:C≠1) (hC2:C≠2) :
 Calls prog 109 #[.pointer (some ⟨C,3,none⟩),.func (.func 110) #[.pointer (some ⟨C,3,none⟩)] #[]] w λe w'=>e=.returned (.tuple #[])/\∃ bm,ScM w' C s i line 1 0 (some bm)/\Zb7 w' bm/\w.heap.size<=bm/\w.grownBy w' (some C):=by
 have hl:=run_call_load (P:=prog) func128 (by kernel_rfl) (by kernel_rfl) (by kernel_rfl) .u32 (by kernel_rfl) h.cells.1;have hnot:∀ (x:Bool) (w:World),(Op.unary .not (.bool x)).run prog w=.ok (.bool (!x)) w:=λ_ _=>rfl;have H:=hid h;have T:=hid hT;clear h hT;go_enter func109,ntmps109
 go_wp2_with (first
  | (go_at_call 122;refine (Zje C s i line _ H.out T.out hC0 hC2).mono ?_;rintro e w1 ⟨rfl,bm,hsc,hmap,hbm,hgr⟩)
  | (go_at_call 121;go_in))
 go_end0;exact ⟨rfl,bm,hsc,hmap,hbm,hgr⟩
def vocB (x:ByteArray):Bool:=Zbq.contains x.data.toList
def vocK (x:ByteArray):Int:=if vocB x=true then 3 else 0
theorem ZeD {w:World} {bm:Nat} (h:Zb7 w bm) (x:ByteArray) (hx:x.size<=maxLen) :
 Sem.run prog (Instr.lookup 82 (.map (some bm)) (.string x) true) w=.ok (.tuple #[.int .i64 (vocK x),.bool (vocB x)]) w:=by
 have hk:=keyOf_string_mk (s:=x) underlying9 hx;have hv:=Zg4 23 Zbq (by decide) x.data.toList;obtain ⟨v,ps,hrun,hv'⟩:=World.ownsMap.look_ok (t:=82) (e:=3) h law9 underlying82 (ZkB w) (zd:=.lit (.int .i64 0)) (zp:=[]) (plainElem_int underlying3 (by decide)) hk;rw [hv.2] at hv';obtain ⟨c,rfl,hc,_⟩:=plainElem_int_inv underlying3 hv'
 have e:c=vocK x:=by
  have:=congrArg Prod.fst hc;simp only [DataW.lit.injEq,Lit.int.injEq,true_and] at this;rw [<-this];rfl
 rw [hv.1] at hrun;rw [e] at hrun;exact hrun
def ZE (w:World) (C:Nat) (s:ByteArray) (i:Nat) (line:Int):Prop:=ScM w C s i line 0 0 none\/∃ bm,bm≠C/\ScM w C s i line 1 0 (some bm)/\Zb7 w bm
theorem Zc8 (C:Nat) (s:ByteArray) (i:Nat) (line:Int) (x:ByteArray) (w:World) (hx:x.size<=maxLen) (h:ZE w C s i line) (hT:ZaE w) (hC0:C≠1) (hC2:C≠2) :
 Calls prog 97 #[.pointer (some ⟨C,3,none⟩),.string x] w λe w'=>e=.returned (.tuple #[.int .i64 (vocK x),.bool (vocB x)])/\ZE w' C s i line/\w.grownBy w' (some C):=by
 have hmf:∀ (fn:Fn) (first cap:Array Value) (w:World),(Instr.makeFunc fn first cap).run prog w=.ok (.func fn first cap) w:=λ_ _ _ _=>rfl
 rcases h with h | ⟨bm,hne,h,hm⟩
 . have H:=hid h
   have T:=hid hT;have hlt:=h.lt;clear h hT;go_enter func97,ntmps97;go_wp2_with fail;refine (Zjf C s i line _ H.out T.out hC0 hC2).mono ?_;rintro e w1 ⟨rfl,bm,hsc,hmap,hbm,hgr⟩;have c6:=hsc.cell6;have hlk:=ZeD hmap x hx;have HS:=hid hsc;have HM:=hid hmap;have HG:=hid hgr;clear hsc hmap hgr;go_wp2
   go_ret2
   exact ⟨rfl,.inr ⟨bm,by omega,HS.out,HM.out⟩,HG.out⟩
 . have c3:=h.cells.1
   have c6:=h.cell6;have hlk:=ZeD hm x hx;have HS:=hid h;have HM:=hid hm;clear h hm hT;go_enter func97,ntmps97;go_wp2_with (go_at_call 109;go_must (refine (Zka ⟨C,3,none⟩ 1 (by decide) _ _ c3).mono ?_;rintro e w' ⟨rfl,rfl⟩))
   go_ret2
   exact ⟨rfl,.inr ⟨bm,hne,HS.out,HM.out⟩,World.grownBy.refl _ _⟩
theorem Zio {w:World} (h:Zgn w):Zb0 w:=⟨h 0 (by omega),h 1 (by omega),h 2 (by omega)⟩
theorem ZfK (x:ByteArray) (w:World) (hx:x.size<=maxLen) (hk:Zb0 w) :
 Calls prog 98 #[.string x] w λe w'=>(∃ k ok,e=.returned (.tuple #[.int .i64 k,.bool ok])/\((atomB x=true/\k=0/\ok=true)\/(atomB x=false/\varB x=true/\k=1/\ok=true)\/(atomB x=false/\varB x=false/\k=0/\ok=false)))/\w'=w:=by
 have HK:=hid hk;clear hk
 have ha:atomB x=true\/atomB x=false:=by cases atomB x <;> simp
 rcases ha with ha | ha
 . go_enter func98,ntmps98
   go_wp2_with (go_at_call 45;go_must (refine (Z6 _ _ hx HK.out).mono ?_;rintro e w' ⟨rfl,rfl⟩))
   go_ret2
   exact ⟨⟨0,true,rfl,.inl ⟨ha,rfl,rfl⟩⟩,rfl⟩
 . have hv:varB x=true\/varB x=false:=by cases varB x <;> simp
   rcases hv with hv | hv
   . go_enter func98,ntmps98
     go_wp2_with (first
      | (go_at_call 45;go_must (refine (Z6 _ _ hx HK.out).mono ?_;rintro e w' ⟨rfl,rfl⟩))
      | (go_at_call 111;go_must (refine (ZbS _ _ hx).mono ?_;rintro e w' ⟨rfl,rfl⟩)))
     go_ret2
     exact ⟨⟨1,true,rfl,.inr (.inl ⟨ha,hv,rfl,rfl⟩)⟩,rfl⟩
   . go_enter func98,ntmps98
     go_wp2_with (first
      | (go_at_call 45;go_must (refine (Z6 _ _ hx HK.out).mono ?_;rintro e w' ⟨rfl,rfl⟩))
      | (go_at_call 111;go_must (refine (ZbS _ _ hx).mono ?_;rintro e w' ⟨rfl,rfl⟩)))
     go_ret2
     exact ⟨⟨0,false,rfl,.inr (.inr ⟨ha,hv,rfl,rfl⟩)⟩,rfl⟩
theorem Zkc {t:List UInt8} (h:Zbq.contains t=false):keyB (Zad t)=false/\t≠[95]:=by
 have hm:t ∉ Zbq:=by
  intro hm;rw [List.contains_iff_mem.2 hm] at h;cases h
 refine ⟨?_,λe=>hm (by rw [e];decide)⟩;have e:(Zad t).toList=t:=(by rw [Lib.toList_data];rfl);have n1:(t == [99,97,115,101])=false:=(by rw [beq_eq_false_iff_ne];exact λe=>hm (by rw [e];decide));have n2:(t == [111,102])=false:=(by rw [beq_eq_false_iff_ne];exact λe=>hm (by rw [e];decide));have n3:(t == [101,110,100])=false:=(by rw [beq_eq_false_iff_ne];exact λe=>hm (by rw [e];decide));rw [keyB,e,n1,n2,n3];rfl
theorem Zgq {t:List UInt8} (h:vocB (Zad t)=false):nameKindM t=if atomB (Zad t)=true then some 0 else if varB (Zad t)=true then some 1 else none:=by
 have hk:=Zkc (t:=t) h;unfold nameKindM
 split
 . rfl
 . split
   . rfl
   . rw [if_neg (by rw [hk.1];simp [hk.2])]
theorem voc_cases {t:List UInt8} (h:Zbq.contains t=true) (hs:t.all ZD=true):t = [99,97,115,101]\/t = [111,102]\/t = [101,110,100]\/t = [95]:=by
 have hm:=List.contains_iff_mem.1 h;simp only [Zbq,keysL,signsL,List.cons_append,List.nil_append,List.mem_cons,List.not_mem_nil,or_false] at hm
 rcases hm with rfl | rfl | rfl | rfl | rfl | rfl | rfl | rfl | rfl | rfl | rfl | rfl | rfl | rfl | rfl | rfl | rfl | rfl | rfl | rfl | rfl | rfl | rfl
 . exact .inl rfl
 . exact .inr (.inl rfl)
 . exact .inr (.inr (.inl rfl))
 . exact .inr (.inr (.inr rfl))
 all_goals (exfalso;revert hs;decide)
theorem ZfL {t:List UInt8} (h:vocB (Zad t)=true) (hs:t.all ZD=true):nameKindM t=some 3:=by
 have key:∀ t:List UInt8,(t == [99,97,115,101] || t == [111,102] || t == [101,110,100])=true->varB (Zad t)=false->nameKindM t=some 3:=by
  intro t h1 h2;have e:(Zad t).toList=t:=(by rw [Lib.toList_data];rfl);have hk:keyB (Zad t)=true:=(by rw [keyB,e];exact h1);have ha:atomB (Zad t)=false:=(by rw [atomB,hk];simp);unfold nameKindM;rw [if_neg (by rw [ha];decide),if_neg (by rw [h2];decide),if_pos (.inl hk)]
 rcases voc_cases h hs with rfl | rfl | rfl | rfl
 . exact key _ (by decide) (by decide)
 . exact key _ (by decide) (by decide)
 . exact key _ (by decide) (by decide)
 . have ha:atomB (Zad [95])=false:=by
    have:inB (Zfh (Zad [95])) 97 122=false:=(by decide);rw [atomB,this];simp
   have hv:varB (Zad [95])=false:=(by decide);unfold nameKindM;rw [if_neg (by rw [ha];decide),if_neg (by rw [hv];decide),if_pos (.inr rfl)]
theorem Zkd (p:UInt8->Bool) (l:List UInt8) (i:Nat):(cut l i (runEnd p l i)).all p=true:=by
 unfold cut runEnd;rw [Nat.add_sub_cancel_left];have e:(l.drop i).take ((l.drop i).takeWhile p).length=(l.drop i).takeWhile p:=(List.prefix_iff_eq_take.1 (List.takeWhile_prefix p (l:=l.drop i))).symm;rw [e];exact List.all_takeWhile
theorem ZE.sc {w:World} {C:Nat} {s:ByteArray} {i:Nat} {line:Int} (h:ZE w C s i line) :
 ∃ d V,Sc w C s i line d V/\∀ (w':World) (k:Nat) (ln:Int),Sc w' C s k ln d V->w.grownBy w' (some C)->ZE w' C s k ln:=by
 rcases h with h | ⟨bm,hne,h,hm⟩
 . exact ⟨0,none,h,λw' k ln h' _=>.inl h'⟩
 . exact ⟨1,some bm,h,λw' k ln h' hg=>.inr ⟨bm,hne,h',World.ownsMap.kept hm hg (by simp;exact hne)⟩⟩
theorem ZE.sc' {w:World} {C:Nat} {s:ByteArray} {i:Nat} {line:Int} (h:ZE w C s i line):∃ d V,Sc w C s i line d V:=by
 rcases h with h | ⟨bm,_,h,_⟩
 . exact ⟨0,none,h⟩
 . exact ⟨1,some bm,h⟩
theorem ZE.alloc {w:World} {C:Nat} {s:ByteArray} {i:Nat} {line:Int} (h:ZE w C s i line) (o:Obj):ZE (w.alloc o) C s i line:=by
 obtain ⟨d,V,hs,hk⟩:=h.sc;exact hk _ _ _ (hs.below ((sqN _ _))) (World.grownBy_alloc _ _ _)
theorem Zb8 {l:List UInt8} {i k:Nat} {kd:Int} {line:Int} (hd:digB (l.getD i 0)=false) (hn:ZD (l.getD i 0)=true) (h:runEnd ZD l i=k) (hk:nameKindM (cut l i k)=some kd) :
 Zaf l i line=some (⟨kd,cut l i k,0,line⟩,k):=by
 simp only [Zaf];rw [if_neg (by rw [hd];decide),if_pos hn,h,hk];rfl
theorem Zgr {l:List UInt8} {i k:Nat} {line:Int} (hd:digB (l.getD i 0)=false) (hn:ZD (l.getD i 0)=true) (h:runEnd ZD l i=k) (hk:nameKindM (cut l i k)=none):Zaf l i line=none:=by
 simp only [Zaf];rw [if_neg (by rw [hd];decide),if_pos hn,h,hk];rfl
theorem ZE.store4 {w:World} {C:Nat} {s:ByteArray} {i:Nat} {line:Int} (h:ZE w C s i line) {b:Nat} (hb:C≠b) (hlt:∀ bm,Zb7 w bm->bm≠b) (x0 x1 x2 x3:Value):ZE ((((w.setCell ⟨b,0,none⟩ x0).setCell ⟨b,1,none⟩ x1).setCell ⟨b,2,none⟩ x2).setCell ⟨b,3,none⟩ x3) C s i line:=by
 rcases h with h | ⟨bm,hne,h,hm⟩
 . exact .inl (Sc.store4 h hb x0 x1 x2 x3)
 . have hbb:=hlt bm hm
   exact .inr ⟨bm,hne,Sc.store4 h hb x0 x1 x2 x3,(((World.ownsMap.setCell hm (a:=⟨b,0,none⟩) hbb x0).setCell (a:=⟨b,1,none⟩) hbb x1).setCell (a:=⟨b,2,none⟩) hbb x2).setCell (a:=⟨b,3,none⟩) hbb x3⟩
theorem Zao {w:World} {bm b:Nat} {cs:Array Value} {t:TypeId} {fz:Nat × Nat} (h:Zb7 w bm) (hb:w.heap[b]?=some (.cells cs t fz)):bm≠b:=by
 rintro rfl;obtain ⟨es,clock,hm,_⟩:=h;rw [hb] at hm
 cases hm
theorem Zjg (C:Nat) (s:ByteArray) (i:Nat) (line:Int) (w:World) (hs:s.size<=4000) (hi:i<s.size) (hd:digB (s.data.toList.getD i 0)=false) (hn:ZD (s.data.toList.getD i 0)=true) (h:ZE w C s i line) (hT:ZaE w) (hC0:C≠1) (hC2:C≠2) :
 Calls prog 68 #[.pointer (some ⟨C,0,none⟩)] w λe w'=>∃ tv ok,e=.returned (.tuple #[tv,.bool ok])/\Zg3 s.data.toList i line tv ok (runEnd ZD s.data.toList i)/\ZE w' C s (runEnd ZD s.data.toList i) line/\w.grownBy w' (some C):=by
 have HD:=hid hd;have HN:=hid hn;obtain ⟨d,V,hsc,hkeep⟩:=(h.alloc (.cells #[.int .i64 0,.string ⟨#[]⟩,.int .i64 0,.int .i64 0] 43)).sc;have hC:C<w.heap.size:=(by obtain ⟨_,_,h'⟩:=h.sc';exact h'.lt);have HLL:Hid (s.data.toList.length=s.size):=(by show s.data.toList.length=s.size;simp);have hle:runEnd ZD s.data.toList i<=s.size:=(by have:=Zbl ZD s.data.toList i (by rw [HLL.out];omega);rw [HLL.out] at this;exact this);have hge:=ZbE ZD s.data.toList i;have hal:=Zkd ZD s.data.toList i;have T0:Hid (ZaE (w.alloc (.cells #[.int .i64 0,.string ⟨#[]⟩,.int .i64 0,.int .i64 0] 43))):=ZaS hT (World.grownBy_alloc _ _ _) hC0 hC2;obtain ⟨k,hk⟩:∃ k,runEnd ZD s.data.toList i=k:=⟨_,rfl⟩;rw [hk] at hle hge hal;rw [hk];have HK:=hid hk;have HAL:=hid hal;have H0:=hid hsc;have HKP:=hid hkeep;clear hd hn h hT hsc hkeep hal hk;have HEX:Hid (s.extract i k=Zad (cut s.data.toList i k)):=Zaw s i k;have hsz:(s.extract i k).size<=maxLen:=(by rw [ByteArray.size_extract];unfold maxLen;omega);go_enter func68,ntmps68;go_wp2_with fail;have htk:=Zil C s i line d V _ hs (by omega) H0.out;rw [HK.out] at htk;refine htk.mono ?_;rintro e w1 ⟨rfl,hsc1,hg1⟩;clear htk;have HV1:Hid (ZE w1 C s k line):=HKP.out w1 k line hsc1 hg1;have HG1:=hid hg1;have T1:Hid (ZaE w1):=ZaS T0.out hg1 hC0 hC2;clear hsc1 hg1 HKP H0;go_wp2_with fail;refine (Zc8 C s k line _ _ hsz HV1.out T1.out hC0 hC2).mono ?_;rintro e w2 ⟨rfl,hv2,hg2⟩;have HV2:=hid hv2;have HG2:Hid ((w.alloc (.cells #[.int .i64 0,.string ⟨#[]⟩,.int .i64 0,.int .i64 0] 43)).grownBy w2 (some C)):=Zf HG1.out hg2;have K2:Hid (Zb0 w2):=Zio (ZaS T1.out hg2 hC0 hC2).1;obtain ⟨d2,V2,hsc2⟩:=hv2.sc';have c2:=hsc2.cells.2.2.1;have hne:some w.heap.size≠some C:=(by simp;omega);have hblk:=HG2.out.block w.heap.size (by simp) hne;have hc2:∀ o,w2.cell? ⟨w.heap.size,o,none⟩=(w.alloc (.cells #[.int .i64 0,.string ⟨#[]⟩,.int .i64 0,.int .i64 0] 43)).cell? ⟨w.heap.size,o,none⟩:=λo=>sqK (a:=⟨w.heap.size,o,none⟩) hblk;have hf2:∀ o,w2.frozen? ⟨w.heap.size,o,none⟩=(w.alloc (.cells #[.int .i64 0,.string ⟨#[]⟩,.int .i64 0,.int .i64 0] 43)).frozen? ⟨w.heap.size,o,none⟩:=λo=>World.frozen?_of_block (a:=⟨w.heap.size,o,none⟩) hblk;have hz2:w.heap.size<w2.heap.size:=(by have:=HG2.out.size;simp at this;omega);have hCb:C≠w.heap.size:=(by omega);have HNV:Hid (∀ bm,Zb7 w2 bm->bm≠w.heap.size):=λbm hm=>Zao hm (hblk.trans (heap_alloc_new w _));have HGA:Hid (w.grownBy w2 (some C)):=Zf (World.grownBy_alloc _ _ _) HG2.out;clear hv2 hg2 hsc2 hblk hne HV1 HG1 T1 T0
 have hvb:vocB (s.extract i k)=true\/vocB (s.extract i k)=false:=by cases vocB (s.extract i k) <;> simp
 rcases hvb with hvb | hvb
 . have hvk:vocK (s.extract i k)=3:=by unfold vocK;rw [if_pos hvb]
   have HT:Hid (Zaf s.data.toList i line=some (⟨3,cut s.data.toList i k,0,line⟩,k)):=Zb8 HD.out HN.out HK.out (ZfL (by rw [<-HEX.out];exact hvb) HAL.out);go_wp2;refine bodyPost_ret (v:=.tuple #[.agg #[.int .i64 3,.string (s.extract i k),.int .i64 0,.int .i64 line],.bool true]) (by simp [results,results68,go_sem,hc2]) rfl ⟨_,_,rfl,.inl ⟨rfl,_,HT.out,by rw [HEX.out];rfl⟩,HV2.out.store4 hCb HNV.out _ _ _ _,ZU HGA.out (sqR _) _ _ _ _⟩
 . have hvk:vocK (s.extract i k)=0:=by unfold vocK;rw [if_neg (by rw [hvb];decide)]
   have HNK:Hid _:=Zgq (t:=cut s.data.toList i k) (by rw [<-HEX.out];exact hvb);go_wp2_with fail;refine (ZfK _ _ hsz K2.out).mono ?_;rintro e w3 ⟨⟨kd,ok,rfl,hcs⟩,rfl⟩
   rcases hcs with ⟨ha,rfl,rfl⟩ | ⟨ha,hv,rfl,rfl⟩ | ⟨ha,hv,rfl,rfl⟩
   . have HT:Hid (Zaf s.data.toList i line=some (⟨0,cut s.data.toList i k,0,line⟩,k)):=Zb8 HD.out HN.out HK.out (by rw [HNK.out,<-HEX.out,if_pos ha])
     go_wp2;refine bodyPost_ret (v:=.tuple #[.agg #[.int .i64 0,.string (s.extract i k),.int .i64 0,.int .i64 line],.bool true]) (by simp [results,results68,go_sem,hc2]) rfl ⟨_,_,rfl,.inl ⟨rfl,_,HT.out,by rw [HEX.out];rfl⟩,HV2.out.store4 hCb HNV.out _ _ _ _,ZU HGA.out (sqR _) _ _ _ _⟩
   . have HT:Hid (Zaf s.data.toList i line=some (⟨1,cut s.data.toList i k,0,line⟩,k)):=Zb8 HD.out HN.out HK.out (by rw [HNK.out,<-HEX.out,if_neg (by rw [ha];decide),if_pos hv])
     go_wp2;refine bodyPost_ret (v:=.tuple #[.agg #[.int .i64 1,.string (s.extract i k),.int .i64 0,.int .i64 line],.bool true]) (by simp [results,results68,go_sem,hc2]) rfl ⟨_,_,rfl,.inl ⟨rfl,_,HT.out,by rw [HEX.out];rfl⟩,HV2.out.store4 hCb HNV.out _ _ _ _,ZU HGA.out (sqR _) _ _ _ _⟩
   . have HT:Hid (Zaf s.data.toList i line=none):=Zgr HD.out HN.out HK.out (by rw [HNK.out,<-HEX.out,if_neg (by rw [ha];decide),if_neg (by rw [hv];decide)])
     go_wp2;refine bodyPost_ret (v:=.tuple #[.agg #[.int .i64 0,.string ⟨#[]⟩,.int .i64 0,.int .i64 0],.bool false]) (by simp [results,results68,go_sem,hc2]) rfl ⟨_,_,rfl,.inr ⟨rfl,HT.out,rfl⟩,HV2.out.store4 hCb HNV.out _ _ _ _,ZU HGA.out (sqR _) _ _ _ _⟩
def Zbz (w:World):Prop:=w.cell? ⟨0,0,none⟩=some (.int .i64 2)/\w.cell? ⟨0,1,none⟩=some (.int .i64 1)
theorem Zjh (w:World):Sem.run prog (Instr.index 132 (.agg #[.int .i64 2,.int .i64 1]) (.int .i64 0)) w=.ok (.int .i64 2) w:=by kernel_rfl
theorem Zji (w:World):Sem.run prog (Instr.index 132 (.agg #[.int .i64 2,.int .i64 1]) (.int .i64 1)) w=.ok (.int .i64 1) w:=by kernel_rfl
theorem Zhy {w w':World} {C:Nat} (h:Zbz w) (g:w.grownBy w' (some C)) (h0:C≠0):Zbz w':=by
 have hl:=World.block_lt_of_cell? w ⟨0,0,none⟩ h.1;have hb:=g.block _ hl (by simp;exact Ne.symm h0);exact ⟨(sqK (a:=⟨0,0,none⟩) hb).trans h.1,(sqK (a:=⟨0,1,none⟩) hb).trans h.2⟩
theorem Zg5 (l:List UInt8) (i k:Nat) (hk:i<k) (hl:i<l.length):(cut l i k).headD 0=l.getD i 0:=by
 unfold cut;rw [ZdT l i hl,show k - i=(k - i - 1)+1 by omega];rfl
theorem Zke {t:List UInt8} {n:Nat} (h:Zbq.contains t=true) (hl:t.length=n+2 - n) (hf:ZD (t.headD 0)=false):t = [45,62]\/t = [61,61]:=by
 have hl':t.length=2:=(by omega);have hm:=List.contains_iff_mem.1 h;simp only [Zbq,keysL,signsL,List.cons_append,List.nil_append,List.mem_cons,List.not_mem_nil,or_false] at hm
 rcases hm with rfl | rfl | rfl | rfl | rfl | rfl | rfl | rfl | rfl | rfl | rfl | rfl | rfl | rfl | rfl | rfl | rfl | rfl | rfl | rfl | rfl | rfl | rfl
 all_goals first | exact .inl rfl | exact .inr rfl | (exfalso;revert hl';decide) | (exfalso;revert hf;decide)
theorem Zkf {t:List UInt8} {n:Nat} (h:Zbq.contains t=true) (hl:t.length=n+1 - n) (hf:ZD (t.headD 0)=false):Zau.contains t=true:=by
 have hl':t.length=1:=(by omega);have hm:=List.contains_iff_mem.1 h;simp only [Zbq,keysL,signsL,List.cons_append,List.nil_append,List.mem_cons,List.not_mem_nil,or_false] at hm
 rcases hm with rfl | rfl | rfl | rfl | rfl | rfl | rfl | rfl | rfl | rfl | rfl | rfl | rfl | rfl | rfl | rfl | rfl | rfl | rfl | rfl | rfl | rfl | rfl
 all_goals first | decide | (exfalso;revert hl';decide) | (exfalso;revert hf;decide)
theorem Zkg {t:List UInt8} (h:Zbq.contains t=false):¬ (t = [45,62]\/t = [61,61]):=by
 rintro (rfl | rfl) <;> exact absurd h (by decide)
theorem Zkh {t:List UInt8} (h:Zbq.contains t=false):Zau.contains t=false:=by
 rw [Bool.eq_false_iff];intro hc;have hm:=List.contains_iff_mem.1 hc;simp only [Zau,List.mem_cons,List.not_mem_nil,or_false] at hm
 rcases hm with rfl | rfl | rfl | rfl | rfl | rfl | rfl | rfl | rfl | rfl | rfl | rfl | rfl | rfl | rfl | rfl | rfl
 all_goals exact absurd h (by decide)
theorem Zki {l:List UInt8} {i:Nat} {line:Int} (hd:digB (l.getD i 0)=false) (hn:ZD (l.getD i 0)=false) (h2:i+2<=l.length) (hc:cut l i (i+2) = [45,62]\/cut l i (i+2) = [61,61]) :
 Zaf l i line=some (⟨3,cut l i (i+2),0,line⟩,i+2):=by
 simp only [Zaf];rw [if_neg (by rw [hd];decide),if_neg (by rw [hn];decide),if_pos ⟨h2,hc⟩]
theorem Zkj {l:List UInt8} {i:Nat} {line:Int} (hd:digB (l.getD i 0)=false) (hn:ZD (l.getD i 0)=false) (h2:¬ (i+2<=l.length/\(cut l i (i+2) = [45,62]\/cut l i (i+2) = [61,61]))) (hc:Zau.contains (cut l i (i+1))=true) :
 Zaf l i line=some (⟨3,cut l i (i+1),0,line⟩,i+1):=by
 simp only [Zaf];rw [if_neg (by rw [hd];decide),if_neg (by rw [hn];decide),if_neg h2,if_pos hc]
theorem Zjj {l:List UInt8} {i:Nat} {line:Int} (hd:digB (l.getD i 0)=false) (hn:ZD (l.getD i 0)=false) (h2:¬ (i+2<=l.length/\(cut l i (i+2) = [45,62]\/cut l i (i+2) = [61,61]))) (hc:Zau.contains (cut l i (i+1))=false) :
 Zaf l i line=none:=by
 simp only [Zaf];rw [if_neg (by rw [hd];decide),if_neg (by rw [hn];decide),if_neg h2,if_neg (by rw [hc];decide)]
theorem Zjk (C:Nat) (s:ByteArray) (i:Nat) (line:Int) (w:World) (hs:s.size<=4000) (hi:i<s.size) (hd:digB (s.data.toList.getD i 0)=false) (hn:ZD (s.data.toList.getD i 0)=false) (h:ZE w C s i line) (hT:ZaE w) (hL:Zbz w) (hC0:C≠1) (hC2:C≠2) :
 Calls prog 69 #[.pointer (some ⟨C,0,none⟩)] w λe w'=>∃ tv ok k,e=.returned (.tuple #[tv,.bool ok])/\Zg3 s.data.toList i line tv ok k/\ZE w' C s k line/\i<=k/\k<=s.size/\w.grownBy w' (some C):=by
 have HD:=hid hd;have HN:=hid hn;have HV0:Hid (ZE (w.alloc (.cells #[.int .i64 0,.string ⟨#[]⟩,.int .i64 0,.int .i64 0] 43)) C s i line):=h.alloc _;have hC:C<w.heap.size:=(by obtain ⟨_,_,h'⟩:=h.sc';exact h'.lt);have hCb:C≠w.heap.size:=(by omega);have hCb':w.heap.size≠C:=(by omega);have HLL:Hid (s.data.toList.length=s.size):=(by show s.data.toList.length=s.size;simp);have T0:Hid (ZaE (w.alloc (.cells #[.int .i64 0,.string ⟨#[]⟩,.int .i64 0,.int .i64 0] 43))):=ZaS hT (World.grownBy_alloc _ _ _) hC0 hC2;have hl0:(w.alloc (.cells #[.int .i64 0,.string ⟨#[]⟩,.int .i64 0,.int .i64 0] 43)).cell? ⟨0,0,none⟩=some (.int .i64 2):=(World.cell?_alloc_past _ _ _ (World.block_lt_of_cell? w ⟨0,0,none⟩ hL.1)).trans hL.1;have hl1:(w.alloc (.cells #[.int .i64 0,.string ⟨#[]⟩,.int .i64 0,.int .i64 0] 43)).cell? ⟨0,1,none⟩=some (.int .i64 1):=(World.cell?_alloc_past _ _ _ (World.block_lt_of_cell? w ⟨0,1,none⟩ hL.2)).trans hL.2;clear hd hn h hT hL;go_enter func69,ntmps69;go_wp2;clear hl0 hl1
 go_loopw [10] (λjv wr=>∃ j:Nat,j<=2/\jv=.int .i64 j/\ZE wr C s i line/\(w.alloc (.cells #[.int .i64 0,.string ⟨#[]⟩,.int .i64 0,.int .i64 0] 43)).grownBy wr (some C)/\(1<=j->¬ (i+2<=s.data.toList.length/\(cut s.data.toList i (i+2) = [45,62]\/cut s.data.toList i (i+2) = [61,61])))/\(2<=j->Zau.contains (cut s.data.toList i (i+1))=false)) (λjv _=>2 - (intOf jv).toNat)
 case atStart=>exact ⟨0,by omega,rfl,HV0.out,World.grownBy.refl _ _,by omega,by omega⟩
 case round =>
  obtain ⟨j,hj,rfl,hv,hg,hf2,hf1⟩:=hrel;obtain ⟨d,V,hsc⟩:=hv.sc';obtain ⟨c0,c1,_,_,_,_,_⟩:=hsc.cells;have HV:=hid hv;have HG:=hid hg;have HF2:=hid hf2;have HF1:=hid hf1;clear hv hg hsc hf1 hf2
  rcases (by omega:j=0\/j=1\/j=2) with rfl | rfl | rfl
  . have r0:=Zjh
    by_cases h2:i+2<=s.size
    ·
     have HEX:Hid (s.extract i (i+2)=Zad (cut s.data.toList i (i+2))):=Zaw s i (i+2);have hsz:(s.extract i (i+2)).size<=maxLen:=(by rw [ByteArray.size_extract];unfold maxLen;omega);have hgt:¬ ((s.size:Int)<(i:Int)+2):=(by omega);go_wp2
     go_quiet (fail)
     go_wp2
     go_quiet (fail)
     go_wp2_with fail;generalize hW:wr.drewN _=wd
     have HVD:Hid (ZE wd C s i line):=by
      obtain ⟨d',V',hs',hk'⟩:=HV.out.sc;exact hk' _ _ _ (by rw [<-hW];exact hs') (by rw [<-hW];exact Zz _ _ _)
     have hgd:wr.grownBy wd (some C):=(by rw [<-hW];exact Zz _ _ _);have HGD:Hid ((w.alloc (.cells #[.int .i64 0,.string ⟨#[]⟩,.int .i64 0,.int .i64 0] 43)).grownBy wd (some C)):=Zf HG.out hgd;have TD:Hid (ZaE wd):=ZaS T0.out HGD.out hC0 hC2;clear hW hgd;refine (Zc8 C s i line _ _ hsz HVD.out TD.out hC0 hC2).mono ?_;rintro e w2 ⟨rfl,hv2,hg2⟩;have HV2:=hid hv2;have HG2:Hid ((w.alloc (.cells #[.int .i64 0,.string ⟨#[]⟩,.int .i64 0,.int .i64 0] 43)).grownBy w2 (some C)):=Zf HGD.out hg2;obtain ⟨d2,V2,hsc2⟩:=hv2.sc';obtain ⟨e0,e1,e2,_,_,_,_⟩:=hsc2.cells;have f1:=hsc2.frozen 1;have hne:some w.heap.size≠some C:=(by simp;omega);have hblk:=HG2.out.block w.heap.size (by simp) hne;have hc2:∀ o,w2.cell? ⟨w.heap.size,o,none⟩=(w.alloc (.cells #[.int .i64 0,.string ⟨#[]⟩,.int .i64 0,.int .i64 0] 43)).cell? ⟨w.heap.size,o,none⟩:=λo=>sqK (a:=⟨w.heap.size,o,none⟩) hblk;have hf2:∀ o,w2.frozen? ⟨w.heap.size,o,none⟩=(w.alloc (.cells #[.int .i64 0,.string ⟨#[]⟩,.int .i64 0,.int .i64 0] 43)).frozen? ⟨w.heap.size,o,none⟩:=λo=>World.frozen?_of_block (a:=⟨w.heap.size,o,none⟩) hblk;have hz2:w.heap.size<w2.heap.size:=(by have:=HG2.out.size;simp at this;omega);have HBLK:Hid (w2.heap[w.heap.size]?=some (.cells #[.int .i64 0,.string ⟨#[]⟩,.int .i64 0,.int .i64 0] 43 (0,0))):=hblk.trans (heap_alloc_new w _);have HGA:Hid (w.grownBy w2 (some C)):=Zf (World.grownBy_alloc _ _ _) HG2.out;have HSC2:=hid hsc2;clear hv2 hg2 hsc2 hblk hne c0 c1 HVD HGD TD HV HG
     have hvb:vocB (s.extract i (i+2))=true\/vocB (s.extract i (i+2))=false:=by cases vocB (s.extract i (i+2)) <;> simp
     rcases hvb with hvb | hvb
     . have hvk:vocK (s.extract i (i+2))=3:=by unfold vocK;rw [if_pos hvb]
       have HT:Hid (Zaf s.data.toList i line=some (⟨3,cut s.data.toList i (i+2),0,line⟩,i+2)):=Zki HD.out HN.out (by rw [HLL.out];omega) (Zke (by rw [HEX.out] at hvb;exact hvb) (Zc1 _ _ _ (by rw [HLL.out];omega)) (by rw [Zg5 _ _ _ (by omega) (by rw [HLL.out];omega)];exact HN.out));go_wp2
       have hv3:ZE (w2.setCell ⟨C,1,none⟩ (.int .i64 ((i:Int)+2))) C s (i+2) line:=by
        obtain ⟨d',V',hs',hk'⟩:=HV2.out.sc;exact hk' _ _ _ (hs'.atI _ (i+2) (by omega)) (Zan _ _ _ _)
       have hnv3:∀ bm,Zb7 (w2.setCell ⟨C,1,none⟩ (.int .i64 ((i:Int)+2))) bm->bm≠w.heap.size:=λbm hm=>Zao hm ((heap_setCell_other w2 ⟨C,1,none⟩ w.heap.size _ hCb').trans HBLK.out);exact bodyPost_ret (v:=.tuple #[.agg #[.int .i64 3,.string (s.extract i (i+2)),.int .i64 0,.int .i64 line],.bool true]) (by simp [results,results69,go_sem,hc2]) rfl ⟨_,_,i+2,rfl,.inl ⟨rfl,_,HT.out,by rw [HEX.out];rfl⟩,hv3.store4 hCb hnv3 _ _ _ _,by omega,by omega,ZU (Zf HGA.out (Zan _ _ _ _)) (sqR _) _ _ _ _⟩
     . have hvk:vocK (s.extract i (i+2))=0:=by unfold vocK;rw [if_neg (by rw [hvb];decide)]
       have HNO:Hid (¬ (i+2<=s.data.toList.length/\(cut s.data.toList i (i+2) = [45,62]\/cut s.data.toList i (i+2) = [61,61]))):=λh=>Zkg (by rw [HEX.out] at hvb;exact hvb) h.2;go_wp2
       go_roundw
       case rel=>exact ⟨1,by omega,rfl,HV2.out,HG2.out,λ_=>HNO.out,by omega⟩
       case measure=>simp [intOf]
    . have hgt:(s.size:Int)<(i:Int)+2:=by omega
      go_wp2
      go_quiet (fail)
      go_wp2
      go_roundw
      case rel=>exact ⟨1,by omega,rfl,by obtain ⟨d',V',hs',hk'⟩:=HV.out.sc;exact hk' _ _ _ hs' (Zz _ _ _),Zjb HG.out _,λ_ h=>h2 (by have:=h.1;rw [HLL.out] at this;exact this),by omega⟩
      case measure=>simp [intOf]
  . have r1:=Zji
    have HEX:Hid (s.extract i (i+1)=Zad (cut s.data.toList i (i+1))):=Zaw s i (i+1);have hsz:(s.extract i (i+1)).size<=maxLen:=(by rw [ByteArray.size_extract];unfold maxLen;omega);have hgt:¬ ((s.size:Int)<(i:Int)+1):=(by omega);go_wp2
    go_quiet (fail)
    go_wp2
    go_quiet (fail)
    go_wp2_with fail;generalize hW:wr.drewN _=wd
    have HVD:Hid (ZE wd C s i line):=by
     obtain ⟨d',V',hs',hk'⟩:=HV.out.sc;exact hk' _ _ _ (by rw [<-hW];exact hs') (by rw [<-hW];exact Zz _ _ _)
    have hgd:wr.grownBy wd (some C):=(by rw [<-hW];exact Zz _ _ _);have HGD:Hid ((w.alloc (.cells #[.int .i64 0,.string ⟨#[]⟩,.int .i64 0,.int .i64 0] 43)).grownBy wd (some C)):=Zf HG.out hgd;have TD:Hid (ZaE wd):=ZaS T0.out HGD.out hC0 hC2;clear hW hgd;refine (Zc8 C s i line _ _ hsz HVD.out TD.out hC0 hC2).mono ?_;rintro e w2 ⟨rfl,hv2,hg2⟩;have HV2:=hid hv2;have HG2:Hid ((w.alloc (.cells #[.int .i64 0,.string ⟨#[]⟩,.int .i64 0,.int .i64 0] 43)).grownBy w2 (some C)):=Zf HGD.out hg2;obtain ⟨d2,V2,hsc2⟩:=hv2.sc';obtain ⟨e0,e1,e2,_,_,_,_⟩:=hsc2.cells;have f1:=hsc2.frozen 1;have hne:some w.heap.size≠some C:=(by simp;omega);have hblk:=HG2.out.block w.heap.size (by simp) hne;have hc2:∀ o,w2.cell? ⟨w.heap.size,o,none⟩=(w.alloc (.cells #[.int .i64 0,.string ⟨#[]⟩,.int .i64 0,.int .i64 0] 43)).cell? ⟨w.heap.size,o,none⟩:=λo=>sqK (a:=⟨w.heap.size,o,none⟩) hblk;have hf2:∀ o,w2.frozen? ⟨w.heap.size,o,none⟩=(w.alloc (.cells #[.int .i64 0,.string ⟨#[]⟩,.int .i64 0,.int .i64 0] 43)).frozen? ⟨w.heap.size,o,none⟩:=λo=>World.frozen?_of_block (a:=⟨w.heap.size,o,none⟩) hblk;have hz2:w.heap.size<w2.heap.size:=(by have:=HG2.out.size;simp at this;omega);have HBLK:Hid (w2.heap[w.heap.size]?=some (.cells #[.int .i64 0,.string ⟨#[]⟩,.int .i64 0,.int .i64 0] 43 (0,0))):=hblk.trans (heap_alloc_new w _);have HGA:Hid (w.grownBy w2 (some C)):=Zf (World.grownBy_alloc _ _ _) HG2.out;have HSC2:=hid hsc2;clear hv2 hg2 hsc2 hblk hne c0 c1 HVD HGD TD HV HG
    have hvb:vocB (s.extract i (i+1))=true\/vocB (s.extract i (i+1))=false:=by cases vocB (s.extract i (i+1)) <;> simp
    rcases hvb with hvb | hvb
    . have hvk:vocK (s.extract i (i+1))=3:=by unfold vocK;rw [if_pos hvb]
      have HT:Hid (Zaf s.data.toList i line=some (⟨3,cut s.data.toList i (i+1),0,line⟩,i+1)):=Zkj HD.out HN.out (HF2.out (by omega)) (Zkf (by rw [HEX.out] at hvb;exact hvb) (Zc1 _ _ _ (by rw [HLL.out];omega)) (by rw [Zg5 _ _ _ (by omega) (by rw [HLL.out];omega)];exact HN.out));go_wp2
      have hv3:ZE (w2.setCell ⟨C,1,none⟩ (.int .i64 ((i:Int)+1))) C s (i+1) line:=by
       obtain ⟨d',V',hs',hk'⟩:=HV2.out.sc;exact hk' _ _ _ (hs'.atI _ (i+1) (by omega)) (Zan _ _ _ _)
      have hnv3:∀ bm,Zb7 (w2.setCell ⟨C,1,none⟩ (.int .i64 ((i:Int)+1))) bm->bm≠w.heap.size:=λbm hm=>Zao hm ((heap_setCell_other w2 ⟨C,1,none⟩ w.heap.size _ hCb').trans HBLK.out);exact bodyPost_ret (v:=.tuple #[.agg #[.int .i64 3,.string (s.extract i (i+1)),.int .i64 0,.int .i64 line],.bool true]) (by simp [results,results69,go_sem,hc2]) rfl ⟨_,_,i+1,rfl,.inl ⟨rfl,_,HT.out,by rw [HEX.out];rfl⟩,hv3.store4 hCb hnv3 _ _ _ _,by omega,by omega,ZU (Zf HGA.out (Zan _ _ _ _)) (sqR _) _ _ _ _⟩
    . have hvk:vocK (s.extract i (i+1))=0:=by unfold vocK;rw [if_neg (by rw [hvb];decide)]
      have HNO:Hid (Zau.contains (cut s.data.toList i (i+1))=false):=Zkh (by rw [HEX.out] at hvb;exact hvb);go_wp2
      go_roundw
      case rel=>exact ⟨2,by omega,rfl,HV2.out,HG2.out,λ_=>HF2.out (by omega),λ_=>HNO.out⟩
      case measure=>simp [intOf]
  . have hne:some w.heap.size≠some C:=by simp;omega
    have hblk:=HG.out.block w.heap.size (by simp) hne;have hc2:∀ o,wr.cell? ⟨w.heap.size,o,none⟩=(w.alloc (.cells #[.int .i64 0,.string ⟨#[]⟩,.int .i64 0,.int .i64 0] 43)).cell? ⟨w.heap.size,o,none⟩:=λo=>sqK (a:=⟨w.heap.size,o,none⟩) hblk;have hf2:∀ o,wr.frozen? ⟨w.heap.size,o,none⟩=(w.alloc (.cells #[.int .i64 0,.string ⟨#[]⟩,.int .i64 0,.int .i64 0] 43)).frozen? ⟨w.heap.size,o,none⟩:=λo=>World.frozen?_of_block (a:=⟨w.heap.size,o,none⟩) hblk;have hz2:w.heap.size<wr.heap.size:=(by have:=HG.out.size;simp at this;omega);have HNV:Hid (∀ bm,Zb7 wr bm->bm≠w.heap.size):=λbm hm=>Zao hm (hblk.trans (heap_alloc_new w _));have HGA:Hid (w.grownBy wr (some C)):=Zf (World.grownBy_alloc _ _ _) HG.out;have HT:Hid (Zaf s.data.toList i line=none):=Zjj HD.out HN.out (HF2.out (by omega)) (HF1.out (by omega));clear hblk hne c0 c1;go_wp2;exact bodyPost_ret (v:=.tuple #[.agg #[.int .i64 0,.string ⟨#[]⟩,.int .i64 0,.int .i64 0],.bool false]) (by simp [results,results69,go_sem,hc2]) rfl ⟨_,_,i,rfl,.inr ⟨rfl,HT.out,rfl⟩,HV.out.store4 hCb HNV.out _ _ _ _,Nat.le_refl _,by omega,ZU HGA.out (sqR _) _ _ _ _⟩
theorem ZE.dN {w:World} {C:Nat} {s:ByteArray} {i:Nat} {line:Int} (h:ZE w C s i line) (n:Nat):ZE (w.drewN n) C s i line:=by
 obtain ⟨d',V',hs',hk'⟩:=h.sc;exact hk' _ _ _ hs' (Zz _ _ _)
theorem Zjl (C:Nat) (s:ByteArray) (i:Nat) (line:Int) (w:World) (hs:s.size<=4000) (hi:i<s.size) (h:ZE w C s i line) (hT:ZaE w) (hL:Zbz w) (hC0:C≠1) (hC1:C≠0) (hC2:C≠2) :
 Calls prog 39 #[.pointer (some ⟨C,0,none⟩)] w λe w'=>∃ tv ok k,e=.returned (.tuple #[tv,.bool ok])/\Zg3 s.data.toList i line tv ok k/\ZE w' C s k line/\i<=k/\k<=s.size/\w.grownBy w' (some C):=by
 have HV0:Hid (ZE (w.alloc (.cells #[.int .i64 0,.string ⟨#[]⟩,.int .i64 0,.int .i64 0] 43)) C s i line):=h.alloc _;have hC:C<w.heap.size:=(by obtain ⟨_,_,h'⟩:=h.sc';exact h'.lt);have hCb:C≠w.heap.size:=(by omega);have HLL:Hid (s.data.toList.length=s.size):=(by show s.data.toList.length=s.size;simp);have T0:Hid (ZaE (w.alloc (.cells #[.int .i64 0,.string ⟨#[]⟩,.int .i64 0,.int .i64 0] 43))):=ZaS hT (World.grownBy_alloc _ _ _) hC0 hC2;have L0:Hid (Zbz (w.alloc (.cells #[.int .i64 0,.string ⟨#[]⟩,.int .i64 0,.int .i64 0] 43))):=Zhy hL (World.grownBy_alloc _ _ _) hC1;have HG0:Hid (s.data.toList.getD i 0=s[i]):=Zae s i hi;have hb:=Zas s i hi;obtain ⟨d,V,hsc,hkp⟩:=HV0.out.sc;have HKP:=hid hkp;have HSC:=hid hsc;obtain ⟨c0,c1,_,_,_,_,_⟩:=hsc.cells;clear h hT hL hsc hkp
 cases hd:inB (s[i].toNat:Int) 48 57 with
 | true =>
  have HDG:Hid (digB (s.data.toList.getD i 0)=true):=(by show digB (s.data.toList.getD i 0)=true;rw [HG0.out];exact hd);go_enter func39,ntmps39;go_wp2
  go_quiet (fail)
  go_wp2_with (go_at_call 65;go_must (refine (ZaZ _ _ hb.1 hb.2).mono ?_;rintro e w' ⟨rfl,rfl⟩));have hcl:=Zhw C s i line d V ((w.alloc (.cells #[.int .i64 0,.string ⟨#[]⟩,.int .i64 0,.int .i64 0] 43)).drewN nq) hs hi HDG.out HSC.out;refine hcl.mono ?_;rintro e w1 ⟨tv,ok,rfl,hres,hsc1,hg1⟩;have hk1:i<=runEnd digB s.data.toList i:=ZbE _ _ _;have hk2:runEnd digB s.data.toList i<=s.size:=(by have:=Zbl digB s.data.toList i (by rw [HLL.out];omega);rw [HLL.out] at this;exact this);have hv1:ZE w1 C s (runEnd digB s.data.toList i) line:=HKP.out _ _ _ hsc1 (Zf (Zz _ nq _) hg1);generalize runEnd digB s.data.toList i=k at *;clear hcl hsc1 c0 c1 HKP HSC;have hne:some w.heap.size≠some C:=(by simp;omega);have hblk:=hg1.block w.heap.size (by simp) hne;have hc2:∀ o,w1.cell? ⟨w.heap.size,o,none⟩=(w.alloc (.cells #[.int .i64 0,.string ⟨#[]⟩,.int .i64 0,.int .i64 0] 43)).cell? ⟨w.heap.size,o,none⟩:=λo=>sqK (a:=⟨w.heap.size,o,none⟩) hblk;have hf2:∀ o,w1.frozen? ⟨w.heap.size,o,none⟩=(w.alloc (.cells #[.int .i64 0,.string ⟨#[]⟩,.int .i64 0,.int .i64 0] 43)).frozen? ⟨w.heap.size,o,none⟩:=λo=>World.frozen?_of_block (a:=⟨w.heap.size,o,none⟩) hblk;have hz2:w.heap.size<w1.heap.size:=(by have:=hg1.size;simp at this;omega);have HNV:Hid (∀ bm,Zb7 w1 bm->bm≠w.heap.size):=λbm hm=>Zao hm (hblk.trans (heap_alloc_new w _));have HGA:Hid (w.grownBy w1 (some C)):=Zf (World.grownBy_alloc _ _ _) (Zf (Zz _ nq _) hg1);have HV1:=hid hv1;clear hblk hne hg1 hv1
  rcases hres with ⟨rfl,t,ht,rfl⟩ | ⟨rfl,ht,rfl⟩
  . have HT:=hid ht
    clear ht;simp only [Tok.agg];go_wp2;exact bodyPost_ret (v:=.tuple #[.agg #[.int .i64 t.kind,.string ⟨t.text.toArray⟩,.int .i64 t.n,.int .i64 t.line],.bool true]) (by simp [results,results39,go_sem,hc2]) rfl ⟨_,_,k,rfl,.inl ⟨rfl,t,HT.out,rfl⟩,HV1.out.store4 hCb HNV.out _ _ _ _,hk1,hk2,ZU HGA.out (sqR _) _ _ _ _⟩
  . have HT:=hid ht
    clear ht;go_wp2;exact bodyPost_ret (v:=.tuple #[.agg #[.int .i64 0,.string ⟨#[]⟩,.int .i64 0,.int .i64 0],.bool false]) (by simp [results,results39,go_sem,hc2]) rfl ⟨_,_,k,rfl,.inr ⟨rfl,HT.out,rfl⟩,HV1.out.store4 hCb HNV.out _ _ _ _,hk1,hk2,ZU HGA.out (sqR _) _ _ _ _⟩
 | false =>
  cases hn:signB (s[i].toNat:Int) with
  | true =>
   have HDG:Hid (digB (s.data.toList.getD i 0)=false):=(by show digB (s.data.toList.getD i 0)=false;rw [HG0.out];exact hd);have HSG:Hid (ZD (s.data.toList.getD i 0)=true):=(by show ZD (s.data.toList.getD i 0)=true;rw [HG0.out];exact hn);go_enter func39,ntmps39;go_wp2
   go_quiet (fail)
   go_wp2_with (first | (go_at_call 65;go_must (refine (ZaZ _ _ hb.1 hb.2).mono ?_;rintro e w' ⟨rfl,rfl⟩)) | (go_at_call 67;go_must (refine (Zay _ _ hb.1 hb.2).mono ?_;rintro e w' ⟨rfl,rfl⟩)));refine (Zjg C s i line ((w.alloc (.cells #[.int .i64 0,.string ⟨#[]⟩,.int .i64 0,.int .i64 0] 43)).drewN nq) hs hi HDG.out HSG.out (HV0.out.dN nq) T0.out hC0 hC2).mono ?_;rintro e w1 ⟨tv,ok,rfl,hres,hv1,hg1⟩;have hk1:i<=runEnd ZD s.data.toList i:=ZbE _ _ _;have hk2:runEnd ZD s.data.toList i<=s.size:=(by have:=Zbl ZD s.data.toList i (by rw [HLL.out];omega);rw [HLL.out] at this;exact this);generalize runEnd ZD s.data.toList i=k at *;clear c0 c1 HKP HSC;have hne:some w.heap.size≠some C:=(by simp;omega);have hblk:=hg1.block w.heap.size (by simp) hne;have hc2:∀ o,w1.cell? ⟨w.heap.size,o,none⟩=(w.alloc (.cells #[.int .i64 0,.string ⟨#[]⟩,.int .i64 0,.int .i64 0] 43)).cell? ⟨w.heap.size,o,none⟩:=λo=>sqK (a:=⟨w.heap.size,o,none⟩) hblk;have hf2:∀ o,w1.frozen? ⟨w.heap.size,o,none⟩=(w.alloc (.cells #[.int .i64 0,.string ⟨#[]⟩,.int .i64 0,.int .i64 0] 43)).frozen? ⟨w.heap.size,o,none⟩:=λo=>World.frozen?_of_block (a:=⟨w.heap.size,o,none⟩) hblk;have hz2:w.heap.size<w1.heap.size:=(by have:=hg1.size;simp at this;omega);have HNV:Hid (∀ bm,Zb7 w1 bm->bm≠w.heap.size):=λbm hm=>Zao hm (hblk.trans (heap_alloc_new w _));have HGA:Hid (w.grownBy w1 (some C)):=Zf (World.grownBy_alloc _ _ _) (Zf (Zz _ nq _) hg1);have HV1:=hid hv1;clear hblk hne hg1 hv1
   rcases hres with ⟨rfl,t,ht,rfl⟩ | ⟨rfl,ht,rfl⟩
   . have HT:=hid ht
     clear ht;simp only [Tok.agg];go_wp2;exact bodyPost_ret (v:=.tuple #[.agg #[.int .i64 t.kind,.string ⟨t.text.toArray⟩,.int .i64 t.n,.int .i64 t.line],.bool true]) (by simp [results,results39,go_sem,hc2]) rfl ⟨_,_,k,rfl,.inl ⟨rfl,t,HT.out,rfl⟩,HV1.out.store4 hCb HNV.out _ _ _ _,hk1,hk2,ZU HGA.out (sqR _) _ _ _ _⟩
   . have HT:=hid ht
     clear ht;go_wp2;exact bodyPost_ret (v:=.tuple #[.agg #[.int .i64 0,.string ⟨#[]⟩,.int .i64 0,.int .i64 0],.bool false]) (by simp [results,results39,go_sem,hc2]) rfl ⟨_,_,k,rfl,.inr ⟨rfl,HT.out,rfl⟩,HV1.out.store4 hCb HNV.out _ _ _ _,hk1,hk2,ZU HGA.out (sqR _) _ _ _ _⟩
  | false =>
   have HDG:Hid (digB (s.data.toList.getD i 0)=false):=(by show digB (s.data.toList.getD i 0)=false;rw [HG0.out];exact hd);have HSG:Hid (ZD (s.data.toList.getD i 0)=false):=(by show ZD (s.data.toList.getD i 0)=false;rw [HG0.out];exact hn);go_enter func39,ntmps39;go_wp2
   go_quiet (fail)
   go_wp2_with (first | (go_at_call 65;go_must (refine (ZaZ _ _ hb.1 hb.2).mono ?_;rintro e w' ⟨rfl,rfl⟩)) | (go_at_call 67;go_must (refine (Zay _ _ hb.1 hb.2).mono ?_;rintro e w' ⟨rfl,rfl⟩)));refine (Zjk C s i line ((w.alloc (.cells #[.int .i64 0,.string ⟨#[]⟩,.int .i64 0,.int .i64 0] 43)).drewN nq) hs hi HDG.out HSG.out (HV0.out.dN nq) T0.out L0.out hC0 hC2).mono ?_;rintro e w1 ⟨tv,ok,k,rfl,hres,hv1,hk1,hk2,hg1⟩;clear c0 c1 HKP HSC;have hne:some w.heap.size≠some C:=(by simp;omega);have hblk:=hg1.block w.heap.size (by simp) hne;have hc2:∀ o,w1.cell? ⟨w.heap.size,o,none⟩=(w.alloc (.cells #[.int .i64 0,.string ⟨#[]⟩,.int .i64 0,.int .i64 0] 43)).cell? ⟨w.heap.size,o,none⟩:=λo=>sqK (a:=⟨w.heap.size,o,none⟩) hblk;have hf2:∀ o,w1.frozen? ⟨w.heap.size,o,none⟩=(w.alloc (.cells #[.int .i64 0,.string ⟨#[]⟩,.int .i64 0,.int .i64 0] 43)).frozen? ⟨w.heap.size,o,none⟩:=λo=>World.frozen?_of_block (a:=⟨w.heap.size,o,none⟩) hblk;have hz2:w.heap.size<w1.heap.size:=(by have:=hg1.size;simp at this;omega);have HNV:Hid (∀ bm,Zb7 w1 bm->bm≠w.heap.size):=λbm hm=>Zao hm (hblk.trans (heap_alloc_new w _));have HGA:Hid (w.grownBy w1 (some C)):=Zf (World.grownBy_alloc _ _ _) (Zf (Zz _ nq _) hg1);have HV1:=hid hv1;clear hblk hne hg1 hv1
   rcases hres with ⟨rfl,t,ht,rfl⟩ | ⟨rfl,ht,rfl⟩
   . have HT:=hid ht
     clear ht;simp only [Tok.agg];go_wp2;exact bodyPost_ret (v:=.tuple #[.agg #[.int .i64 t.kind,.string ⟨t.text.toArray⟩,.int .i64 t.n,.int .i64 t.line],.bool true]) (by simp [results,results39,go_sem,hc2]) rfl ⟨_,_,k,rfl,.inl ⟨rfl,t,HT.out,rfl⟩,HV1.out.store4 hCb HNV.out _ _ _ _,hk1,hk2,ZU HGA.out (sqR _) _ _ _ _⟩
   . have HT:=hid ht
     clear ht;go_wp2;exact bodyPost_ret (v:=.tuple #[.agg #[.int .i64 0,.string ⟨#[]⟩,.int .i64 0,.int .i64 0],.bool false]) (by simp [results,results39,go_sem,hc2]) rfl ⟨_,_,k,rfl,.inr ⟨rfl,HT.out,rfl⟩,HV1.out.store4 hCb HNV.out _ _ _ _,hk1,hk2,ZU HGA.out (sqR _) _ _ _ _⟩
end
end Go.Proofs.YtacioihbhkcdcaaGreatDoor
