/-
  PImplY
-/
import Derived.Test.YtacioihbhkcdcaaGreatDoorP14
set_option maxHeartbeats 16000000
set_option linter.unusedVariables false
set_option maxRecDepth 100000
namespace Go.Proofs.YtacioihbhkcdcaaGreatDoor
open Go.ChangeShapes Go.WideShapes Go.ChangeAt Go.RowKit
section
open Go.Proofs.Tryz
theorem Zd0 (mb lb:Addr) (w:World) :
 CallsD prog 14 #[.pointer (some mb),.pointer (some lb)] .returning w λe u' w'=>e=.returned (.tuple #[])/\u'=.returning/\w'=w:=by
 refine callsD_of_wpS func14 rfl λc₀ cs hu=>?_
 apply wpS_seq
 apply wpS_region
 simp [wpOpsS,go_sem,recoverD,hu,ntmps14,Exit.thenS]
 apply wpS_seq
 apply wpS_region
 simp [wpOpsS,go_sem,Exit.thenS];refine wpS_cond (t:=false) (by simp [Act.eval,Array.replicate]) ?_;simp only [Bool.false_eq_true,if_false];refine wpS_of_wp (wp_skip ?_)
 cases c₀
 simp_all [bodyPostS,results]
theorem Off.setIn {fp:List Nat} {w x:World} (h:Off fp w x) {b j:Nat} {v:Value} (hb:b ∈ fp):Off fp w (x.setCell ⟨b,j,none⟩ v) :=
 ⟨h.os,h.tape,h.output,by rw [ZaQ];exact h.size,λk hk hn=>(Below.heap_setCell _ _ _ _ (by show k≠b;exact λe=>hn (e ▸ hb))).trans (h.block k hk hn)⟩
theorem Zfx (mb lb:Nat) (w:World) (L:Int) (older:List PanicEntry) (m0 m1 m2 l0:Value) (hm:Blk w mb #[m0,m1,m2] 25) (hl:Blk w lb #[l0] 3) (hne:lb≠mb) :
 CallsD prog 14 #[.pointer (some ⟨mb,0,none⟩),.pointer (some ⟨lb,0,none⟩)] (.panicking ({ v:=.iface 90 (.agg #[.int .i64 L]),recovered:=false } :: older)) w λe u' w' =>
  e=.returned (.tuple #[])/\u'=.panicking ({ v:=.iface 90 (.agg #[.int .i64 L]),recovered:=true } :: older) /\
   Blk w' mb #[.string ⟨#[]⟩,.slice none 0 0,.slice none 0 0] 25/\Blk w' lb #[.int .i64 L] 3/\Off [mb,lb] w w':=by
 have hml:=hm.lt;have hll:=hl.lt;refine callsD_of_wpS func14 rfl λc₀ cs hu=>?_
 apply wpS_seq
 apply wpS_region
 simp [wpOpsS,go_sem,recoverD,hu,ntmps14,Exit.thenS]
 apply wpS_seq
 apply wpS_region
 simp [wpOpsS,go_sem,Exit.thenS];refine wpS_cond (t:=true) (by simp [Act.eval,Array.replicate]) ?_;simp only [if_true];refine wpS_of_wp ?_;have HM:=hid hm;have HL:=hid hl;have HU:=hid hu;clear hm hl hu;go_wp2_with fail;refine (Zfw w L).mono ?_;rintro e w1 ⟨rfl,hb⟩;have M1:=hid (HM.out.next hb);have L1:=hid (HL.out.next hb);have O1:Hid (Off [mb,lb] w w1):=Off.of_below hb;have cM0:w1.cell? ⟨mb,0,none⟩=some m0:=M1.out.cell 0 _ rfl;have cM1:w1.cell? ⟨mb,1,none⟩=some m1:=M1.out.cell 1 _ rfl;have cM2:w1.cell? ⟨mb,2,none⟩=some m2:=M1.out.cell 2 _ rfl;have cL0:w1.cell? ⟨lb,0,none⟩=some l0:=L1.out.cell 0 _ rfl;obtain ⟨zM0,zM1,zM2⟩:=sqF3 M1.out;have zL0:=L1.out.frozen 0;clear hb HM HL hml hll;go_wp2_with fail;refine ⟨rfl,_,rfl,.tuple #[],results_none rfl _ _ _,rfl,rfl,?_,?_,?_⟩
 . exact (((M1.out.same (j:=0) (v:=.string ⟨#[]⟩) rfl).same (j:=1) (v:=.slice none 0 0) rfl).same (j:=2) (v:=.slice none 0 0) rfl).other (Ne.symm hne)
 . exact (((L1.out.other hne).other hne).other hne).same (j:=0) (v:=.int .i64 L) rfl
 . exact (((O1.out.setIn (by simp)).setIn (by simp)).setIn (by simp)).setIn (by simp)
end
end Go.Proofs.YtacioihbhkcdcaaGreatDoor
