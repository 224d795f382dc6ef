/-
  ConcatEx
-/
import Derived.Test.YtbdhpganbbandaaGreatDoorP19
import Derived.Lib.AppendZerosOnto
import Derived.Lib.SliceRun
set_option maxHeartbeats 16000000
set_option linter.unusedVariables false
set_option maxRecDepth 100000
namespace Go.Proofs.YtbdhpganbbandaaGreatDoor
open Go.ChangeShapes Go.WideShapes Go.ChangeAt Go.RowKit
section
open Go.Proofs.Tryz
theorem info_exC:(prog.info? 74).map (fun i=>(i.zero,i.size,i.bytes))=some (some (.agg #[.int .i64 0,.int .i64 0,.string ⟨#[]⟩,.string ⟨#[]⟩,.slice none 0 0,.slice none 0 0]),6,96):=by kernel_rfl
theorem exc_oneCell {w:World} {S:Nat→Prop} {d:Nat} (cs:List Value) (x:Ex) (h:HEx w S d cs x):∀ u ∈ cs,u.oneCell'=true:=by
 cases d with
 | zero=>exact h.elim
 | succ d =>
  obtain ⟨kv,cv,rfl,-,-,-,-,⟨p,c,rfl,-⟩,⟨p',c',rfl,-⟩⟩:=h;intro u hu;simp only [List.mem_cons,List.not_mem_nil,or_false] at hu
  rcases hu with rfl | rfl | rfl | rfl | rfl | rfl <;> rfl
theorem growEx_any (n:Nat) (w:World) (hn:n≤33554432) :
 Calls prog 150 #[.slice none 0 0,.int .i64 n] w fun e w'=>∃ u,e=.returned u∧w'.ownsRow w.heap.size 74 6 u 0 []∧Bz w w':=by
 by_cases h0:n=0
 · subst h0
   go_enter func150,ntmps150;go_wp2;go_ret;exact ⟨_,rfl,⟨by simp,.inl ⟨rfl,rfl⟩⟩,Below.refl _ _⟩
 · obtain ⟨i,hi,hz0,hz1,hz2⟩:=info_parts info_exC
   have hfc:(Builtin.firstCells i.size 0 (.slice none 0 0)).run prog w.drew=.ok #[] w.drew:=run_firstCells_none w.drew i.size 0 0 0
   have hrz:∀ ty,(Builtin.append_ #[42,3] ty #[.slice none 0 0,.int .i64 n]).run prog w =
    .ok (.slice (some ⟨w.heap.size,0,none⟩) n (grownCap w n 0 74)) (w.drew.alloc (.cells (#[] ++ Builtin.zeroCells (Value.agg #[.int .i64 0,.int .i64 0,.string ⟨#[]⟩,.string ⟨#[]⟩,.slice none 0 0,.slice none 0 0]).cells n ++ Builtin.zeroCells (Value.agg #[.int .i64 0,.int .i64 0,.string ⟨#[]⟩,.string ⟨#[]⟩,.slice none 0 0,.slice none 0 0]).cells (grownCap w n 0 74 - n)) 74)):=fun ty=>by
    have h:=Lib.run_append_grow_zeros w 42 3 ty 74 i _ .i64 .i64 underlying42 underlying3 hi hz0 none 0 0 [] hfc n (by omega) (by omega) (by omega) (by omega)
     (by rw [hz2];omega) (growslice_fits (by omega) (by rw [hz2];omega))
    simpa using h
   have hGn:n≤grownCap w n 0 74:=grownCap_ge w _ _ _;have hGm:=grownCap_le_maxLen w n 0 74 (by unfold maxLen;omega);generalize grownCap w n 0 74=G at *;have HGM:=hid hGm;have hG63:G≤9223372036854775807:=(by unfold maxLen at hGm;omega);have h1:(0:Int)<(n:Int):=(by omega);obtain ⟨CC,hCC⟩:∃ CC:Array Value,CC=#[] ++ Builtin.zeroCells (Value.agg #[.int .i64 0,.int .i64 0,.string ⟨#[]⟩,.string ⟨#[]⟩,.slice none 0 0,.slice none 0 0]).cells n ++ Builtin.zeroCells (Value.agg #[.int .i64 0,.int .i64 0,.string ⟨#[]⟩,.string ⟨#[]⟩,.slice none 0 0,.slice none 0 0]).cells (G - n):=⟨_,rfl⟩
   have hCS:CC.size=G * 6:=by
    rw [hCC];simp only [Array.size_append,size_zeroCells,Value.cells];simp;omega
   rw [← hCC] at hrz;have HB:Hid (Bz w (w.alloc (.cells CC 74)).drew):=((sqN _ _)).drew
   have HO:Hid ((w.alloc (.cells CC 74)).drew.ownsRow w.heap.size 74 6 (.slice (some ⟨w.heap.size,0,none⟩) 0 G) 0 []) :=
    ⟨by simp,.inr ⟨w.heap.size,G,CC,rfl,Nat.le_refl _,heap_alloc_new w _,Nat.zero_le _,hGm,hCS,by simp⟩⟩
   clear hCC hCS;clear hfc hi hz0 hz1 hz2 hGm;go_enter func150,ntmps150;go_wp2_with (at_builtin;refine Lib.wpList_append_run _ rfl _ _ _ _ rfl _ _ rfl rfl _ _ (hrz _) ?_);go_ret;exact ⟨_,rfl,HO.out,HB.out⟩
def aheadC (P Q:List Ex):Nat→List Ex
 | 0=>[]
 | 1=>P
 | _=>P ++ Q
theorem concatEx_any (R:List Value→Ex→Prop) (hone:∀ cs y,R cs y→∀ q ∈ cs,q.oneCell'=true) (w:World) (sb:Nat) (p1 p2:Option Addr) (c1 c2:Nat) (P Q:List Ex) (hs:Blk w sb #[.slice p1 P.length c1,.slice p2 Q.length c2] 42)
 (h1:Rows w All 6 R (.slice p1 P.length c1) P) (h2:Rows w All 6 R (.slice p2 Q.length c2) Q) (hl:P.length+Q.length≤16777216) :
 Calls prog 118 #[.slice (some ⟨sb,0,none⟩) 2 2] w fun e w'=>∃ u,e=.returned u∧OwnG 74 6 R w' w.heap.size u (P ++ Q)∧Bz w w':=by
 have HR1:Hid (∀ w',Bz w w'→Rows w' All 6 R (.slice p1 P.length c1) P):=fun w' hb=>h1.mono (sqO hb) (fun _ h=>h) (fun _ _ _ h=>h);have HR2:Hid (∀ w',Bz w w'→Rows w' All 6 R (.slice p2 Q.length c2) Q):=fun w' hb=>h2.mono (sqO hb) (fun _ h=>h) (fun _ _ _ h=>h);have HBK:Hid (∀ w',Bz w w'→Blk w' sb #[.slice p1 P.length c1,.slice p2 Q.length c2] 42):=fun w' hb=>hs.next hb;have HL:=hid hl;obtain ⟨y0,y1⟩:=sqB2 hs;generalize hn1:P.length=n1 at *;generalize hn2:Q.length=n2 at *;have HN1:=hid hn1;have HN2:=hid hn2;clear h1 h2 hs hn1 hn2;go_enter func118,ntmps118;go_wp2_with fail
 go_loopw [3,11] (fun sv iv wr=>wr=w∧((iv=.int .i64 0∧sv=.int .i64 0)∨(iv=.int .i64 1∧sv=.int .i64 n1)∨(iv=.int .i64 2∧sv=.int .i64 ((n1:Int)+n2)))) (fun _ iv _=>2 - (intOf iv).toNat)
 case atStart=>exact ⟨by first | rfl | trivial,.inl ⟨rfl,rfl⟩⟩
 case round =>
  obtain ⟨hww,hrel⟩:=hrel;have hww':=hww.symm;subst hww';clear hww
  rcases hrel with ⟨rfl,rfl⟩ | ⟨rfl,rfl⟩ | ⟨rfl,rfl⟩
  · go_wp2_with fail
    exact ⟨⟨by first | rfl | trivial,.inr (.inl ⟨rfl,by go_num⟩)⟩,by simp [intOf]⟩
  · go_wp2_with fail
    exact ⟨⟨by first | rfl | trivial,.inr (.inr ⟨rfl,by go_num⟩)⟩,by simp [intOf]⟩
  · have CG:Hid (Calls prog 150 #[.slice none 0 0,.int .i64 ((n1:Int)+n2)] w fun e w'=>∃ u,e=.returned u∧w'.ownsRow w.heap.size 74 6 u 0 []∧Bz w w'):=by
     have:=growEx_any (n1+n2) w (by omega)
     rwa [Int.natCast_add] at this
    go_wp2_with fail;refine CG.out.mono ?_;rintro e w1 ⟨u0,rfl,ho,hb⟩;have HO:Hid (OwnG 74 6 R w1 w.heap.size u0 []):=⟨⟨[],ho,CellsR.nil⟩,hb.size⟩;have HB:=hid hb;clear ho hb y0 y1;go_wp2_with fail
    go_loopw [6,27] (fun ov iv wq=>∃ k:Nat,k≤2∧iv=.int .i64 k∧Hid (OwnG 74 6 R wq w.heap.size ov (aheadC P Q k))∧Hid (Bz w wq)) (fun _ iv _=>2 - (intOf iv).toNat)
    case atStart=>exact ⟨0,by omega,rfl,HO.out,HB.out⟩
    case round =>
     clear HO HB;obtain ⟨k,hk,rfl,HO,HB⟩:=hrel;have bk:=HBK.out _ HB.out;obtain ⟨y0,y1⟩:=sqB2 bk
     rcases (by omega:k=0∨k=1∨k=2) with rfl | rfl | rfl
     · have R1:Hid (Rows wr All 6 R (.slice p1 n1 c1) P):=HR1.out _ HB.out
       go_wp2_with (at_builtin;refine wpList_append_own_rows rfl _ _ 42 rfl _ 96 underlying42 info_exC rfl (by decide) HO.out rfl (.slice p1 n1 c1) P rfl R1.out hone (by have:=HL.out;rw [HN1.out];simp only [aheadC,List.length_nil];omega) (by decide) ?_;intro v7 w7 ho7 hb7 hap7);exact ⟨⟨1,by omega,by go_num,by show OwnG _ _ _ _ _ _ _;simpa [aheadC] using ho7,HB.out.trans hb7⟩,by simp [intOf]⟩
     · have R2:Hid (Rows wr All 6 R (.slice p2 n2 c2) Q):=HR2.out _ HB.out
       go_wp2_with (at_builtin;refine wpList_append_own_rows rfl _ _ 42 rfl _ 96 underlying42 info_exC rfl (by decide) HO.out rfl (.slice p2 n2 c2) Q rfl R2.out hone (by have:=HL.out;rw [HN2.out];simp only [aheadC,HN1.out];omega) (by decide) ?_;intro v7 w7 ho7 hb7 hap7);exact ⟨⟨2,by omega,by go_num,by show OwnG _ _ _ _ _ _ _;simpa [aheadC] using ho7,HB.out.trans hb7⟩,by simp [intOf]⟩
     · go_wp2_with fail
       go_ret;exact ⟨_,rfl,HO.out,HB.out⟩
end
end Go.Proofs.YtbdhpganbbandaaGreatDoor
