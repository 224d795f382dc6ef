/-
  ChgC CopyProg WithC ChgF EachF
-/
import Derived.Test.YtdhlonogmnkemaaGreatDoorP04
import Derived.Test.YtdhlonogmnkemaaGreatDoorP22
set_option maxHeartbeats 16000000
set_option linter.unusedVariables false
set_option maxRecDepth 100000
namespace Go.Proofs.YtdhlonogmnkemaaGreatDoor
open Go.ChangeShapes Go.WideShapes Go.ChangeAt Go.RowKit
theorem enters {f:FuncId} {fn:Func} {c:Code} (hf:Tryz.prog.funcs[f]?=some fn) (hn:(fn.name == "runtime.NumGoroutine")=false) (hb:fn.body=some c) (args:Array Value) (w:World) :
 Sem.run Tryz.prog (callFunc f args) w=.ok (.enter f args) w:=by
 have h:¬ fn.name = "runtime.NumGoroutine" := by simpa using hn
 simp [callFunc,hf,h,hb]
def ZkQ (q:Pl) (home:ByteArray) (k:Int) (t m:ByteArray) (n:Nat):Bool :=
 decide (k=8) && ((t.toList == q.name.toList && (n:Int) == q.arity) && (m.toList == q.mod.toList || (m.toList.isEmpty && home.toList == q.mod.toList)))
def ftC (q:Pl) (home to:ByteArray) (k:Int) (t m:ByteArray) (n:Nat):ByteArray:=if ZkQ q home k t m n=true then to else t
theorem Zmu {q:Pl} {home to:ByteArray} (h:okS to) {k:Int} {t m:ByteArray} {n:Nat} (ht:okS t):okS (ftC q home to k t m n):=by
 unfold ftC;split
 . exact h
 . exact ht
theorem ZgC (w:World) (q:Pl) (home:ByteArray) (k n:Int) (t m:ByteArray) (p1 p2:Option Addr) (n1 q1 n2 q2:Nat) (h1:n1<=9223372036854775807) :
 Calls Tryz.prog 90 #[.agg #[.string q.mod,.string q.name,.int .i64 q.arity,.int .i64 q.clause],.string home,.agg #[.int .i64 k,.int .i64 n,.string t,.string m,.slice p1 n1 q1,.slice p2 n2 q2]] w λe w'=>e=.returned (.bool (ZkQ q home k t m n1))/\Below w.heap.size w w':=by
 obtain ⟨qm,qn,qa,qc⟩:=q;simp only;generalize hB:ZkQ ⟨qm,qn,qa,qc⟩ home k t m n1=B;have HB0:Hid ((decide (k=8) && ((t.toList == qn.toList && (n1:Int) == qa) && (m.toList == qm.toList || (m.toList.isEmpty && home.toList == qm.toList))))=B):=hB;obtain ⟨W2,hW2⟩:∃ W2,W2=(w.alloc (.cells #[.string qm,.string qn,.int .i64 qa,.int .i64 qc] 31)).alloc (.cells #[.int .i64 k,.int .i64 n,.string t,.string m,.slice p1 n1 q1,.slice p2 n2 q2] 76):=⟨_,rfl⟩;have HW2:Hid (W2=(w.alloc (.cells #[.string qm,.string qn,.int .i64 qa,.int .i64 qc] 31)).alloc (.cells #[.int .i64 k,.int .i64 n,.string t,.string m,.slice p1 n1 q1,.slice p2 n2 q2] 76)):=hW2;have B2:Hid (Below w.heap.size w W2):=(by show Below _ _ _;rw [hW2];exact ((sqN _ _)).alloc (by simp) _);have bA:Hid (Blk W2 w.heap.size #[.string qm,.string qn,.int .i64 qa,.int .i64 qc] 31):=(by show Blk _ _ _ _;rw [hW2];exact Blk.new.alloc)
 have bE:Hid (Blk W2 (w.heap.size+1) #[.int .i64 k,.int .i64 n,.string t,.string m,.slice p1 n1 q1,.slice p2 n2 q2] 76):=by
  have:=Blk.new (w:=w.alloc (.cells #[.string qm,.string qn,.int .i64 qa,.int .i64 qc] 31)) (cs:=#[.int .i64 k,.int .i64 n,.string t,.string m,.slice p1 n1 q1,.slice p2 n2 q2]) (t:=76);rw [Zb] at this;show Blk _ _ _ _;rw [hW2];exact this
 have l1:=bA.out.lt;have l2:=bE.out.lt;have qa0:∀ mm:Wd (λw'=>Za All W2 w'/\Below w.heap.size w w'),mm.val.cell? ⟨w.heap.size,0,none⟩=some (.string qm):=λmm=>(World.cell?_of_block (mm.ok.1.2 _ trivial l1)).trans (bA.out.cell 0 _ rfl);have qa1:∀ mm:Wd (λw'=>Za All W2 w'/\Below w.heap.size w w'),mm.val.cell? ⟨w.heap.size,1,none⟩=some (.string qn):=λmm=>(World.cell?_of_block (mm.ok.1.2 _ trivial l1)).trans (bA.out.cell 1 _ rfl);have qa2:∀ mm:Wd (λw'=>Za All W2 w'/\Below w.heap.size w w'),mm.val.cell? ⟨w.heap.size,2,none⟩=some (.int .i64 qa):=λmm=>(World.cell?_of_block (mm.ok.1.2 _ trivial l1)).trans (bA.out.cell 2 _ rfl);have qa3:∀ mm:Wd (λw'=>Za All W2 w'/\Below w.heap.size w w'),mm.val.cell? ⟨w.heap.size,3,none⟩=some (.int .i64 qc):=λmm=>(World.cell?_of_block (mm.ok.1.2 _ trivial l1)).trans (bA.out.cell 3 _ rfl);have qe0:∀ mm:Wd (λw'=>Za All W2 w'/\Below w.heap.size w w'),mm.val.cell? ⟨w.heap.size+1,0,none⟩=some (.int .i64 k):=λmm=>(World.cell?_of_block (mm.ok.1.2 _ trivial l2)).trans (bE.out.cell 0 _ rfl);have qe1:∀ mm:Wd (λw'=>Za All W2 w'/\Below w.heap.size w w'),mm.val.cell? ⟨w.heap.size+1,1,none⟩=some (.int .i64 n):=λmm=>(World.cell?_of_block (mm.ok.1.2 _ trivial l2)).trans (bE.out.cell 1 _ rfl);have qe2:∀ mm:Wd (λw'=>Za All W2 w'/\Below w.heap.size w w'),mm.val.cell? ⟨w.heap.size+1,2,none⟩=some (.string t):=λmm=>(World.cell?_of_block (mm.ok.1.2 _ trivial l2)).trans (bE.out.cell 2 _ rfl);have qe3:∀ mm:Wd (λw'=>Za All W2 w'/\Below w.heap.size w w'),mm.val.cell? ⟨w.heap.size+1,3,none⟩=some (.string m):=λmm=>(World.cell?_of_block (mm.ok.1.2 _ trivial l2)).trans (bE.out.cell 3 _ rfl);have qe4:∀ mm:Wd (λw'=>Za All W2 w'/\Below w.heap.size w w'),mm.val.cell? ⟨w.heap.size+1,4,none⟩=some (.slice p1 n1 q1):=λmm=>(World.cell?_of_block (mm.ok.1.2 _ trivial l2)).trans (bE.out.cell 4 _ rfl);have qe5:∀ mm:Wd (λw'=>Za All W2 w'/\Below w.heap.size w w'),mm.val.cell? ⟨w.heap.size+1,5,none⟩=some (.slice p2 n2 q2):=λmm=>(World.cell?_of_block (mm.ok.1.2 _ trivial l2)).trans (bE.out.cell 5 _ rfl);clear hW2 hB l1 l2;by_cases hk:k=8
 . subst hk
   have e1:=refG;have e2:=refE;go_enter Tryz.func90,Tryz.ntmps90;go_wp2_with fail;rw [<-HW2.out];have hCne:Nonempty (Wd (λw'=>Za All W2 w'/\Below w.heap.size w w')):=⟨⟨W2.drew,⟨sqS,B2.out.drew⟩⟩⟩;refine Zc (λw'=>Za All W2 w'/\Below w.heap.size w w') (by kernel_rfl) (by kernel_rfl) ⟨sqS,B2.out.drew⟩ ?_
   repeat (go_big_quiet_step (first | (rename_i mm;go_at_call 133;refine (Zb4 _ 8 n t m p1 p2 n1 q1 n2 q2 h1).mono ?_;rintro e w1 ⟨rfl,hb1⟩;exact ⟨rfl,⟨⟨w1,⟨(Za.trans mm.ok.1 (Za.of_below hb1)),mm.ok.2.trans (hb1.mono mm.ok.2.size)⟩⟩,rfl⟩⟩) | (rename_i mm;go_at_call 51;refine (Zey ⟨qm,qn,qa,qc⟩ _).mono ?_;rintro e w1 ⟨rfl,hb1⟩;exact ⟨rfl,⟨⟨w1,⟨(Za.trans mm.ok.1 (Za.of_below hb1)),mm.ok.2.trans (hb1.mono mm.ok.2.size)⟩⟩,rfl⟩⟩)))
   refine wpQuiet_nil ?_;rintro _ ⟨mq,rfl⟩;have HB8:Hid (Below w.heap.size w mq.val):=mq.ok.2;have HS8:Hid (Za All W2 mq.val):=mq.ok.1;generalize mq.val=w8 at HB8 HS8 ⊢;clear qa0 qa1 qa2 qa3 qe0 qe1 qe2 qe3 qe4 qe5;clear e1 e2;generalize hcv:(!t.toList == qn.toList || !(n1:Int) == qa)=cv;have HCV:Hid ((t.toList == qn.toList && (n1:Int) == qa) = !cv):=(by show _=_;rw [<-hcv];simp);clear hcv
   cases cv with
   | true =>
    have HV:Hid (B=false):=(by show _=_;rw [<-HB0.out,HCV.out];simp);go_wp2;go_ret;exact ⟨by rw [HV.out];rfl,HB8.out⟩
   | false =>
    have HV:Hid (B=(m.toList == qm.toList || (m.toList.isEmpty && home.toList == qm.toList))):=(by show _=_;rw [<-HB0.out,HCV.out];simp);have c0:=(bA.out.same_on HS8.out).cell 0 _ rfl;have c3:=(bE.out.same_on HS8.out).cell 3 _ rfl
    cases g1:(m.toList == qm.toList) with
    | true =>
     have HV2:Hid (B=true):=(by show _=_;rw [HV.out,g1];rfl);go_wp2;go_ret;exact ⟨by rw [HV2.out];rfl,HB8.out⟩
    | false =>
     by_cases hmx:m.toList = []
     . have hmb:(m.toList == ([]:List UInt8))=true:=by rw [hmx];rfl
       have hmc:m.toList.isEmpty=true:=(by rw [hmx];rfl);have HV2:Hid (B=(home.toList == qm.toList)):=(by show _=_;rw [HV.out,g1,hmc];rfl);clear hmx
       cases g3:(home.toList == qm.toList) with
       | true =>
        have HV3:Hid (B=true):=HV2.out.trans g3;go_wp2;go_ret;exact ⟨by rw [HV3.out];rfl,HB8.out⟩
       | false =>
        have HV3:Hid (B=false):=HV2.out.trans g3;go_wp2;go_ret;exact ⟨by rw [HV3.out];rfl,HB8.out⟩
     . have hmb:(m.toList == ([]:List UInt8))=false:=by simpa using hmx
       have hmc:m.toList.isEmpty=false:=(by simpa using hmx);have HV2:Hid (B=false):=(by show _=_;rw [HV.out,g1,hmc];rfl);go_wp2;go_ret;exact ⟨by rw [HV2.out];rfl,HB8.out⟩
 . have hk8:(k == 8)=false:=by simpa using hk
   have hk9:(k != 8)=true:=(by simpa using hk);have HV:Hid (B=false):=(by show _=_;rw [<-HB0.out];simp [hk]);go_enter Tryz.func90,Tryz.ntmps90;go_wp2_with fail;rw [<-HW2.out];have hCne:Nonempty (Wd (λw'=>Za All W2 w'/\Below w.heap.size w w')):=⟨⟨W2.drew,⟨sqS,B2.out.drew⟩⟩⟩;refine Zc (λw'=>Za All W2 w'/\Below w.heap.size w w') (by kernel_rfl) (by kernel_rfl) ⟨sqS,B2.out.drew⟩ ?_
   repeat (go_big_quiet_step (fail))
   refine wpQuiet_nil ?_;rintro _ ⟨mq,rfl⟩;have HB8:Hid (Below w.heap.size w mq.val):=mq.ok.2;have HS8:Hid (Za All W2 mq.val):=mq.ok.1;generalize mq.val=w8 at HB8 HS8 ⊢;clear qa0 qa1 qa2 qa3 qe0 qe1 qe2 qe3 qe4 qe5;go_wp2;go_ret;exact ⟨by rw [HV.out];rfl,HB8.out⟩
def CapC (N mb ba bm bt:Nat) (q:Pl) (home:ByteArray) (v1 v2:Value) (to:ByteArray) (w:World):Prop :=
 Blk w ba #[.string q.mod,.string q.name,.int .i64 q.arity,.int .i64 q.clause] 31/\Blk w bm #[.string home,v1,v2] 63/\Blk w bt #[.string to] 9/\ba<N/\bm<N/\bt<N/\ba≠mb/\bm≠mb/\bt≠mb
theorem capC (N mb ba bm bt:Nat) (q:Pl) (home:ByteArray) (v1 v2:Value) (to:ByteArray):CapK (CapC N mb ba bm bt q home v1 v2 to) N mb:=λw w' ho h=>by
 obtain ⟨h1,h2,h3,a1,a2,a3,b1,b2,b3⟩:=h;exact ⟨ho.blk h1 a1 b1,ho.blk h2 a2 b2,ho.blk h3 a3 b3,a1,a2,a3,b1,b2,b3⟩
theorem chgC (N mb ba bm bt:Nat) (q:Pl) (home:ByteArray) (v1 v2:Value) (to:ByteArray) :
 RemG.ChgR 89 [.pointer (some ⟨ba,0,none⟩),.pointer (some ⟨bm,0,none⟩),.pointer (some ⟨bt,0,none⟩)] (ftC q home to) (CapC N mb ba bm bt q home v1 v2 to):=by
 refine ⟨enters Tryz.func89 (by kernel_rfl) rfl,?_⟩;intro w k n t m p1 p2 n1 q1 n2 q2 hc hn1;have h1m:n1<=9223372036854775807:=(by unfold maxLen at hn1;omega);obtain ⟨h1,h2,h3,-⟩:=hc;obtain ⟨qm,qn,qa,qc⟩:=q;simp only at h1;obtain ⟨W2,hW2⟩:∃ W2,W2=(w.alloc (.cells #[.int .i64 k,.int .i64 n,.string t,.string m,.slice p1 n1 q1,.slice p2 n2 q2] 76)).alloc (.cells #[.int .i64 0,.int .i64 0,.string ⟨#[]⟩,.string ⟨#[]⟩,.slice none 0 0,.slice none 0 0] 76):=⟨_,rfl⟩;have HW2:Hid (W2=(w.alloc (.cells #[.int .i64 k,.int .i64 n,.string t,.string m,.slice p1 n1 q1,.slice p2 n2 q2] 76)).alloc (.cells #[.int .i64 0,.int .i64 0,.string ⟨#[]⟩,.string ⟨#[]⟩,.slice none 0 0,.slice none 0 0] 76)):=hW2;have B2:Hid (Below w.heap.size w W2):=(by show Below _ _ _;rw [hW2];exact ((sqN _ _)).alloc (by simp) _);have e2:Hid (Blk W2 w.heap.size #[.int .i64 k,.int .i64 n,.string t,.string m,.slice p1 n1 q1,.slice p2 n2 q2] 76):=(by show Blk _ _ _ _;rw [hW2];exact Blk.new.alloc)
 have r2:Hid (Blk W2 (w.heap.size+1) #[.int .i64 0,.int .i64 0,.string ⟨#[]⟩,.string ⟨#[]⟩,.slice none 0 0,.slice none 0 0] 76):=by
  have:=Blk.new (w:=w.alloc (.cells #[.int .i64 k,.int .i64 n,.string t,.string m,.slice p1 n1 q1,.slice p2 n2 q2] 76)) (cs:=#[.int .i64 0,.int .i64 0,.string ⟨#[]⟩,.string ⟨#[]⟩,.slice none 0 0,.slice none 0 0]) (t:=76);rw [Zb] at this;show Blk _ _ _ _;rw [hW2];exact this
 have hl1:=h1.lt;have hl2:=h2.lt;have hl3:=h3.lt;have HT:=hid h3;have u1:=hid (h1.next B2.out);have u2:=hid (h2.next B2.out);obtain ⟨x0,x1,x2,x3,x4,x5⟩:=sqB6 e2.out;obtain ⟨a0,a1,a2,a3⟩:=sqB4 u1.out;have b0:=u2.out.cell 0 _ rfl;clear hW2 h1 h2 h3;go_enter Tryz.func89,Tryz.ntmps89;go_wp2_with (rw [<-HW2.out]);refine (ZgC W2 ⟨qm,qn,qa,qc⟩ home k n t m p1 p2 n1 q1 n2 q2 h1m).mono ?_;rintro e w3 ⟨rfl,hb3⟩;have B3:=hid (B2.out.trans (hb3.mono B2.out.size));have e3:=hid (e2.out.next hb3);have r3:=hid (r2.out.next hb3)
 have FIN:Hid (∀ (W3:World) (x:ByteArray),Blk W3 w.heap.size #[.int .i64 k,.int .i64 n,.string x,.string m,.slice p1 n1 q1,.slice p2 n2 q2] 76->Blk W3 (w.heap.size+1) #[.int .i64 0,.int .i64 0,.string ⟨#[]⟩,.string ⟨#[]⟩,.slice none 0 0,.slice none 0 0] 76->Below w.heap.size w W3 ->
  Blk ((((((W3.setCell ⟨w.heap.size+1,0,none⟩ (.int .i64 k)).setCell ⟨w.heap.size+1,1,none⟩ (.int .i64 n)).setCell ⟨w.heap.size+1,2,none⟩ (.string x)).setCell ⟨w.heap.size+1,3,none⟩ (.string m)).setCell ⟨w.heap.size+1,4,none⟩ (.slice p1 n1 q1)).setCell ⟨w.heap.size+1,5,none⟩ (.slice p2 n2 q2)) (w.heap.size+1) #[.int .i64 k,.int .i64 n,.string x,.string m,.slice p1 n1 q1,.slice p2 n2 q2] 76/\Below w.heap.size w ((((((W3.setCell ⟨w.heap.size+1,0,none⟩ (.int .i64 k)).setCell ⟨w.heap.size+1,1,none⟩ (.int .i64 n)).setCell ⟨w.heap.size+1,2,none⟩ (.string x)).setCell ⟨w.heap.size+1,3,none⟩ (.string m)).setCell ⟨w.heap.size+1,4,none⟩ (.slice p1 n1 q1)).setCell ⟨w.heap.size+1,5,none⟩ (.slice p2 n2 q2))):=λW3 x hE hR hB =>
  ⟨(((((hR.same rfl).same rfl).same rfl).same rfl).same rfl).same rfl,(((((hB.setCell (Nat.le_succ _) _).setCell (Nat.le_succ _) _).setCell (Nat.le_succ _) _).setCell (Nat.le_succ _) _).setCell (Nat.le_succ _) _).setCell (Nat.le_succ _) _⟩
 have t0:=(HT.out.next B3.out).cell 0 _ rfl;clear hb3 x0 x1 x2 x3 x4 x5 a0 a1 a2 a3 b0
 cases hcb:ZkQ ⟨qm,qn,qa,qc⟩ home k t m n1 with
 | true =>
  have HV:Hid (ftC ⟨qm,qn,qa,qc⟩ home to k t m n1=to):=(by show _=_;simp [ftC,hcb]);obtain ⟨W3,hW3⟩:∃ W3,W3=w3.setCell ⟨w.heap.size,2,none⟩ (.string to):=⟨_,rfl⟩;have HW3:=hid hW3;have e4:Hid (Blk W3 w.heap.size #[.int .i64 k,.int .i64 n,.string to,.string m,.slice p1 n1 q1,.slice p2 n2 q2] 76):=(by show Blk _ _ _ _;rw [hW3];exact e3.out.same rfl);have r4:Hid (Blk W3 (w.heap.size+1) #[.int .i64 0,.int .i64 0,.string ⟨#[]⟩,.string ⟨#[]⟩,.slice none 0 0,.slice none 0 0] 76):=(by show Blk _ _ _ _;rw [hW3];exact r3.out.other (by show w.heap.size+1≠w.heap.size;omega));have B4:Hid (Below w.heap.size w W3):=(by show Below _ _ _;rw [hW3];exact B3.out.setCell (sqR _) _);have g2:=e3.out.frozen 2;obtain ⟨y0,y1,y2,y3,y4,y5⟩:=sqB6 e3.out;obtain ⟨x0,x1,x2,x3,x4,x5⟩:=sqB6 r3.out;obtain ⟨f0,f1,f2,f3,f4,f5⟩:=sqF6 r3.out;obtain ⟨z0,z1,z2,z3,z4,z5⟩:=sqB6 e4.out;obtain ⟨o0,o1,o2,o3,o4,o5⟩:=sqB6 r4.out;obtain ⟨h0,h1,h2,h3,h4,h5⟩:=sqF6 r4.out;clear hW3;go_wp2_with (rw [<-HW3.out]);obtain ⟨bz,hz⟩:=FIN.out W3 to e4.out r4.out B4.out;obtain ⟨j0,j1,j2,j3,j4,j5⟩:=sqB6 bz;exact bodyPost_ret (v:=.agg #[.int .i64 k,.int .i64 n,.string to,.string m,.slice p1 n1 q1,.slice p2 n2 q2]) (by simp [results,Tryz.results89,go_sem,j0,j1,j2,j3,j4,j5]) rfl ⟨by rw [HV.out],hz⟩
 | false =>
  have HV:Hid (ftC ⟨qm,qn,qa,qc⟩ home to k t m n1=t):=(by show _=_;simp [ftC,hcb]);obtain ⟨z0,z1,z2,z3,z4,z5⟩:=sqB6 e3.out;obtain ⟨o0,o1,o2,o3,o4,o5⟩:=sqB6 r3.out;obtain ⟨f0,f1,f2,f3,f4,f5⟩:=sqF6 r3.out;go_wp2_with fail;obtain ⟨bz,hz⟩:=FIN.out w3 t e3.out r3.out B3.out;obtain ⟨j0,j1,j2,j3,j4,j5⟩:=sqB6 bz;exact bodyPost_ret (v:=.agg #[.int .i64 k,.int .i64 n,.string t,.string m,.slice p1 n1 q1,.slice p2 n2 q2]) (by simp [results,Tryz.results89,go_sem,j0,j1,j2,j3,j4,j5]) rfl ⟨by rw [HV.out],hz⟩
section
open Go.Proofs.Tryz
theorem ZmD (w:World):Sem.run prog (Instr.makeMap 71 none) w=.ok (.map (some w.heap.size)) (w.alloc (.map #[] 0)):=by kernel_rfl
theorem Zft (w:World) (F:Fn) (bs cs:Array Value):Calls prog 30 #[.func F bs cs] w λe w'=>e=.returned (.agg #[.func F bs cs,.map (some (w.heap.size+1))])/\ZaV w' (w.heap.size+1) #[]/\Bz w w'/\w'.heap.size=w.heap.size+2:=by
 obtain ⟨W1,hW1⟩:∃ W1,W1=w.alloc (.cells #[.nilFunc,.map none] 73):=⟨_,rfl⟩;have S1:W1.heap.size=w.heap.size+1:=(by rw [hW1,Zb]);have r1:Blk W1 w.heap.size #[.nilFunc,.map none] 73:=(by rw [hW1];exact Blk.new);have K1:Bz w W1:=(by rw [hW1];exact (sqN _ _));have K2:Bz w (W1.alloc (.map #[] 0)):=K1.alloc K1.size _;have r2:Blk (W1.alloc (.map #[] 0)) w.heap.size #[.nilFunc,.map none] 73:=r1.alloc;have mk:=ZmD W1;rw [S1] at mk;obtain ⟨y0,y1⟩:=sqB2 r2;obtain ⟨f0,f1⟩:=sqF2 r2;obtain ⟨W3,hW3⟩:∃ W3,W3=((W1.alloc (.map #[] 0)).setCell ⟨w.heap.size,0,none⟩ (.func F bs cs)).setCell ⟨w.heap.size,1,none⟩ (.map (some (w.heap.size+1))):=⟨_,rfl⟩;have r3:Blk W3 w.heap.size #[.func F bs cs,.map (some (w.heap.size+1))] 73:=(by rw [hW3];exact (r2.same rfl).same rfl);have K3:Hid (Bz w W3):=(by show Below _ _ _;rw [hW3];exact (K2.setCell (sqR _) _).setCell (sqR _) _)
 have M3:Hid (ZaV W3 (w.heap.size+1) #[]):=by
  refine ⟨0,?_⟩;rw [hW3,Below.heap_setCell _ _ _ _ (by show w.heap.size+1≠w.heap.size;omega),Below.heap_setCell _ _ _ _ (by show w.heap.size+1≠w.heap.size;omega),<-S1];exact heap_alloc_new W1 _
 have S3:Hid (W3.heap.size=w.heap.size+2):=(by show _=_;rw [hW3];simp [World.setCell,S1]);obtain ⟨j0,j1⟩:=sqB2 r3;have HW1:=hid hW1;have HW3:=hid hW3;have J:Hid (W3.cell? ⟨w.heap.size,0,none⟩=some (.func F bs cs)/\W3.cell? ⟨w.heap.size,1,none⟩=some (.map (some (w.heap.size+1)))):=⟨j0,j1⟩
 have hst:Sem.run prog (store ⟨w.heap.size,0,none⟩ (.func F bs cs)) (W1.alloc (.map #[] 0))=.ok () ((W1.alloc (.map #[] 0)).setCell ⟨w.heap.size,0,none⟩ (.func F bs cs)):=by
  rw [run_store prog _ _ _ _ rfl];simp [y0,f0]
 clear hW1 hW3 r3 r1 K1 K2 r2 j0 j1 S1;go_enter func30,ntmps30;go_wp2_with (rw [<-HW1.out]);have j0:=J.out.1;have j1:=J.out.2;rw [HW3.out] at j0 j1;have k3:=K3.out;have m3:=M3.out;have s3:=S3.out;rw [HW3.out] at k3 m3 s3;exact bodyPost_ret (v:=.agg #[.func F bs cs,.map (some (w.heap.size+1))]) (by simp [results,results30,go_sem,j0,j1]) rfl ⟨rfl,m3,k3,s3⟩
theorem chgU:RemG.ChgR 72 [] ftU (λ_=>True):=⟨enters func72 (by kernel_rfl) rfl,λw k n t m p1 p2 n1 q1 n2 q2 _ _=>Zeg w k n t m p1 p2 n1 q1 n2 q2⟩
theorem capU (N mb:Nat):CapK (λ_=>True) N mb:=λ_ _ _ _=>trivial
theorem Zfu (ms:List Md):∃ z,∀ x ∈ ms,∀ f ∈ x.funs,SizeOf.sizeOf f.clauses<=z:=by
 induction ms with
 | nil=>exact ⟨0,λx hx=>by simp at hx⟩
 | cons m ms ih =>
  obtain ⟨z,hz⟩:=ih
  have key:∀ fs:List Fn',∃ z',∀ f ∈ fs,SizeOf.sizeOf f.clauses<=z':=by
   intro fs
   induction fs with
   | nil=>exact ⟨0,λf hf=>by simp at hf⟩
   | cons f fs ih =>
    obtain ⟨z',hz'⟩:=ih;refine ⟨z'+SizeOf.sizeOf f.clauses,λg hg=>?_⟩
    rcases List.mem_cons.1 hg with rfl | hg
    . omega
    . have:=hz' g hg;omega
  obtain ⟨z',hz'⟩:=key m.funs;refine ⟨z+z',λx hx f hf=>?_⟩
  rcases List.mem_cons.1 hx with rfl | hx
  . have:=hz' f hf;omega
  . have:=hz x hx f hf;omega
theorem Zcx (d:Nat) (w:World) (PL:Nat->Prop) (v:Value) (ms:List Md) (h:Rows w PL 3 (HMd w PL d) v ms) (hP:∀ g,PL g->g<w.heap.size/\ZN w g) (hw:wtS (wtMd d) ms<=16777216) :
 Calls prog 28 #[v] w λe w'=>∃ u fp,e=.returned u/\Zg w' 63 3 (OMd w' d) u ms fp/\fp.Nodup/\(∀ a ∈ fp,w.heap.size<=a/\a<w'.heap.size)/\Bz w w':=by
 obtain ⟨z,hz⟩:=Zfu ms;have HZ:=hid hz;have HR:=hid h;have HP:=hid hP;have HW:=hid hw;have hM:=RemG.mods chgU (λk t m n h=>h) d;unfold RemG.ModsR RemG.RV at hM;obtain ⟨p,cap,rfl,-⟩:=h;clear hz hP hw;go_enter func28,ntmps28;go_wp2_with fail;refine (Zft w _ _ _).mono ?_;rintro e w1 ⟨rfl,hm1,hb1,hs1⟩
 have C1:Hid (Ctx (λ_=>True) w1 w1.heap.size (w.heap.size+1) PL #[] z):=by
  refine ⟨λg hg=>?_,hm1,ZbA.none _ _ _,by omega,Nat.le_refl _,trivial⟩;have:=HP.out g hg;obtain ⟨h1,cs,t,h2⟩:=this;exact ⟨by omega,by omega,cs,t,(hb1.block g h1).trans h2⟩
 have R1:=hid (HR.out.mono ⟨hb1.size,λg hg hl=>hb1.block g hl⟩ sqj (λ_ _ _ h=>h.mono ⟨hb1.size,λg hg hl=>hb1.block g hl⟩ sqj));have B1:=hid hb1;clear hm1 hb1;go_wp2_with fail;refine (hM w1 w1.heap.size (w.heap.size+1) PL #[] z _ ms (capU _ _) C1.out R1.out HZ.out HW.out).mono ?_;rintro e w2 ⟨u,fp,rfl,ho,hnd,hrg,hof,-⟩
 have HO:Hid (Zg w2 63 3 (OMd w2 d) u ms fp):=by
  have h:ms.map (mapM (fT ftU) d)=ms:=(by rw [fT_U];exact ZhU d ms);rw [h] at ho;exact ho
 have HN:Hid (fp.Nodup/\∀ a ∈ fp,w.heap.size<=a/\a<w2.heap.size):=⟨hnd,λa ha=>⟨by have:=(hrg a ha).1;have:=B1.out.size;omega,(hrg a ha).2⟩⟩;have B2:=hid (B1.out.trans (hof.below B1.out.size (by omega)));clear ho hnd hrg hof;go_wp2;go_ret;exact ⟨u,fp,rfl,HO.out,HN.out.1,HN.out.2,B2.out⟩
end
theorem ZfW (d:Nat) (w:World) (PL:Nat->Prop) (q:Pl) (to:ByteArray) (cs:List Value) (x:Md) (h:HMd w PL d cs x) (hP:∀ g,PL g->g<w.heap.size/\ZN w g) (hw:wtMd d x<=16777216) (hto:okS to) :
 Calls Tryz.prog 49 #[.agg cs.toArray,.agg #[.string q.mod,.string q.name,.int .i64 q.arity,.int .i64 q.clause],.string to] w λe w'=>∃ cs' fp,e=.returned (.agg cs'.toArray)/\OMd w' d cs' (mapM (fT (ftC q x.name to)) d x) fp/\fp.Nodup/\(∀ a ∈ fp,w.heap.size<=a/\a<w'.heap.size)/\Below w.heap.size w w':=by
 obtain ⟨z,hz⟩:=Zfu [x];have HZ:Hid (∀ f ∈ x.funs,SizeOf.sizeOf f.clauses<=z):=λf hf=>hz x (by simp) f hf;have HP:Hid (∀ g,PL g->g<w.heap.size/\ZN w g):=hP;have HW:Hid (wtMd d x<=16777216):=hw;have HT:Hid (okS to):=hto;have HH:Hid (HMd w PL d cs x):=h;obtain ⟨ev,fv,rfl,-,f0,f1⟩:=h;obtain ⟨pe,ce,rfl,-⟩:=f0;obtain ⟨pf,cf,rfl,-⟩:=f1;generalize x.exports.length=ne at *;generalize x.funs.length=nf at *;clear hz hP hw hto;obtain ⟨W4,hW4⟩:∃ W4,W4=(((w.alloc (.cells #[.string x.name,.slice pe ne ce,.slice pf nf cf] 63)).alloc (.cells #[.string q.mod,.string q.name,.int .i64 q.arity,.int .i64 q.clause] 31)).alloc (.cells #[.string to] 9)).alloc (.cells #[.string ⟨#[]⟩,.slice none 0 0,.slice none 0 0] 63):=⟨_,rfl⟩;have HW4:Hid (W4=(((w.alloc (.cells #[.string x.name,.slice pe ne ce,.slice pf nf cf] 63)).alloc (.cells #[.string q.mod,.string q.name,.int .i64 q.arity,.int .i64 q.clause] 31)).alloc (.cells #[.string to] 9)).alloc (.cells #[.string ⟨#[]⟩,.slice none 0 0,.slice none 0 0] 63)):=hW4;have S4:Hid (W4.heap.size=w.heap.size+4):=(by show _=_;rw [hW4,Zb,Zb,Zb,Zb]);have B4:Hid (Below w.heap.size w W4):=(by show Below _ _ _;rw [hW4];exact ((((sqN _ _)).alloc (by simp only [Zb];omega) _).alloc (by simp only [Zb];omega) _).alloc (by simp only [Zb];omega) _);have m4:Hid (Blk W4 w.heap.size #[.string x.name,.slice pe ne ce,.slice pf nf cf] 63):=(by show Blk _ _ _ _;rw [hW4];exact Blk.new.alloc.alloc.alloc)
 have a4:Hid (Blk W4 (w.heap.size+1) #[.string q.mod,.string q.name,.int .i64 q.arity,.int .i64 q.clause] 31):=by
  have:=Blk.new (w:=w.alloc (.cells #[.string x.name,.slice pe ne ce,.slice pf nf cf] 63)) (cs:=#[.string q.mod,.string q.name,.int .i64 q.arity,.int .i64 q.clause]) (t:=31);rw [Zb] at this;show Blk _ _ _ _;rw [hW4];exact this.alloc.alloc
 have t4:Hid (Blk W4 (w.heap.size+1+1) #[.string to] 9):=by
  have:=Blk.new (w:=(w.alloc (.cells #[.string x.name,.slice pe ne ce,.slice pf nf cf] 63)).alloc (.cells #[.string q.mod,.string q.name,.int .i64 q.arity,.int .i64 q.clause] 31)) (cs:=#[.string to]) (t:=9);rw [Zb,Zb] at this;show Blk _ _ _ _;rw [hW4];exact this.alloc
 have r4:Hid (Blk W4 (w.heap.size+1+1+1) #[.string ⟨#[]⟩,.slice none 0 0,.slice none 0 0] 63):=by
  have:=Blk.new (w:=((w.alloc (.cells #[.string x.name,.slice pe ne ce,.slice pf nf cf] 63)).alloc (.cells #[.string q.mod,.string q.name,.int .i64 q.arity,.int .i64 q.clause] 31)).alloc (.cells #[.string to] 9)) (cs:=#[.string ⟨#[]⟩,.slice none 0 0,.slice none 0 0]) (t:=63);rw [Zb,Zb,Zb] at this;show Blk _ _ _ _;rw [hW4];exact this
 have CR:Hid (Calls Tryz.prog 30 #[.func (.func 89) #[] #[.pointer (some ⟨w.heap.size+1,0,none⟩),.pointer (some ⟨w.heap.size,0,none⟩),.pointer (some ⟨w.heap.size+1+1,0,none⟩)]] W4.drew λe w'=>e=.returned (.agg #[.func (.func 89) #[] #[.pointer (some ⟨w.heap.size+1,0,none⟩),.pointer (some ⟨w.heap.size,0,none⟩),.pointer (some ⟨w.heap.size+1+1,0,none⟩)],.map (some (w.heap.size+5))])/\ZaV w' (w.heap.size+5) #[]/\Below W4.heap.size W4 w'/\w'.heap.size=w.heap.size+6):=by
  have h:=Zft W4.drew (.func 89) #[] #[.pointer (some ⟨w.heap.size+1,0,none⟩),.pointer (some ⟨w.heap.size,0,none⟩),.pointer (some ⟨w.heap.size+1+1,0,none⟩)];have e:W4.drew.heap.size=w.heap.size+4:=S4.out;rw [e] at h;refine h.mono ?_;rintro e w' ⟨h1,h2,h3,h4⟩;exact ⟨h1,h2,⟨h3.os,h3.tape,h3.output,h3.size,λg hg=>h3.block g (by have:=S4.out;omega)⟩,h4⟩
 have CM:Hid (∀ w5,ZaV w5 (w.heap.size+5) #[]->Below W4.heap.size W4 w5->w5.heap.size=w.heap.size+6->Calls Tryz.prog 73 #[.agg #[.func (.func 89) #[] #[.pointer (some ⟨w.heap.size+1,0,none⟩),.pointer (some ⟨w.heap.size,0,none⟩),.pointer (some ⟨w.heap.size+1+1,0,none⟩)],.map (some (w.heap.size+5))],.agg #[.string x.name,.slice pe ne ce,.slice pf nf cf]] w5 λe w'=>∃ cs' fp,e=.returned (.agg cs'.toArray)/\OMd w' d cs' (mapM (fT (ftC q x.name to)) d x) fp/\fp.Nodup/\(∀ a ∈ fp,w5.heap.size<=a/\a<w'.heap.size)/\Below W4.heap.size W4 w'):=λw5 hm hb hs=>by
  have hs4:=S4.out;have hM:=RemG.mods1 (chgC w5.heap.size (w.heap.size+5) (w.heap.size+1) w.heap.size (w.heap.size+1+1) q x.name (.slice pe ne ce) (.slice pf nf cf) to) (λk t m n h=>Zmu HT.out h) d;unfold RemG.ModR RemG.RV at hM;have hbw:Below w.heap.size w w5:=B4.out.trans (hb.mono B4.out.size);have cap:CapC w5.heap.size (w.heap.size+5) (w.heap.size+1) w.heap.size (w.heap.size+1+1) q x.name (.slice pe ne ce) (.slice pf nf cf) to w5:=⟨a4.out.next hb,m4.out.next hb,t4.out.next hb,by omega,by omega,by omega,by omega,by omega,by omega⟩
  have ctx:Ctx (CapC w5.heap.size (w.heap.size+5) (w.heap.size+1) w.heap.size (w.heap.size+1+1) q x.name (.slice pe ne ce) (.slice pf nf cf) to) w5 w5.heap.size (w.heap.size+5) PL #[] z:=by
   refine ⟨λg hg=>?_,hm,ZbA.none _ _ _,by omega,Nat.le_refl _,cap⟩;obtain ⟨h1,cs,t,h2⟩:=HP.out g hg;exact ⟨by omega,by omega,cs,t,(hbw.block g h1).trans h2⟩
  have hx:HMd w5 PL d [.string x.name,.slice pe ne ce,.slice pf nf cf] x:=HH.out.mono ⟨hbw.size,λg hg hl=>hbw.block g hl⟩ sqj;refine (hM w5 w5.heap.size _ PL #[] z _ x (capC _ _ _ _ _ _ _ _ _ _) ctx hx HZ.out HW.out).mono ?_;rintro e w6 ⟨u,fp,rfl,⟨cs',rfl,ho⟩,hnd,hrg,hof,-⟩;exact ⟨cs',fp,rfl,ho,hnd,hrg,hb.trans (hof.below hb.size (by omega))⟩
 have CELLS:Hid (∀ w',Below (w.heap.size+1+1+1) W4 w'->w'.cell? ⟨w.heap.size,0,none⟩=some (.string x.name)/\w'.cell? ⟨w.heap.size,1,none⟩=some (.slice pe ne ce)/\w'.cell? ⟨w.heap.size,2,none⟩=some (.slice pf nf cf)):=λw' hb=>by
  have e1:Blk w' w.heap.size #[.string x.name,.slice pe ne ce,.slice pf nf cf] 63:=(hb.block _ (by omega)).trans m4.out;exact ⟨e1.cell 0 _ rfl,e1.cell 1 _ rfl,e1.cell 2 _ rfl⟩
 obtain ⟨q0,q1,q2⟩:=CELLS.out W4 (Below.refl _ _);obtain ⟨e0,e1,e2⟩:=sqB3 r4.out;obtain ⟨f0,f1,f2⟩:=sqF3 r4.out;clear hW4;go_enter Tryz.func49,Tryz.ntmps49;go_wp2_with fail;rw [<-HW4.out]
 go_region_held3 (λw'=>w'.cell? ⟨w.heap.size,0,none⟩=some (.string x.name)/\w'.cell? ⟨w.heap.size,1,none⟩=some (.slice pe ne ce)/\w'.cell? ⟨w.heap.size,2,none⟩=some (.slice pf nf cf))
  (first | exact CELLS.out _ (Below.refl _ _).drew | exact CELLS.out _ K6.out | exact CELLS.out _ K5.out | exact CELLS.out _ (((K6.out.setCell (sqR _) _).setCell (sqR _) _).setCell (sqR _) _) | go_keep)
  (first
   | (have _:=K5;go_at_call 73;refine (CM.out _ M5.out L5.out S5.out).mono ?_;rintro e w6 ⟨cs',fp,rfl,ho,hnd,hrg,hb6⟩;obtain ⟨st,p1,n1,c1,p2,n2,c2,hsh⟩:=ho.shape;subst hsh;have HO:Hid (OMd w6 d [.string st,.slice p1 n1 c1,.slice p2 n2 c2] (mapM (fT (ftC q x.name to)) d x) fp):=ho;have ND:Hid (fp.Nodup/\∀ a ∈ fp,w5.heap.size<=a/\a<w6.heap.size):=⟨hnd,hrg⟩;have L6:Hid (Below W4.heap.size W4 w6):=hb6;have K6:Hid (Below (w.heap.size+1+1+1) W4 w6):=hb6.mono (by have:=S4.out;omega);have rr:=r4.out.next hb6;have HRR:Hid (Blk w6 (w.heap.size+1+1+1) #[.string ⟨#[]⟩,.slice none 0 0,.slice none 0 0] 63):=rr;obtain ⟨e3,e4,e5⟩:=sqB3 rr;obtain ⟨f3,f4,f5⟩:=sqF3 rr;clear ho hnd hrg hb6 rr)
   | (go_at_call 30;refine CR.out.mono ?_;rintro e w5 ⟨rfl,hm5,hb5,hs5⟩;have M5:Hid (ZaV w5 (w.heap.size+5) #[]):=hm5;have L5:Hid (Below W4.heap.size W4 w5):=hb5;have K5:Hid (Below (w.heap.size+1+1+1) W4 w5):=hb5.mono (by have:=S4.out;omega);have S5:Hid (w5.heap.size=w.heap.size+6):=hs5;clear hm5 hb5 hs5))
 go_split_ands;go_wp2_with fail;obtain ⟨W7,hW7⟩:∃ W7,W7=((w6.setCell ⟨w.heap.size+1+1+1,0,none⟩ (.string st)).setCell ⟨w.heap.size+1+1+1,1,none⟩ (.slice p1 n1 c1)).setCell ⟨w.heap.size+1+1+1,2,none⟩ (.slice p2 n2 c2):=⟨_,rfl⟩;have bz:Blk W7 (w.heap.size+1+1+1) #[.string st,.slice p1 n1 c1,.slice p2 n2 c2] 63:=(by rw [hW7];exact ((HRR.out.same rfl).same rfl).same rfl)
 have o7:∀ a,a≠w.heap.size+1+1+1->W7.heap[a]?=w6.heap[a]?:=λa ha=>by rw [hW7,Below.heap_setCell _ _ _ _ ha,Below.heap_setCell _ _ _ _ ha,Below.heap_setCell _ _ _ _ ha]
 have K7:Below (w.heap.size+1+1+1) W4 W7:=(by rw [hW7];exact ((K6.out.setCell (sqR _) _).setCell (sqR _) _).setCell (sqR _) _);have s7:W7.heap.size=w6.heap.size:=(by rw [hW7];simp [World.setCell]);obtain ⟨j0,j1,j2⟩:=sqB3 bz;have s5:=S5.out;have o8:OMd W7 d [.string st,.slice p1 n1 c1,.slice p2 n2 c2] (mapM (fT (ftC q x.name to)) d x) fp:=HO.out.keep (λa ha=>o7 a (by have:=(ND.out.2 a ha).1;omega));have b8:Below w.heap.size w W7:=B4.out.trans (K7.mono (by omega))
 have fin:∃ cs' fp,(Ending.returned (.agg #[.string st,.slice p1 n1 c1,.slice p2 n2 c2]))=.returned (.agg cs'.toArray)/\OMd W7 d cs' (mapM (fT (ftC q x.name to)) d x) fp/\fp.Nodup/\(∀ a ∈ fp,w.heap.size<=a/\a<W7.heap.size)/\Below w.heap.size w W7 :=
  ⟨_,fp,rfl,o8,ND.out.1,λa ha=>by have:=ND.out.2 a ha;omega,b8⟩
 rw [hW7] at fin j0 j1 j2;exact bodyPost_ret (v:=.agg #[.string st,.slice p1 n1 c1,.slice p2 n2 c2]) (by simp [results,Tryz.results49,go_sem,j0,j1,j2]) rfl fin
section
open Go.Proofs.Tryz
def renN (old:Rf) (to:ByteArray) (s:ByteArray) (k:Int):ByteArray:=if (s.toList == old.name.toList && k == old.arity)=true then to else s
def Zbc (old:Rf) (to:ByteArray) (r:Rf):Rf:=⟨renN old to r.name r.arity,r.arity⟩
def Zcy (old:Rf) (to:ByteArray) (f:Fn'):Fn':=⟨renN old to f.name f.arity,f.arity,f.clauses⟩
def CapF (N bo bt:Nat) (old:Rf) (to:ByteArray) (w:World):Prop:=Blk w bo #[.string old.name,.int .i64 old.arity] 84/\Blk w bt #[.string to] 9/\bo<N/\bt<N
theorem CapF.next {N bo bt:Nat} {old:Rf} {to:ByteArray} {w w':World} (h:CapF N bo bt old to w) (hb:Below N w w'):CapF N bo bt old to w' :=
 ⟨(hb.block _ h.2.2.1).trans h.1,(hb.block _ h.2.2.2).trans h.2.1,h.2.2.1,h.2.2.2⟩
theorem ZiR (w:World) (N bo bt:Nat) (old:Rf) (to:ByteArray) (s:ByteArray) (k:Int) (p:Option Addr) (n q:Nat) (hc:CapF N bo bt old to w) :
 Calls prog 92 #[.agg #[.string s,.int .i64 k,.slice p n q],.pointer (some ⟨bo,0,none⟩),.pointer (some ⟨bt,0,none⟩)] w λe w'=>e=.returned (.agg #[.string (renN old to s k),.int .i64 k,.slice p n q])/\Bz w w':=by
 obtain ⟨h1,h2,-⟩:=hc;obtain ⟨on,oa⟩:=old;simp only at h1;obtain ⟨W2,hW2⟩:∃ W2,W2=(w.alloc (.cells #[.string s,.int .i64 k,.slice p n q] 59)).alloc (.cells #[.string ⟨#[]⟩,.int .i64 0,.slice none 0 0] 59):=⟨_,rfl⟩;have HW2:=hid hW2;have B2:Hid (Bz w W2):=(by show Below _ _ _;rw [hW2];exact ((sqN _ _)).alloc (by simp) _);have e2:Hid (Blk W2 w.heap.size #[.string s,.int .i64 k,.slice p n q] 59):=(by show Blk _ _ _ _;rw [hW2];exact Blk.new.alloc)
 have r2:Hid (Blk W2 (w.heap.size+1) #[.string ⟨#[]⟩,.int .i64 0,.slice none 0 0] 59):=by
  have:=Blk.new (w:=w.alloc (.cells #[.string s,.int .i64 k,.slice p n q] 59)) (cs:=#[.string ⟨#[]⟩,.int .i64 0,.slice none 0 0]) (t:=59);rw [Zb] at this;show Blk _ _ _ _;rw [hW2];exact this
 have hl1:=h1.lt;have hl2:=h2.lt;have u1:=hid (h1.next B2.out);have u2:=hid (h2.next B2.out)
 have FIN:Hid (∀ (W3:World) (x:ByteArray),Blk W3 w.heap.size #[.string x,.int .i64 k,.slice p n q] 59->Blk W3 (w.heap.size+1) #[.string ⟨#[]⟩,.int .i64 0,.slice none 0 0] 59->Bz w W3->Blk (((W3.setCell ⟨w.heap.size+1,0,none⟩ (.string x)).setCell ⟨w.heap.size+1,1,none⟩ (.int .i64 k)).setCell ⟨w.heap.size+1,2,none⟩ (.slice p n q)) (w.heap.size+1) #[.string x,.int .i64 k,.slice p n q] 59/\Bz w (((W3.setCell ⟨w.heap.size+1,0,none⟩ (.string x)).setCell ⟨w.heap.size+1,1,none⟩ (.int .i64 k)).setCell ⟨w.heap.size+1,2,none⟩ (.slice p n q))):=λW3 x hE hR hB =>
  ⟨(((hR.same rfl).same rfl).same rfl),(((hB.setCell (Nat.le_succ _) _).setCell (Nat.le_succ _) _).setCell (Nat.le_succ _) _)⟩
 clear hW2 h1 h2;have e1':=refG;have e2':=refE;have l1:=e2.out.lt;have l2:=u1.out.lt;have qa0:∀ mm:Wd (λw'=>Za All W2 w'/\Bz w w'),mm.val.cell? ⟨w.heap.size,0,none⟩=some (.string s):=λmm=>(sqK (mm.ok.1.2 _ trivial l1)).trans (e2.out.cell 0 _ rfl);have qa1:∀ mm:Wd (λw'=>Za All W2 w'/\Bz w w'),mm.val.cell? ⟨w.heap.size,1,none⟩=some (.int .i64 k):=λmm=>(sqK (mm.ok.1.2 _ trivial l1)).trans (e2.out.cell 1 _ rfl);have qa2:∀ mm:Wd (λw'=>Za All W2 w'/\Bz w w'),mm.val.cell? ⟨w.heap.size,2,none⟩=some (.slice p n q):=λmm=>(sqK (mm.ok.1.2 _ trivial l1)).trans (e2.out.cell 2 _ rfl);have qe0:∀ mm:Wd (λw'=>Za All W2 w'/\Bz w w'),mm.val.cell? ⟨bo,0,none⟩=some (.string on):=λmm=>(sqK (mm.ok.1.2 _ trivial l2)).trans (u1.out.cell 0 _ rfl);have qe1:∀ mm:Wd (λw'=>Za All W2 w'/\Bz w w'),mm.val.cell? ⟨bo,1,none⟩=some (.int .i64 oa):=λmm=>(sqK (mm.ok.1.2 _ trivial l2)).trans (u1.out.cell 1 _ rfl);go_enter func92,ntmps92;go_wp2_with fail;rw [<-HW2.out];have hCne:Nonempty (Wd (λw'=>Za All W2 w'/\Bz w w')):=⟨⟨W2.drew,⟨sqS,B2.out.drew⟩⟩⟩;refine Zc (λw'=>Za All W2 w'/\Bz w w') (by kernel_rfl) (by kernel_rfl) ⟨sqS,B2.out.drew⟩ ?_
 repeat (go_big_quiet_step (first | (rename_i mm;go_at_call 93;refine (Zax _ _ _ _ _ _).mono ?_;rintro e w1 ⟨rfl,hb1⟩;exact ⟨rfl,⟨⟨w1,⟨(Za.trans mm.ok.1 (sqO hb1)),mm.ok.2.trans (hb1.mono mm.ok.2.size)⟩⟩,rfl⟩⟩)))
 refine wpQuiet_nil ?_;rintro _ ⟨mq,rfl⟩;have B3:=hid mq.ok.2;have S3:=hid mq.ok.1;generalize mq.val=w3 at B3 S3 ⊢;clear qa0 qa1 qa2 qe0 qe1 l1 l2 e1' e2';have e3:=hid (e2.out.same_on S3.out);have r3:=hid (r2.out.same_on S3.out);have t3:=hid (u2.out.same_on S3.out);generalize hcv:(s.toList == on.toList && k == oa)=cv;have HCV:=hid hcv;clear hcv
 cases cv with
 | true =>
  have HV:Hid (renN ⟨on,oa⟩ to s k=to):=(by show _=_;unfold renN;simp only;rw [HCV.out];rfl);obtain ⟨y0,y1,y2⟩:=sqB3 e3.out;obtain ⟨x0,x1,x2⟩:=sqB3 r3.out;obtain ⟨f0,f1,f2⟩:=sqF3 r3.out;have t0:=t3.out.cell 0 _ rfl;have g0:=e3.out.frozen 0;obtain ⟨W4,hW4⟩:∃ W4,W4=w3.setCell ⟨w.heap.size,0,none⟩ (.string to):=⟨_,rfl⟩;have HW4:=hid hW4;have e4:Hid (Blk W4 w.heap.size #[.string to,.int .i64 k,.slice p n q] 59):=(by show Blk _ _ _ _;rw [hW4];exact e3.out.same rfl);have r4:Hid (Blk W4 (w.heap.size+1) #[.string ⟨#[]⟩,.int .i64 0,.slice none 0 0] 59):=(by show Blk _ _ _ _;rw [hW4];exact r3.out.other (by show w.heap.size+1≠w.heap.size;omega));have B4:Hid (Bz w W4):=(by show Below _ _ _;rw [hW4];exact B3.out.setCell (sqR _) _);obtain ⟨z0,z1,z2⟩:=sqB3 e4.out;obtain ⟨o0,o1,o2⟩:=sqB3 r4.out;obtain ⟨h0,h1,h2⟩:=sqF3 r4.out;clear hW4;go_wp2_with (first | rw [<-HW4.out]);obtain ⟨bz,hz⟩:=FIN.out W4 to e4.out r4.out B4.out;obtain ⟨j0,j1,j2⟩:=sqB3 bz;exact bodyPost_ret (v:=.agg #[.string to,.int .i64 k,.slice p n q]) (by simp [results,results92,go_sem,j0,j1,j2]) rfl ⟨by rw [HV.out],hz⟩
 | false =>
  have HV:Hid (renN ⟨on,oa⟩ to s k=s):=(by show _=_;unfold renN;simp only;rw [HCV.out];rfl);obtain ⟨y0,y1,y2⟩:=sqB3 e3.out;obtain ⟨x0,x1,x2⟩:=sqB3 r3.out;obtain ⟨f0,f1,f2⟩:=sqF3 r3.out;go_wp2_with fail;obtain ⟨bz,hz⟩:=FIN.out w3 s e3.out r3.out B3.out;obtain ⟨j0,j1,j2⟩:=sqB3 bz;exact bodyPost_ret (v:=.agg #[.string s,.int .i64 k,.slice p n q]) (by simp [results,results92,go_sem,j0,j1,j2]) rfl ⟨by rw [HV.out],hz⟩
theorem ZiS (w:World) (N bo bt:Nat) (old:Rf) (to:ByteArray) (s:ByteArray) (k:Int) (hc:CapF N bo bt old to w) :
 Calls prog 95 #[.agg #[.string s,.int .i64 k],.pointer (some ⟨bo,0,none⟩),.pointer (some ⟨bt,0,none⟩)] w λe w'=>e=.returned (.agg #[.string (renN old to s k),.int .i64 k])/\Bz w w':=by
 obtain ⟨h1,h2,-⟩:=hc;obtain ⟨on,oa⟩:=old;simp only at h1;obtain ⟨W2,hW2⟩:∃ W2,W2=(w.alloc (.cells #[.string s,.int .i64 k] 84)).alloc (.cells #[.string ⟨#[]⟩,.int .i64 0] 84):=⟨_,rfl⟩;have HW2:=hid hW2;have B2:Hid (Bz w W2):=(by show Below _ _ _;rw [hW2];exact ((sqN _ _)).alloc (by simp) _);have e2:Hid (Blk W2 w.heap.size #[.string s,.int .i64 k] 84):=(by show Blk _ _ _ _;rw [hW2];exact Blk.new.alloc)
 have r2:Hid (Blk W2 (w.heap.size+1) #[.string ⟨#[]⟩,.int .i64 0] 84):=by
  have:=Blk.new (w:=w.alloc (.cells #[.string s,.int .i64 k] 84)) (cs:=#[.string ⟨#[]⟩,.int .i64 0]) (t:=84);rw [Zb] at this;show Blk _ _ _ _;rw [hW2];exact this
 have hl1:=h1.lt;have hl2:=h2.lt;have u1:=hid (h1.next B2.out);have u2:=hid (h2.next B2.out)
 have FIN:Hid (∀ (W3:World) (x:ByteArray),Blk W3 w.heap.size #[.string x,.int .i64 k] 84->Blk W3 (w.heap.size+1) #[.string ⟨#[]⟩,.int .i64 0] 84->Bz w W3->Blk ((W3.setCell ⟨w.heap.size+1,0,none⟩ (.string x)).setCell ⟨w.heap.size+1,1,none⟩ (.int .i64 k)) (w.heap.size+1) #[.string x,.int .i64 k] 84/\Bz w ((W3.setCell ⟨w.heap.size+1,0,none⟩ (.string x)).setCell ⟨w.heap.size+1,1,none⟩ (.int .i64 k))):=λW3 x hE hR hB =>
  ⟨((hR.same rfl).same rfl),((hB.setCell (Nat.le_succ _) _).setCell (Nat.le_succ _) _)⟩
 clear hW2 h1 h2;have e1':=refG;have e2':=refE
 cases hcv:(s.toList == on.toList && k == oa) with
 | true =>
  have HV:Hid (renN ⟨on,oa⟩ to s k=to):=(by show _=_;unfold renN;simp only;rw [hcv];rfl);have HQ:=hid hcv;obtain ⟨oc0,oc1⟩:=sqB2 u1.out;obtain ⟨y0,y1⟩:=sqB2 e2.out;obtain ⟨x0,x1⟩:=sqB2 r2.out;obtain ⟨f0,f1⟩:=sqF2 r2.out;have t0:=u2.out.cell 0 _ rfl;have g0:=e2.out.frozen 0;obtain ⟨W4,hW4⟩:∃ W4,W4=W2.setCell ⟨w.heap.size,0,none⟩ (.string to):=⟨_,rfl⟩;have HW4:=hid hW4;have e4:Hid (Blk W4 w.heap.size #[.string to,.int .i64 k] 84):=(by show Blk _ _ _ _;rw [hW4];exact e2.out.same rfl);have r4:Hid (Blk W4 (w.heap.size+1) #[.string ⟨#[]⟩,.int .i64 0] 84):=(by show Blk _ _ _ _;rw [hW4];exact r2.out.other (by show w.heap.size+1≠w.heap.size;omega));have B4:Hid (Bz w W4):=(by show Below _ _ _;rw [hW4];exact B2.out.setCell (sqR _) _);obtain ⟨z0,z1⟩:=sqB2 e4.out;obtain ⟨o0,o1⟩:=sqB2 r4.out;obtain ⟨h0,h1⟩:=sqF2 r4.out;clear hW4;go_enter func95,ntmps95;go_wp2_with (first | rw [<-HW2.out] | rw [<-HW4.out]);obtain ⟨bz,hz⟩:=FIN.out W4 to e4.out r4.out B4.out;obtain ⟨j0,j1⟩:=sqB2 bz;exact bodyPost_ret (v:=.agg #[.string to,.int .i64 k]) (by simp [results,results95,go_sem,j0,j1]) rfl ⟨by rw [HV.out],hz⟩
 | false =>
  have HV:Hid (renN ⟨on,oa⟩ to s k=s):=(by show _=_;unfold renN;simp only;rw [hcv];rfl);have HQ:=hid hcv;obtain ⟨oc0,oc1⟩:=sqB2 u1.out;obtain ⟨y0,y1⟩:=sqB2 e2.out;obtain ⟨x0,x1⟩:=sqB2 r2.out;obtain ⟨f0,f1⟩:=sqF2 r2.out;go_enter func95,ntmps95;go_wp2_with (first | rw [<-HW2.out]);obtain ⟨bz,hz⟩:=FIN.out W2 s e2.out r2.out B2.out;obtain ⟨j0,j1⟩:=sqB2 bz;exact bodyPost_ret (v:=.agg #[.string s,.int .i64 k]) (by simp [results,results95,go_sem,j0,j1]) rfl ⟨by rw [HV.out],hz⟩
theorem Zlg {β:Type} (n:Nat) (P:Nat->β->Prop) (h:∀ i,i<n->∃ y,P i y):∃ L:List β,L.length=n/\∀ (i:Nat) y,L[i]?=some y->P i y:=by
 induction n with
 | zero=>exact ⟨[],rfl,λi y hy=>by simp at hy⟩
 | succ n ih =>
  obtain ⟨L,hl,hL⟩:=ih (λi hi=>h i (by omega));obtain ⟨y,hy⟩:=h n (by omega);refine ⟨L ++ [y],by simp [hl],λi z hz=>?_⟩;by_cases hi:i<n
  . rw [List.getElem?_append_left (by omega)] at hz
    exact hL i z hz
  . rw [List.getElem?_append_right (by omega)] at hz
    have:i - L.length=0:=by
     have:=(List.getElem?_eq_some_iff.1 hz).1;simp at this;omega
    rw [this] at hz;simp at hz;subst hz;have:i=n:=(by omega);rw [this];exact hy
def chgF (old:Rf) (to:ByteArray):List Value->List Value
 | [.string s,.int .i64 k,c]=>[.string (renN old to s k),.int .i64 k,c]
 | l=>l
def HCs (_:World) (cs x:List Value):Prop:=cs=x/\Zj0 x
def OCs (_:World) (cs x:List Value) (fp:List Nat):Prop:=cs=x/\Zj0 x/\fp = []
theorem Zj5 (N bo bt:Nat) (old:Rf) (to:ByteArray):Zf2 92 [.pointer (some ⟨bo,0,none⟩),.pointer (some ⟨bt,0,none⟩)] Zj0 N (CapF N bo bt old to) HCs OCs (chgF old to) (λ_=>True) where
 ent:=enters func92 (by kernel_rfl) rfl
 hnext:=λ_ _ _ _ _ _ h=>h
 cnext:=λ_ _ _ hb h=>h.next hb
 hsh:=λ_ _ _ h=>h.1 ▸ h.2
 osh:=λ_ _ _ _ h=>h.1 ▸ h.2.1
 keep:=λ_ _ _ _ _ h _=>h
 call:=λw cs x _ hc hh _=>by
  obtain ⟨rfl,s,k,p,n,q,rfl⟩:=hh;refine (ZiR w N bo bt old to s k p n q hc).mono ?_;rintro e w' ⟨rfl,hb⟩;exact ⟨[.string (renN old to s k),.int .i64 k,.slice p n q],[],rfl,⟨rfl,⟨_,_,_,_,_,rfl⟩,rfl⟩,by simp,by simp,hb⟩
theorem Zj6 {old:Rf} {to s:ByteArray} {k:Int} (h:okS to) (hs:okS s):okS (renN old to s k):=by
 unfold renN;split
 . exact h
 . exact hs
theorem Zj7 (d N bo bt:Nat) (old:Rf) (to:ByteArray) (hto:okS to):Zf2 95 [.pointer (some ⟨bo,0,none⟩),.pointer (some ⟨bt,0,none⟩)] Zmg N (CapF N bo bt old to) (λ_=>HRf) (λw=>ORf w d) (Zbc old to) (λ_=>True) where
 ent:=enters func95 (by kernel_rfl) rfl
 hnext:=λ_ _ _ _ _ _ h=>h
 cnext:=λ_ _ _ hb h=>h.next hb
 hsh:=λ_ _ x h=>by obtain ⟨rfl,-⟩:=h;exact ⟨_,_,rfl⟩
 osh:=λ_ _ x _ h=>by obtain ⟨⟨rfl,-⟩,-⟩:=h;exact ⟨_,_,rfl⟩
 keep:=λ_ _ _ _ _ h _=>h
 call:=λw cs x _ hc hh _=>by
  obtain ⟨rfl,h1,h2⟩:=hh;refine (ZiS w N bo bt old to x.name x.arity hc).mono ?_;rintro e w' ⟨rfl,hb⟩;exact ⟨[.string (renN old to x.name x.arity),.int .i64 x.arity],[],rfl,⟨⟨rfl,Zj6 hto h1,h2⟩,rfl⟩,by simp,by simp,hb⟩
theorem ZhL {d:Nat} {w:World} {v:Value} {fs:List Fn'} {fp:List Nat} (h:Zg w 59 3 (OFn w d) v fs fp) (hl:∀ a ∈ fp,a<w.heap.size) :
 ∃ (L:List (List Value)) (fps:List (List Nat)),L.length=fs.length/\fps.length=fs.length/\Rows w All 3 (HCs w) v L/\(fs≠[]->∃ g,fp=g :: fps.flatten)/\(fs = []->fp = []) /\
  ∀ (i:Nat) f fi cs,fs[i]?=some f->fps[i]?=some fi->L[i]?=some cs->OFn w d cs f fi:=by
 have hsh:=h
 rcases h with ⟨rfl,rfl,p,cap,rfl,hc⟩ | ⟨hne,cells,g,cap,fps,hown,hv,hfl,hfp,hat⟩
 . exact ⟨[],[],rfl,rfl,Rows.nil hc,λh=>absurd rfl h,λ_=>rfl,λi f fi cs h=>by simp at h⟩
 . obtain ⟨L,hL,hLP⟩:=Zlg fs.length (λi cs=>cs.length=3/\(∀ j,j<3->cells[i * 3+j]?=cs[j]?)/\∀ f fi,fs[i]?=some f->fps[i]?=some fi->OFn w d cs f fi) (λi hi=>by
    obtain ⟨cs,h1,h2,h3⟩:=hat i fs[i] (fps[i]'(by omega)) (List.getElem?_eq_getElem hi) (List.getElem?_eq_getElem _);refine ⟨cs,h1,h2,λf fi hf hfi=>?_⟩;rw [List.getElem?_eq_getElem hi] at hf;rw [List.getElem?_eq_getElem (by omega)] at hfi
    cases hf
    cases hfi
    exact h3)
   refine ⟨L,fps,hL,hfl,?_,λ_=>⟨g,hfp⟩,λe=>absurd e hne,λi f fi cs hf hfi hcs=>(hLP i cs hcs).2.2 f fi hf hfi⟩;obtain ⟨p,cap',hv',hcl,hcm⟩:=hsh.shape;rw [hv,Value.slice.injEq] at hv';obtain ⟨rfl,-,rfl⟩:=hv';refine ⟨_,cap,by rw [hL];exact hv,by rw [hL];exact hcl,hcm,λ_=>⟨g,0,rfl,trivial,hl g (by rw [hfp];simp),λi cs hi=>?_⟩⟩;obtain ⟨h1,h2,h3⟩:=hLP i cs hi;have hi':i<fs.length:=(by have:=(List.getElem?_eq_some_iff.1 hi).1;omega);refine ⟨cs,h1,λj hj=>?_,rfl,?_⟩
   . rw [<-h2 j hj,Nat.zero_add]
     rw [hv] at hown;exact hown.cellAt (i * 3+j) (by omega)
   . have h4:=h3 fs[i] (fps[i]'(by omega)) (List.getElem?_eq_getElem hi') (List.getElem?_eq_getElem _)
     obtain ⟨st,sk,p1,n1,q1,rfl⟩:=h4.shape;exact ⟨_,_,_,_,_,rfl⟩
theorem ZhM (d:Nat) (w:World) (v:Value) (fs:List Fn') (fp:List Nat) (bo bt:Nat) (old:Rf) (to:ByteArray) (h:Zg w 59 3 (OFn w d) v fs fp) (hl:∀ a ∈ fp,a<w.heap.size) (hnd:fp.Nodup) (hc:CapF w.heap.size bo bt old to w) (hn:fs.length<=16777216) (hto:okS to) :
 Calls prog 91 #[v,.func (.func 92) #[] #[.pointer (some ⟨bo,0,none⟩),.pointer (some ⟨bt,0,none⟩)]] w λe w' =>
  ∃ u fp',e=.returned u/\Zg w' 59 3 (OFn w' d) u (fs.map (Zcy old to)) fp'/\fp'.Nodup/\(∀ a ∈ fp',(a ∈ fp\/w.heap.size<=a)/\a<w'.heap.size)/\Bz w w':=by
 obtain ⟨L,fps,hL,hfl,hr,hg,hg0,hat⟩:=ZhL h hl;refine (Zj4 w v L (Zj5 w.heap.size bo bt old to) hc hr (by omega) (λ_ _=>trivial)).mono ?_;rintro e w' ⟨u,fp1,rfl,ho,hnd1,hrg1,hb⟩
 rcases ho with ⟨h1,rfl,p,cap,rfl,hcap⟩ | ⟨hne,cells,g',cap,fps',hown,hv,hfl',hfp',hat'⟩
 . have hfs:fs = []:=List.eq_nil_of_length_eq_zero (by rw [<-hL,List.map_eq_nil_iff.1 h1];rfl)
   subst hfs;exact ⟨_,[],rfl,.inl ⟨rfl,rfl,p,cap,rfl,hcap⟩,by simp,by simp,hb⟩
 . have hfs:fs≠[]:=λe=>hne (by have:L = []:=List.eq_nil_of_length_eq_zero (by rw [hL,e];rfl);rw [this];rfl)
   obtain ⟨g,hfp⟩:=hg hfs;have hg':w.heap.size<=g'/\g'<w'.heap.size:=hrg1 g' (by rw [hfp'];simp)
   have hin:∀ a ∈ fps.flatten,a ∈ fp:=λa ha=>by rw [hfp];exact List.mem_cons_of_mem _ ha
   refine ⟨u,g' :: fps.flatten,rfl,.inr ⟨λe=>hfs (List.map_eq_nil_iff.1 e),cells,g',cap,fps,?_,?_,by rw [List.length_map];exact hfl,rfl,λi f' fi hf' hfi=>?_⟩,?_,?_,hb⟩
   . rw [List.length_map];rw [List.length_map,hL] at hown;exact hown
   . rw [List.length_map];rw [List.length_map,hL] at hv;exact hv
   . rw [List.getElem?_map] at hf'
     obtain ⟨f,hf,rfl⟩:=Option.map_eq_some_iff.1 hf';have hi:i<fs.length:=(List.getElem?_eq_some_iff.1 hf).1;have hLi:L[i]?=some (L[i]'(by omega)):=List.getElem?_eq_getElem _;obtain ⟨cs,c1,c2,rfl,c3,-⟩:=hat' i (chgF old to (L[i]'(by omega))) (fps'[i]'(by rw [hfl',List.length_map];omega)) (by rw [List.getElem?_map,hLi];rfl) (List.getElem?_eq_getElem _);refine ⟨_,c1,c2,?_⟩;have hO:=hat i f fi _ hf hfi hLi;generalize L[i]'(by omega)=cs at hO;have hk:Zj fi w w':=λa ha=>hb.block a (hl a (hin a (List.mem_flatten.2 ⟨fi,List.mem_of_getElem? hfi,ha⟩)));obtain ⟨cv,e1,o1,o2,o3⟩:=hO.keep hk;subst e1;exact ⟨cv,rfl,Zj6 hto o1,o2,o3⟩
   . rw [hfp] at hnd
     rw [List.nodup_cons] at hnd ⊢;exact ⟨λhm=>by have:=hl g' (hin g' hm);omega,hnd.2⟩
   . intro a ha
     rcases List.mem_cons.1 ha with rfl | ha
     . exact ⟨Or.inr hg'.1,hg'.2⟩
     . exact ⟨Or.inl (hin a ha),Nat.lt_of_lt_of_le (hl a (hin a ha)) hb.size⟩
theorem ZhN (d:Nat) (w:World) (v:Value) (rs:List Rf) (bo bt:Nat) (old:Rf) (to:ByteArray) (h:Rows w All 2 HRf v rs) (hc:CapF w.heap.size bo bt old to w) (hn:rs.length<=16777216) (hto:okS to) :
 Calls prog 94 #[v,.func (.func 95) #[] #[.pointer (some ⟨bo,0,none⟩),.pointer (some ⟨bt,0,none⟩)]] w λe w' =>
  ∃ u fp',e=.returned u/\Zg w' 84 2 (ORf w' d) u (rs.map (Zbc old to)) fp'/\fp'.Nodup/\(∀ a ∈ fp',w.heap.size<=a/\a<w'.heap.size)/\Bz w w' :=
 Zj2 w v rs (Zj7 d w.heap.size bo bt old to hto) hc h hn (λ_ _=>trivial)
end
end Go.Proofs.YtdhlonogmnkemaaGreatDoor
