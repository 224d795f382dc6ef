/-
  Texts of the proof, packed: CheckImplA, CheckImplB, CheckSpecB, CheckSpecC, CheckSpecD, NameSpecC, NameMath4, NameSpecH, NameSpecI, NameSpecJ, NameMath5, NameMath6, LooseMath, CheckSpecE, CheckSpecF, EachGen, EachCall, CheckImplC, CheckImplD, CheckImplE, CheckImplF, CheckImplG, Backward, RangeIdx, SetAt, SetOps, EachRem, CopyN.
-/
import Derived.Test.YtdhlonogmnkemaaGreatDoorPackA
import Derived.Test.YtdhlonogmnkemaaGreatDoorPackC
import Derived.Deep.RegionLaw
import Derived.Test.YtdhlonogmnkemaaGreatDoorPackB
import Derived.Maps.Own
import Derived.Maps.OwnSet
import Derived.StringKeys
import Derived.Lib.SlMapMerge
import Derived.WalkKit
import Derived.Maps.Ext
import Derived.Maps.RangeWalk
import Derived.Laws.IdiomRangeMap
set_option maxHeartbeats 16000000
namespace Go.Proofs.YtdhlonogmnkemaaGreatDoor
open Go.ChangeShapes Go.WideShapes Go.ChangeAt Go.RowKit Go.Proofs.Tryz
set_option linter.unusedVariables false
set_option maxRecDepth 100000
theorem isPut_any (w:World) (s:ByteArray) (n:Int) :
 Calls prog 132 #[.agg #[.string s,.int .i64 n]] w fun e w'=>e=.returned (.bool (isPutB s n))∧Bz w w':=by
 have BL:Hid (∀ (cs:Array Value) (t:TypeId),Bz w (w.alloc (.cells cs t))):=fun cs t=>(sqN _ _);have HV:Hid (isPutB s n=(s.toList == [112,117,116] && n == 1)):=rfl
 cases hp:(s.toList == [112,117,116]) with
 | false =>
  have hp2:¬ s.toList = [112,117,116]:=(by simpa using hp);go_enter func132,ntmps132;go_wp2_with fail;go_ret;exact ⟨by rw [HV.out,hp];rfl,BL.out _ _⟩
 | true =>
  have hp2:s.toList = [112,117,116]:=(by simpa using hp);go_enter func132,ntmps132;go_wp2_with fail;go_ret;exact ⟨by rw [HV.out,hp];rfl,BL.out _ _⟩
theorem calledRef_any (w:World) (k n:Int) (t m:ByteArray) (p1 p2:Option Addr) (n1 q1 n2 q2:Nat) (h1:n1≤9223372036854775807) :
 Calls prog 133 #[.agg #[.int .i64 k,.int .i64 n,.string t,.string m,.slice p1 n1 q1,.slice p2 n2 q2]] w fun e w'=>e=.returned (.agg #[.string t,.int .i64 (n1:Int)])∧Bz w w':=by
 have BL:Hid (∀ (cs:Array Value) (t:TypeId),Bz w (w.alloc (.cells cs t))):=fun cs t=>(sqN _ _);have BL2:Hid (∀ (cs cs':Array Value) (t t':TypeId),Bz w ((w.alloc (.cells cs t)).alloc (.cells cs' t'))):=fun cs cs' t t'=>((sqN _ _)).alloc (by simp) _
 have RB:Hid (∀ (cs:Array Value) (ty:TypeId),Blk ((w.alloc (.cells cs ty)).alloc (.cells #[.string t,.int .i64 (n1:Int)] 84)) (w.heap.size+1) #[.string t,.int .i64 (n1:Int)] 84):=fun cs ty=>by
  have:=Blk.new (w:=w.alloc (.cells cs ty)) (cs:=#[.string t,.int .i64 (n1:Int)]) (t:=84)
  rwa [alloc_hs] at this
 go_enter func133,ntmps133;go_wp2_with fail;have b:=RB.out #[.int .i64 k,.int .i64 n,.string t,.string m,.slice p1 n1 q1,.slice p2 n2 q2] 76;obtain ⟨y0,y1⟩:=sqB2 b;exact bodyPost_ret (v:=.agg #[.string t,.int .i64 (n1:Int)]) (by simp [results,results133,go_sem,y0,y1]) rfl ⟨rfl,BL2.out _ _ _ _⟩
theorem problemOf_any (w:World) (s:ByteArray) (p1 p2:Option Addr) (n1 q1 n2 q2:Nat) (rs:ByteArray) (rn:Int) (c:ByteArray) :
 Calls prog 153 #[.agg #[.string s,.slice p1 n1 q1,.slice p2 n2 q2],.agg #[.string rs,.int .i64 rn],.string c] w fun e w'=>e=.returned (.agg #[.string s,.string rs,.int .i64 rn,.string c])∧Bz w w':=by
 have BL3:Hid (∀ (cs cs' cs'':Array Value) (t t' t'':TypeId),Bz w (((w.alloc (.cells cs t)).alloc (.cells cs' t')).alloc (.cells cs'' t''))):=fun cs cs' cs'' t t' t''=>(((sqN _ _)).alloc (by simp only [alloc_hs];omega) _).alloc (by simp only [alloc_hs];omega) _
 have RB:Hid (∀ (cs cs':Array Value) (ty ty':TypeId),Blk (((w.alloc (.cells cs ty)).alloc (.cells cs' ty')).alloc (.cells #[.string s,.string rs,.int .i64 rn,.string c] 141)) (w.heap.size+1+1) #[.string s,.string rs,.int .i64 rn,.string c] 141):=fun cs cs' ty ty'=>by
  have:=Blk.new (w:=(w.alloc (.cells cs ty)).alloc (.cells cs' ty')) (cs:=#[.string s,.string rs,.int .i64 rn,.string c]) (t:=141);simp only [alloc_hs] at this;exact this
 go_enter func153,ntmps153;go_wp2_with fail;have b:=RB.out #[.string s,.slice p1 n1 q1,.slice p2 n2 q2] #[.string rs,.int .i64 rn] 63 84;obtain ⟨y0,y1,y2,y3⟩:=sqB4 b;exact bodyPost_ret (v:=.agg #[.string s,.string rs,.int .i64 rn,.string c]) (by simp [results,results153,go_sem,y0,y1,y2,y3]) rfl ⟨rfl,BL3.out _ _ _ _ _ _⟩
theorem pbG:prog.eqGuardType prog.depth 141=false:=by kernel_rfl
theorem pbH:prog.stoodInHeld 141=false:=by kernel_rfl
theorem pbU:prog.underlying 141=some (.struct (prog.fieldsOf 141)):=by kernel_rfl
theorem pbE (a a' b b' e e':ByteArray) (n n':Int) (w:World):(Op.equalIn 10000 141 (.agg #[.string a,.string b,.int .i64 n,.string e]) (.agg #[.string a',.string b',.int .i64 n',.string e'])).run prog w=.ok ((a.toList == a'.toList) && ((b.toList == b'.toList) && ((n == n') && (e.toList == e'.toList)))) w:=by
 rw [show (10000:Nat)=9999+1 from rfl,run_equalIn_struct w 9999 _ _ _ pbU pbH]
 cases h1:(a.toList == a'.toList) <;> cases h2:(b.toList == b'.toList) <;> cases h3:(n == n') <;> cases h4:(e.toList == e'.toList) <;> simp [go_sem,Program.fieldsOf,underlying141,underlying3,underlying9,Op.eqFields,h1,h2,h3,h4]
def samePb (q x:Pb):Bool:=q.mod.toList == x.mod.toList && (q.name.toList == x.name.toList && (q.arity == x.arity && q.code.toList == x.code.toList))
theorem indexR_any (w:World) (v:Value) (l:List Rf) (s:ByteArray) (n:Int) (h:Rows w All 2 HRf v l) :
 Calls prog 163 #[v,.agg #[.string s,.int .i64 n]] w fun e w'=>e=.returned (.int .i64 (findI (sameRf s n) l))∧Bz w w':=by
 obtain ⟨p,cap,rfl,hcl,hcm,hx⟩:=h;have hnb:=sqM hcl hcm;generalize hn:l.length=n9 at *;have HN:=hid hn;have HX:=hid hx;obtain ⟨W1,hW1⟩:∃ W1,W1=w.alloc (.cells #[.string s,.int .i64 n] 84):=⟨_,rfl⟩;have bA:Hid (Blk W1 w.heap.size #[.string s,.int .i64 n] 84):=(by show Blk _ _ _ _;rw [hW1];exact Blk.new);have B1:Hid (Bz w W1):=(by show Below _ _ _;rw [hW1];exact (sqN _ _));have HW1:=hid hW1;clear hx hn hW1;go_enter func163,ntmps163;go_wp2_with fail;rw [← HW1.out]
 go_loopw [8] (fun iv wr=>∃ k:Nat,k≤n9∧iv=.int .i64 k∧Hid ((l.take k).any (sameRf s n)=false)∧Hid (SameOn All W1 wr)∧Bz w wr) (fun iv _=>n9 - (intOf iv).toNat)
 case atStart=>exact ⟨0,Nat.zero_le _,rfl,by show _=_;simp,⟨Nat.le_refl _,fun _ _ _=>rfl⟩,B1.out⟩
 case round =>
  obtain ⟨k,hk,rfl,hall,hso,hb⟩:=hrel;have HB:=hid hb;have bR:=bA.out.same_on hso.out;by_cases hlt:k<n9
  · obtain ⟨x,hxk⟩:=sqA (l:=l) (k:=k) HN.out hlt
    obtain ⟨g,off,rfl,-,hgl,hat⟩:=HX.out (sqE hxk);obtain ⟨cs,hcsl,hcs,rfl,-⟩:=hat k x hxk;obtain ⟨a0,a1⟩:=sqC2 hcs (by omega);rw [← hb.cell (p:=⟨g,_,none⟩) hgl] at a0 a1;simp at a0 a1;have hki:(k:Int)<(n9:Int):=(by omega);have hk0:=sqI k;have hgw:g<wr.heap.size:=Nat.lt_of_lt_of_le hgl hb.size;have l1:=bR.lt;obtain ⟨y0,y1⟩:=sqB2 bR;have qy0:∀ m:Wd (fun w'=>SameOn All wr w'∧Bz w w'),m.val.cell? ⟨w.heap.size,0,none⟩=some (.string s):=fun m=>(sqK (m.ok.1.2 w.heap.size trivial l1)).trans y0;have qy1:∀ m:Wd (fun w'=>SameOn All wr w'∧Bz w w'),m.val.cell? ⟨w.heap.size,1,none⟩=some (.int .i64 n):=fun m=>(sqK (m.ok.1.2 w.heap.size trivial l1)).trans y1;have qz0:∀ m:Wd (fun w'=>SameOn All wr w'∧Bz w w'),m.val.cell? ⟨g,off+k * 2,none⟩=some (.string x.name):=fun m=>(sqK (m.ok.1.2 g trivial hgw)).trans a0;have qz1:∀ m:Wd (fun w'=>SameOn All wr w'∧Bz w w'),m.val.cell? ⟨g,off+k * 2+1,none⟩=some (.int .i64 x.arity):=fun m=>(sqK (m.ok.1.2 g trivial hgw)).trans a1;clear hb hcs hat hcsl l1 bR a0 a1 y0 y1;go_wp2_with fail;have e1:=refG;have e2:=refE;have hCne:Nonempty (Wd (fun w'=>SameOn All wr w'∧Bz w w')):=⟨⟨wr.drew,⟨⟨Nat.le_refl _,fun _ _ _=>rfl⟩,HB.out.drew⟩⟩⟩;refine wp_region_class (fun w'=>SameOn All wr w'∧Bz w w') (by kernel_rfl) (by kernel_rfl) ⟨⟨Nat.le_refl _,fun _ _ _=>rfl⟩,HB.out.drew⟩ ?_
    repeat (go_big_quiet_step (fail))
    refine wpQuiet_nil ?_;rintro _ ⟨mq,rfl⟩;have HB4:=hid mq.ok.2;have HS4:=hid (hso.out.trans mq.ok.1);generalize mq.val=w4 at HB4 HS4 ⊢;generalize hcv:(s.toList == x.name.toList && n == x.arity)=cv
    have hcf:sameRf s n x=cv:=by rw [← hcv];simp only [sameRf];congr 1 <;> exact Bool.beq_comm
    clear hcv
    cases cv with
    | false =>
     have HT':=hid (anyT_succ _ l k _ hxk hall.out hcf);clear hcf;go_wp2_with fail;exact ⟨⟨k+1,by omega,by go_num,HT'.out,HS4.out,HB4.out⟩,by simp [intOf];omega⟩
    | true =>
     have HF:=hid (findI_at hall.out hxk hcf);clear hcf;go_wp2_with fail;go_ret;exact ⟨by rw [HF.out];rfl,HB4.out⟩
  · have HS:Hid (findI (sameRf s n) l = -1):=findI_none (by
     have:=hall.out
     rwa [List.take_of_length_le (by rw [HN.out];omega)] at this)
    clear bR;go_wp2;go_ret;exact ⟨by rw [HS.out];rfl,HB.out⟩
theorem containsR_any (w:World) (v:Value) (l:List Rf) (s:ByteArray) (n:Int) (h:Rows w All 2 HRf v l) :
 Calls prog 131 #[v,.agg #[.string s,.int .i64 n]] w fun e w'=>e=.returned (.bool (l.any (sameRf s n)))∧Bz w w':=by
 have hb0:Bz w (w.alloc (.cells #[.string s,.int .i64 n] 84)):=(sqN _ _);have CI:=hid (indexR_any _ v l s n (h.mono (sqO hb0) (fun _ h=>h) (fun _ _ _ h=>h)));have HB0:=hid hb0;obtain ⟨p,cap,rfl,-⟩:=h;clear hb0
 rcases findI_cases (sameRf s n) l with ⟨hf,hfi⟩ | ⟨k,y,hf,-,-,hfi,-⟩
 · have HF:=hid hf
   rw [hfi] at CI;clear hf hfi;go_enter func131,ntmps131;go_wp2_with fail;refine CI.out.mono ?_;rintro e w1 ⟨rfl,hb⟩;have B1:=hid (HB0.out.trans (hb.mono HB0.out.size));clear hb;go_wp2_with fail;go_ret;exact ⟨by rw [HF.out];rfl,B1.out⟩
 · have HF:=hid hf
   rw [hfi] at CI;have hk0:=sqI k;clear hf hfi;go_enter func131,ntmps131;go_wp2_with fail;refine CI.out.mono ?_;rintro e w1 ⟨rfl,hb⟩;have B1:=hid (HB0.out.trans (hb.mono HB0.out.size));clear hb;go_wp2_with fail;go_ret;exact ⟨by rw [HF.out];first | rfl | simp,B1.out⟩
theorem indexP_any (w:World) (v:Value) (l:List Pb) (q:Pb) (h:Rows w All 4 HPb v l) :
 Calls prog 215 #[v,.agg #[.string q.mod,.string q.name,.int .i64 q.arity,.string q.code]] w fun e w'=>e=.returned (.int .i64 (findI (samePb q) l))∧Bz w w':=by
 obtain ⟨p,cap,rfl,hcl,hcm,hx⟩:=h;have hnb:=sqM hcl hcm;generalize hn:l.length=n9 at *;have HN:=hid hn;have HX:=hid hx;obtain ⟨W1,hW1⟩:∃ W1,W1=w.alloc (.cells #[.string q.mod,.string q.name,.int .i64 q.arity,.string q.code] 141):=⟨_,rfl⟩;have bA:Hid (Blk W1 w.heap.size #[.string q.mod,.string q.name,.int .i64 q.arity,.string q.code] 141):=(by show Blk _ _ _ _;rw [hW1];exact Blk.new);have B1:Hid (Bz w W1):=(by show Below _ _ _;rw [hW1];exact (sqN _ _));have HW1:=hid hW1;clear hx hn hW1;go_enter func215,ntmps215;go_wp2_with fail;rw [← HW1.out]
 go_loopw [8] (fun iv wr=>∃ k:Nat,k≤n9∧iv=.int .i64 k∧Hid ((l.take k).any (samePb q)=false)∧Hid (SameOn All W1 wr)∧Bz w wr) (fun iv _=>n9 - (intOf iv).toNat)
 case atStart=>exact ⟨0,Nat.zero_le _,rfl,by show _=_;simp,⟨Nat.le_refl _,fun _ _ _=>rfl⟩,B1.out⟩
 case round =>
  obtain ⟨k,hk,rfl,hall,hso,hb⟩:=hrel;have HB:=hid hb;have bR:=bA.out.same_on hso.out;by_cases hlt:k<n9
  · obtain ⟨x,hxk⟩:=sqA (l:=l) (k:=k) HN.out hlt
    obtain ⟨g,off,rfl,-,hgl,hat⟩:=HX.out (sqE hxk);obtain ⟨cs,hcsl,hcs,rfl,-⟩:=hat k x hxk;obtain ⟨a0,a1,a2,a3⟩:=sqC4 hcs (by omega);rw [← hb.cell (p:=⟨g,_,none⟩) hgl] at a0 a1 a2 a3;simp at a0 a1 a2 a3;have hki:(k:Int)<(n9:Int):=(by omega);have hk0:=sqI k;have hgw:g<wr.heap.size:=Nat.lt_of_lt_of_le hgl hb.size;have l1:=bR.lt;obtain ⟨y0,y1,y2,y3⟩:=sqB4 bR;have qy0:∀ m:Wd (fun w'=>SameOn All wr w'∧Bz w w'),m.val.cell? ⟨w.heap.size,0,none⟩=some (.string q.mod):=fun m=>(sqK (m.ok.1.2 w.heap.size trivial l1)).trans y0;have qy1:∀ m:Wd (fun w'=>SameOn All wr w'∧Bz w w'),m.val.cell? ⟨w.heap.size,1,none⟩=some (.string q.name):=fun m=>(sqK (m.ok.1.2 w.heap.size trivial l1)).trans y1;have qy2:∀ m:Wd (fun w'=>SameOn All wr w'∧Bz w w'),m.val.cell? ⟨w.heap.size,2,none⟩=some (.int .i64 q.arity):=fun m=>(sqK (m.ok.1.2 w.heap.size trivial l1)).trans y2;have qy3:∀ m:Wd (fun w'=>SameOn All wr w'∧Bz w w'),m.val.cell? ⟨w.heap.size,3,none⟩=some (.string q.code):=fun m=>(sqK (m.ok.1.2 w.heap.size trivial l1)).trans y3;have qz0:∀ m:Wd (fun w'=>SameOn All wr w'∧Bz w w'),m.val.cell? ⟨g,off+k * 4,none⟩=some (.string x.mod):=fun m=>(sqK (m.ok.1.2 g trivial hgw)).trans a0;have qz1:∀ m:Wd (fun w'=>SameOn All wr w'∧Bz w w'),m.val.cell? ⟨g,off+k * 4+1,none⟩=some (.string x.name):=fun m=>(sqK (m.ok.1.2 g trivial hgw)).trans a1;have qz2:∀ m:Wd (fun w'=>SameOn All wr w'∧Bz w w'),m.val.cell? ⟨g,off+k * 4+2,none⟩=some (.int .i64 x.arity):=fun m=>(sqK (m.ok.1.2 g trivial hgw)).trans a2;have qz3:∀ m:Wd (fun w'=>SameOn All wr w'∧Bz w w'),m.val.cell? ⟨g,off+k * 4+3,none⟩=some (.string x.code):=fun m=>(sqK (m.ok.1.2 g trivial hgw)).trans a3;clear hb hcs hat hcsl l1 bR a0 a1 a2 a3 y0 y1 y2 y3;go_wp2_with fail;have e1:=pbG;have e2:=pbE;have hCne:Nonempty (Wd (fun w'=>SameOn All wr w'∧Bz w w')):=⟨⟨wr.drew,⟨⟨Nat.le_refl _,fun _ _ _=>rfl⟩,HB.out.drew⟩⟩⟩;refine wp_region_class (fun w'=>SameOn All wr w'∧Bz w w') (by kernel_rfl) (by kernel_rfl) ⟨⟨Nat.le_refl _,fun _ _ _=>rfl⟩,HB.out.drew⟩ ?_
    repeat (go_big_quiet_step (fail))
    refine wpQuiet_nil ?_;rintro _ ⟨mq,rfl⟩;have HB4:=hid mq.ok.2;have HS4:=hid (hso.out.trans mq.ok.1);generalize mq.val=w4 at HB4 HS4 ⊢;generalize hcv:(q.mod.toList == x.mod.toList && (q.name.toList == x.name.toList && (q.arity == x.arity && q.code.toList == x.code.toList)))=cv;have hcf:samePb q x=cv:=(by rw [← hcv];rfl);clear hcv
    cases cv with
    | false =>
     have HT':=hid (anyT_succ _ l k _ hxk hall.out hcf);clear hcf;go_wp2_with fail;exact ⟨⟨k+1,by omega,by go_num,HT'.out,HS4.out,HB4.out⟩,by simp [intOf];omega⟩
    | true =>
     have HF:=hid (findI_at hall.out hxk hcf);clear hcf;go_wp2_with fail;go_ret;exact ⟨by rw [HF.out];rfl,HB4.out⟩
  · have HS:Hid (findI (samePb q) l = -1):=findI_none (by
     have:=hall.out
     rwa [List.take_of_length_le (by rw [HN.out];omega)] at this)
    clear bR;go_wp2;go_ret;exact ⟨by rw [HS.out];rfl,HB.out⟩
theorem containsP_any (w:World) (v:Value) (l:List Pb) (q:Pb) (h:Rows w All 4 HPb v l) :
 Calls prog 190 #[v,.agg #[.string q.mod,.string q.name,.int .i64 q.arity,.string q.code]] w fun e w'=>e=.returned (.bool (l.any (samePb q)))∧Bz w w':=by
 have hb0:Bz w (w.alloc (.cells #[.string q.mod,.string q.name,.int .i64 q.arity,.string q.code] 141)):=(sqN _ _);have CI:=hid (indexP_any _ v l q (h.mono (sqO hb0) (fun _ h=>h) (fun _ _ _ h=>h)));have HB0:=hid hb0;obtain ⟨p,cap,rfl,-⟩:=h;clear hb0
 rcases findI_cases (samePb q) l with ⟨hf,hfi⟩ | ⟨k,y,hf,-,-,hfi,-⟩
 · have HF:=hid hf
   rw [hfi] at CI;clear hf hfi;go_enter func190,ntmps190;go_wp2_with fail;refine CI.out.mono ?_;rintro e w1 ⟨rfl,hb⟩;have B1:=hid (HB0.out.trans (hb.mono HB0.out.size));clear hb;go_wp2_with fail;go_ret;exact ⟨by rw [HF.out];rfl,B1.out⟩
 · have HF:=hid hf
   rw [hfi] at CI;have hk0:=sqI k;clear hf hfi;go_enter func190,ntmps190;go_wp2_with fail;refine CI.out.mono ?_;rintro e w1 ⟨rfl,hb⟩;have B1:=hid (HB0.out.trans (hb.mono HB0.out.size));clear hb;go_wp2_with fail;go_ret;exact ⟨by rw [HF.out];first | rfl | simp,B1.out⟩
def modOr (ms:List Md) (s:ByteArray):Md:=(ms.find? (named s)).getD ⟨⟨#[]⟩,[],[]⟩
theorem find_at {α:Type} {f:α→Bool} {xs:List α} {k:Nat} {x:α} (h:(xs.take k).any f=false) (hx:xs[k]?=some x) (hf:f x=true):xs.find? f=some x∧xs.any f=true:=by
 obtain ⟨hk,he⟩:=List.getElem?_eq_some_iff.1 hx;refine ⟨?_,List.any_eq_true.2 ⟨x,List.mem_of_getElem? hx,hf⟩⟩;rw [List.find?_eq_some_iff_getElem];refine ⟨hf,k,hk,he,fun j hj=>?_⟩;have:=List.any_eq_false.1 h (xs[j]) (List.mem_of_getElem? (i:=j) (by rw [List.getElem?_take,if_pos hj];exact List.getElem?_eq_getElem _))
 simpa using this
theorem named_any (d:Nat) (w:World) (v:Value) (ms:List Md) (s:ByteArray) (h:Rows w All 3 (HMd w All d) v ms) :
 Calls prog 129 #[v,.string s] w fun e w'=>∃ cs:List Value,e=.returned (.tuple #[.agg cs.toArray,.bool (ms.any (named s))])∧HMd w' All d cs (modOr ms s)∧Bz w w':=by
 obtain ⟨p,cap,rfl,hcl,hcm,hx⟩:=h;have hnb:=sqM hcl hcm;generalize hn:ms.length=n at *;have HN:=hid hn;have HX:=hid hx;obtain ⟨W1,hW1⟩:∃ W1,W1=w.alloc (.cells #[.string ⟨#[]⟩,.slice none 0 0,.slice none 0 0] 63):=⟨_,rfl⟩;have bR:Hid (Blk W1 w.heap.size #[.string ⟨#[]⟩,.slice none 0 0,.slice none 0 0] 63):=(by show Blk _ _ _ _;rw [hW1];exact Blk.new);have B1:Hid (Bz w W1):=(by show Below _ _ _;rw [hW1];exact (sqN _ _));have HW1:=hid hW1;clear hx hn hW1;go_enter func129,ntmps129;go_wp2_with fail;rw [← HW1.out]
 go_loopw [10] (fun iv wr=>∃ k:Nat,k≤n∧iv=.int .i64 k∧Hid ((ms.take k).any (named s)=false)∧Hid (SameOn All W1 wr)∧Bz w wr) (fun iv _=>n - (intOf iv).toNat)
 case atStart=>exact ⟨0,Nat.zero_le _,rfl,by show _=_;simp,⟨Nat.le_refl _,fun _ _ _=>rfl⟩,B1.out⟩
 case round =>
  obtain ⟨k,hk,rfl,hall,hso,hb⟩:=hrel;have HB:=hid hb;have bRr:=hid (bR.out.same_on hso.out);by_cases hlt:k<n
  · obtain ⟨x,hxk⟩:=sqA (l:=ms) (k:=k) HN.out hlt
    obtain ⟨g,off,rfl,-,hgl,hat⟩:=HX.out (sqE hxk);obtain ⟨cs,hcsl,hcs,hm⟩:=hat k x hxk;have HMX:Hid (∀ w',Bz w w'→HMd w' All d cs x):=fun w' hw=>hm.mono (sqO hw) (fun _ h=>h);obtain ⟨ev,fv,rfl,-,⟨pe,ce,rfl,-⟩,⟨pf,cf,rfl,-⟩⟩:=hm;obtain ⟨a0,a1,a2⟩:=sqC3 hcs (by omega);rw [← hb.cell (p:=⟨g,_,none⟩) hgl] at a0 a1 a2;simp at a0 a1 a2;have hki:(k:Int)<(n:Int):=(by omega);have hk0:=sqI k;have hal:Bz wr (wr.alloc (.cells #[.string x.name,.slice pe x.exports.length ce,.slice pf x.funs.length cf] 63)):=(sqN _ _);have HAL:=hid hal;have HBA:=hid (hb.trans (hal.mono hb.size));have HSA:=hid (hso.out.trans (sqO hal));have bRa:=hid (bRr.out.next hal);obtain ⟨r0,r1,r2⟩:=sqB3 bRa.out;obtain ⟨f0,f1,f2⟩:=sqF3 bRa.out;clear hcs hat hcsl hal
    cases hq:(x.name.toList == s.toList) with
    | true =>
     obtain ⟨hfd,hany⟩:=find_at hall.out hxk (show named s x=true from hq);have HFD:Hid (modOr ms s=x∧ms.any (named s)=true):=⟨by simp [modOr,hfd],hany⟩;clear hfd hany;go_wp2_with fail;have bz:Blk ((((wr.alloc (.cells #[.string x.name,.slice pe x.exports.length ce,.slice pf x.funs.length cf] 63)).setCell ⟨w.heap.size,0,none⟩ (.string x.name)).setCell ⟨w.heap.size,1,none⟩ (.slice pe x.exports.length ce)).setCell ⟨w.heap.size,2,none⟩ (.slice pf x.funs.length cf)) w.heap.size #[.string x.name,.slice pe x.exports.length ce,.slice pf x.funs.length cf] 63:=((bRa.out.same rfl).same rfl).same rfl;have hz:Bz w ((((wr.alloc (.cells #[.string x.name,.slice pe x.exports.length ce,.slice pf x.funs.length cf] 63)).setCell ⟨w.heap.size,0,none⟩ (.string x.name)).setCell ⟨w.heap.size,1,none⟩ (.slice pe x.exports.length ce)).setCell ⟨w.heap.size,2,none⟩ (.slice pf x.funs.length cf)):=((HBA.out.setCell (sqR _) _).setCell (sqR _) _).setCell (sqR _) _;obtain ⟨z0,z1,z2⟩:=sqB3 bz;exact bodyPost_ret (v:=.tuple #[.agg #[.string x.name,.slice pe x.exports.length ce,.slice pf x.funs.length cf],.bool true]) (by simp [results,results129,go_sem,z0,z1,z2]) rfl ⟨_,by rw [HFD.out.2],by rw [HFD.out.1];exact HMX.out _ hz,hz⟩
    | false =>
     have HT':=hid (anyT_succ _ ms k _ hxk hall.out hq);go_wp2_with fail;exact ⟨⟨k+1,by omega,by go_num,HT'.out,HSA.out,HBA.out⟩,by simp [intOf];omega⟩
  · have HS:Hid (ms.any (named s)=false):=by
     have:=hall.out
     rwa [List.take_of_length_le (by rw [HN.out];omega)] at this
    have HMO:Hid (modOr ms s=⟨⟨#[]⟩,[],[]⟩):=by
     have:ms.find? (named s)=none:=List.find?_eq_none.2 (fun x hx=>by simpa using List.any_eq_false.1 HS.out x hx);show _=_;simp [modOr,this]
    obtain ⟨r0,r1,r2⟩:=sqB3 bRr.out;obtain ⟨f0,f1,f2⟩:=sqF3 bRr.out;go_wp2_with fail;have bz:Blk (((wr.setCell ⟨w.heap.size,0,none⟩ (.string ⟨#[]⟩)).setCell ⟨w.heap.size,1,none⟩ (.slice none 0 0)).setCell ⟨w.heap.size,2,none⟩ (.slice none 0 0)) w.heap.size #[.string ⟨#[]⟩,.slice none 0 0,.slice none 0 0] 63:=((bRr.out.same rfl).same rfl).same rfl;have hz:Bz w (((wr.setCell ⟨w.heap.size,0,none⟩ (.string ⟨#[]⟩)).setCell ⟨w.heap.size,1,none⟩ (.slice none 0 0)).setCell ⟨w.heap.size,2,none⟩ (.slice none 0 0)):=((HB.out.setCell (sqR _) _).setCell (sqR _) _).setCell (sqR _) _;obtain ⟨z0,z1,z2⟩:=sqB3 bz;exact bodyPost_ret (v:=.tuple #[.agg #[.string ⟨#[]⟩,.slice none 0 0,.slice none 0 0],.bool false]) (by simp [results,results129,go_sem,z0,z1,z2]) rfl ⟨[.string ⟨#[]⟩,.slice none 0 0,.slice none 0 0],by rw [HS.out],by rw [HMO.out];exact ⟨_,_,rfl,by unfold okS;decide,Rows.nil (Nat.zero_le _),Rows.nil (Nat.zero_le _)⟩,hz⟩
theorem offers_eq (ms:List Md) (mod s:ByteArray) (n:Int):offersB ms mod s n=(ms.any (named mod) && (hasX (modOr ms mod) s n && hasF (modOr ms mod) s n)):=by
 cases h:ms.find? (named mod) with
 | none =>
  have:ms.any (named mod)=false:=List.any_eq_false.2 (fun x hx=>by simpa using List.find?_eq_none.1 h x hx);simp [offersB,h,this]
 | some y =>
  have:ms.any (named mod)=true:=List.any_eq_true.2 ⟨y,List.mem_of_find?_eq_some h,List.find?_some h⟩;simp [offersB,modOr,h,this]
theorem offers_any (d:Nat) (w:World) (v:Value) (ms:List Md) (mod s:ByteArray) (n:Int) (h:Rows w All 3 (HMd w All d) v ms) :
 Calls prog 214 #[v,.string mod,.agg #[.string s,.int .i64 n]] w fun e w'=>e=.returned (.bool (offersB ms mod s n))∧Bz w w':=by
 have hb0:Bz w (w.alloc (.cells #[.string s,.int .i64 n] 84)):=(sqN _ _);have HB0:=hid hb0;have bR:Hid (Blk (w.alloc (.cells #[.string s,.int .i64 n] 84)) w.heap.size #[.string s,.int .i64 n] 84):=Blk.new;have HMS:=hid (h.mono (sqO hb0) (fun _ h=>h) (fun _ _ _ h=>h.mono (sqO hb0) (fun _ h=>h)));have HV:=hid (offers_eq ms mod s n);obtain ⟨p,cap,rfl,-⟩:=h;clear hb0;go_enter func214,ntmps214;go_wp2_with fail;refine (named_any d _ _ ms mod HMS.out).mono ?_;rintro e w1 ⟨cs,rfl,hm,hb⟩;have B1:=hid (HB0.out.trans (hb.mono HB0.out.size));have bR1:=hid (bR.out.next hb);have HM:Hid (∀ w',Bz w1 w'→HMd w' All d cs (modOr ms mod)):=fun w' hw=>hm.mono (sqO hw) (fun _ h=>h);obtain ⟨ev,fv,rfl,-,he,hf⟩:=hm;obtain ⟨pe,ce,rfl,-⟩:=he;obtain ⟨pf,cf,rfl,-⟩:=hf;obtain ⟨r0,r1⟩:=sqB2 bR1.out;clear hb;generalize hmo:modOr ms mod=M at *;have HX2:Hid (hasX M s n=M.exports.any (sameRf s n)):=rfl;have HF2:Hid (hasF M s n=M.funs.any (sameR ⟨s,n⟩)):=rfl;have HAL:Hid (Bz w1 (w1.alloc (.cells #[.string M.name,.slice pe M.exports.length ce,.slice pf M.funs.length cf] 63))):=(sqN _ _);have B2:Hid (Bz w (w1.alloc (.cells #[.string M.name,.slice pe M.exports.length ce,.slice pf M.funs.length cf] 63))):=B1.out.alloc B1.out.size _;have bR2:=hid (bR1.out.next HAL.out);have bM2:Hid (Blk (w1.alloc (.cells #[.string M.name,.slice pe M.exports.length ce,.slice pf M.funs.length cf] 63)) w1.heap.size #[.string M.name,.slice pe M.exports.length ce,.slice pf M.funs.length cf] 63):=Blk.new
 cases ha:ms.any (named mod) with
 | false =>
  have HV2:Hid (offersB ms mod s n=false):=(by show _=_;rw [HV.out,ha];rfl);go_wp2_with fail;go_ret;exact ⟨by rw [HV2.out];rfl,B2.out⟩
 | true =>
  have HV2:Hid (offersB ms mod s n=(hasX M s n && hasF M s n)):=(by show _=_;rw [HV.out,ha];rfl);clear r0 r1;obtain ⟨r0,r1⟩:=sqB2 bR2.out;go_wp2_with fail;clear r0 r1;obtain ⟨_,_,heq,-,he,-⟩:=HM.out _ HAL.out;obtain ⟨rfl,rfl⟩:Value.slice pe M.exports.length ce=_∧Value.slice pf M.funs.length cf=_:=(by simpa using heq);refine (containsR_any _ _ M.exports s n he).mono ?_;rintro e w3 ⟨rfl,hb⟩;rw [← HX2.out];have B3:=hid (B2.out.trans (hb.mono B2.out.size));have K3:=hid (HAL.out.trans (hb.mono HAL.out.size));have bR3:=hid (bR2.out.next hb);have bM3:=hid (bM2.out.next hb);obtain ⟨r0,r1⟩:=sqB2 bR3.out;have m2:=bM3.out.cell 2 _ rfl;clear hb he heq
  cases hX:hasX M s n with
  | false =>
   have HV3:Hid (offersB ms mod s n=false):=(by show _=_;rw [HV2.out,hX];rfl);go_wp2_with fail;go_ret;exact ⟨by rw [HV3.out];rfl,B3.out⟩
  | true =>
   have HV3:Hid (offersB ms mod s n=hasF M s n):=(by show _=_;rw [HV2.out,hX];rfl);go_wp2_with fail;obtain ⟨_,_,heq,-,-,hf⟩:=HM.out _ K3.out;obtain ⟨rfl,rfl⟩:Value.slice pe M.exports.length ce=_∧Value.slice pf M.funs.length cf=_:=(by simpa using heq);refine (hasFun_any d _ _ M.funs ⟨s,n⟩ hf).mono ?_;rintro e w4 ⟨rfl,hb⟩;rw [← HF2.out];have B4:=hid (B3.out.trans (hb.mono B3.out.size));clear hb hf heq;go_wp2_with fail;go_ret;exact ⟨by rw [HV3.out];first | rfl | simp,B4.out⟩
def codeOf (x:Ex):ByteArray:=if x.mod.toList = [] then cCall else cFar
def wrongB (ms:List Md) (m:Md) (x:Ex):Bool:=if x.mod.toList = [] then (!hasF m x.text x.kids.length && !isPutB x.text x.kids.length) else !offersB ms x.mod x.text x.kids.length
theorem callC_wrong (ms:List Md) (m:Md) (x:Ex):callC ms m x=if wrongB ms m x then codeOf x else ⟨#[]⟩:=by
 unfold callC wrongB codeOf;by_cases h:x.mod.toList = []
 · simp only [h,if_true]
   cases hasF m x.text x.kids.length <;> cases isPutB x.text x.kids.length <;> rfl
 · simp only [h,if_false]
   cases offersB ms x.mod x.text x.kids.length <;> rfl
theorem callProblem_any (d dx:Nat) (w:World) (v:Value) (ms:List Md) (mc:List Value) (m:Md) (cs:List Value) (x:Ex) (h:Rows w All 3 (HMd w All d) v ms) (hm:HMd w All d mc m) (hx:HEx w All dx cs x) :
 Calls prog 189 #[.agg #[v],.agg mc.toArray,.agg cs.toArray] w fun e w'=>e=.returned (.tuple #[.string (codeOf x),.bool (wrongB ms m x)])∧Bz w w':=by
 cases dx with
 | zero=>exact hx.elim
 | succ dx =>
 have HMS:Hid (∀ w',Bz w w'→Rows w' All 3 (HMd w' All d) v ms):=fun w' hw=>h.mono (sqO hw) (fun _ h=>h) (fun _ _ _ h=>h.mono (sqO hw) (fun _ h=>h));obtain ⟨ev,fv,rfl,-,⟨mpe,mce,rfl,-⟩,hf⟩:=hm;have HFS:Hid (∀ w',Bz w w'→Rows w' All 3 (HFn w' All d) fv m.funs):=fun w' hw=>hf.mono (sqO hw) (fun _ h=>h) (fun _ _ _ h=>h.mono (sqO hw) (fun _ h=>h));obtain ⟨mpf,mcf,rfl,-⟩:=hf;obtain ⟨kx,nx,tx,mx,ks,cl⟩:=x;obtain ⟨kv,cv,rfl,-,-,-,-,⟨p1,q1,rfl,hq1,hq2,-⟩,⟨p2,q2,rfl,-⟩⟩:=hx;have HC:Hid (codeOf (.mk kx nx tx mx ks cl)=if mx.toList = [] then cCall else cFar):=rfl;have HWB:Hid (wrongB ms m (.mk kx nx tx mx ks cl)=if mx.toList = [] then (!hasF m tx ks.length && !isPutB tx ks.length) else !offersB ms mx tx ks.length):=rfl;have HF2:Hid (hasF m tx ks.length=m.funs.any (sameR ⟨tx,(ks.length:Int)⟩)):=rfl;simp only [Ex.kind,Ex.n,Ex.text,Ex.mod,Ex.kids,Ex.clauses] at *;obtain ⟨p,cap,rfl,-⟩:=h;have hnk:ks.length≤9223372036854775807:=(by unfold maxLen at hq2;omega);generalize codeOf (.mk kx nx tx mx ks cl)=CO at *;generalize wrongB ms m (.mk kx nx tx mx ks cl)=WB at *;generalize ms.length=n at *;generalize m.exports.length=ne at *;generalize hnf:m.funs.length=nf at *;generalize ks.length=nk at *;generalize cl.length=nc at *;obtain ⟨W3,hW3⟩:∃ W3,W3=((w.alloc (.cells #[.slice p n cap] 148)).alloc (.cells #[.string m.name,.slice mpe ne mce,.slice mpf nf mcf] 63)).alloc (.cells #[.int .i64 kx,.int .i64 nx,.string tx,.string mx,.slice p1 nk q1,.slice p2 nc q2] 76):=⟨_,rfl⟩;have B3:Hid (Bz w W3):=(by show Below _ _ _;rw [hW3];exact (((sqN _ _)).alloc (by simp only [alloc_hs];omega) _).alloc (by simp only [alloc_hs];omega) _);have bP:Hid (Blk W3 w.heap.size #[.slice p n cap] 148):=(by show Blk _ _ _ _;rw [hW3];exact Blk.new.alloc.alloc)
 have bM:Hid (Blk W3 (w.heap.size+1) #[.string m.name,.slice mpe ne mce,.slice mpf nf mcf] 63):=by
  show Blk _ _ _ _;rw [hW3];have:=Blk.new (w:=w.alloc (.cells #[.slice p n cap] 148)) (cs:=#[.string m.name,.slice mpe ne mce,.slice mpf nf mcf]) (t:=63);simp only [alloc_hs] at this;exact this.alloc
 have bE:Hid (Blk W3 (w.heap.size+1+1) #[.int .i64 kx,.int .i64 nx,.string tx,.string mx,.slice p1 nk q1,.slice p2 nc q2] 76):=by
  show Blk _ _ _ _;rw [hW3];have:=Blk.new (w:=(w.alloc (.cells #[.slice p n cap] 148)).alloc (.cells #[.string m.name,.slice mpe ne mce,.slice mpf nf mcf] 63)) (cs:=#[.int .i64 kx,.int .i64 nx,.string tx,.string mx,.slice p1 nk q1,.slice p2 nc q2]) (t:=76);simp only [alloc_hs] at this;exact this
 have HW3:=hid hW3;clear hW3 hnf;by_cases hmx:mx.toList = []
 · have hmb:(mx.toList == ([]:List UInt8))=true:=by rw [hmx];rfl
   have hmc:mx.toList.isEmpty=true:=(by rw [hmx];rfl);have HC2:=hid (HC.out.trans (if_pos hmx));have HWB2:=hid (HWB.out.trans (if_pos hmx));clear HC HWB;go_enter func189,ntmps189;go_wp2_with fail;rw [← HW3.out];refine (calledRef_any _ kx nx tx mx p1 p2 nk q1 nc q2 hnk).mono ?_;rintro e w4 ⟨rfl,hb⟩;have B4:=hid (B3.out.trans (hb.mono B3.out.size));have B5:Hid (Bz w (w4.alloc (.cells #[.string tx,.int .i64 (nk:Int)] 84))):=B4.out.alloc B4.out.size _;have bP5:Hid (Blk (w4.alloc (.cells #[.string tx,.int .i64 (nk:Int)] 84)) w.heap.size #[.slice p n cap] 148):=(bP.out.next hb).alloc;have bM5:Hid (Blk (w4.alloc (.cells #[.string tx,.int .i64 (nk:Int)] 84)) (w.heap.size+1) #[.string m.name,.slice mpe ne mce,.slice mpf nf mcf] 63):=(bM.out.next hb).alloc;have bE5:Hid (Blk (w4.alloc (.cells #[.string tx,.int .i64 (nk:Int)] 84)) (w.heap.size+1+1) #[.int .i64 kx,.int .i64 nx,.string tx,.string mx,.slice p1 nk q1,.slice p2 nc q2] 76):=(bE.out.next hb).alloc;have bR5:Hid (Blk (w4.alloc (.cells #[.string tx,.int .i64 (nk:Int)] 84)) w4.heap.size #[.string tx,.int .i64 (nk:Int)] 84):=Blk.new;have x3:=bE5.out.cell 3 _ rfl;have x2:=bM5.out.cell 2 _ rfl;have x0:=bP5.out.cell 0 _ rfl;obtain ⟨r0,r1⟩:=sqB2 bR5.out;clear hb;go_wp2_with fail;clear x3 x2 x0 r0 r1;refine (hasFun_any d _ _ m.funs ⟨tx,(nk:Int)⟩ (HFS.out _ B5.out)).mono ?_;rintro e w6 ⟨rfl,hb⟩;rw [← HF2.out];have B6:=hid (B5.out.trans (hb.mono B5.out.size));have bR6:=hid (bR5.out.next hb);obtain ⟨r0,r1⟩:=sqB2 bR6.out;clear hb
   cases hF:hasF m tx nk with
   | true =>
    have HWB3:Hid (WB=false):=(by show _=_;rw [HWB2.out,hF];rfl);go_wp2_with fail;exact bodyPost_ret (v:=.tuple #[.string ⟨#[99,97,108,108]⟩,.bool false]) (by simp [results,results189,go_sem]) rfl ⟨by rw [HC2.out,HWB3.out];rfl,B6.out⟩
   | false =>
    have HWB3:Hid (WB = !isPutB tx nk):=(by show _=_;rw [HWB2.out,hF];rfl);go_wp2_with fail;refine (isPut_any _ tx nk).mono ?_;rintro e w7 ⟨rfl,hb⟩;have B7:=hid (B6.out.trans (hb.mono B6.out.size));clear hb;go_wp2_with fail;exact bodyPost_ret (v:=.tuple #[.string ⟨#[99,97,108,108]⟩,.bool (!isPutB tx nk)]) (by simp [results,results189,go_sem]) rfl ⟨by rw [HC2.out,HWB3.out];rfl,B7.out⟩
 · have hmb:(mx.toList == ([]:List UInt8))=false:=by simpa using hmx
   have hmc:mx.toList.isEmpty=false:=(by simpa using hmx);have HC2:=hid (HC.out.trans (if_neg hmx));have HWB2:=hid (HWB.out.trans (if_neg hmx));clear HC HWB;go_enter func189,ntmps189;go_wp2_with fail;rw [← HW3.out];refine (calledRef_any _ kx nx tx mx p1 p2 nk q1 nc q2 hnk).mono ?_;rintro e w4 ⟨rfl,hb⟩;have B4:=hid (B3.out.trans (hb.mono B3.out.size));have B5:Hid (Bz w (w4.alloc (.cells #[.string tx,.int .i64 (nk:Int)] 84))):=B4.out.alloc B4.out.size _;have bP5:Hid (Blk (w4.alloc (.cells #[.string tx,.int .i64 (nk:Int)] 84)) w.heap.size #[.slice p n cap] 148):=(bP.out.next hb).alloc;have bM5:Hid (Blk (w4.alloc (.cells #[.string tx,.int .i64 (nk:Int)] 84)) (w.heap.size+1) #[.string m.name,.slice mpe ne mce,.slice mpf nf mcf] 63):=(bM.out.next hb).alloc;have bE5:Hid (Blk (w4.alloc (.cells #[.string tx,.int .i64 (nk:Int)] 84)) (w.heap.size+1+1) #[.int .i64 kx,.int .i64 nx,.string tx,.string mx,.slice p1 nk q1,.slice p2 nc q2] 76):=(bE.out.next hb).alloc;have bR5:Hid (Blk (w4.alloc (.cells #[.string tx,.int .i64 (nk:Int)] 84)) w4.heap.size #[.string tx,.int .i64 (nk:Int)] 84):=Blk.new;have x3:=bE5.out.cell 3 _ rfl;have x2:=bM5.out.cell 2 _ rfl;have x0:=bP5.out.cell 0 _ rfl;obtain ⟨r0,r1⟩:=sqB2 bR5.out;clear hb;go_wp2_with fail;clear x3 x2 x0 r0 r1;refine (offers_any d _ _ ms mx tx nk (HMS.out _ B5.out)).mono ?_;rintro e w6 ⟨rfl,hb⟩;have B6:=hid (B5.out.trans (hb.mono B5.out.size));clear hb;go_wp2_with fail;exact bodyPost_ret (v:=.tuple #[.string ⟨#[102,97,114]⟩,.bool (!offersB ms mx tx nk)]) (by simp [results,results189,go_sem]) rfl ⟨by rw [HC2.out,HWB2.out];rfl,B6.out⟩
theorem l05Call_any (d dx:Nat) (w:World) (v:Value) (ms:List Md) (mc:List Value) (m:Md) (cs:List Value) (x:Ex) (h:Rows w All 3 (HMd w All d) v ms) (hm:HMd w All d mc m) (hx:HEx w All dx cs x) :
 Calls prog 180 #[v,.agg mc.toArray,.agg cs.toArray] w fun e w'=>e=.returned (.string (callC ms m x))∧Bz w w':=by
 cases dx with
 | zero=>exact hx.elim
 | succ dx =>
 obtain ⟨ev,fv,rfl,-,⟨mpe,mce,rfl,-⟩,⟨mpf,mcf,rfl,-⟩⟩:=id hm;obtain ⟨kx,nx,tx,mx,ks,cl⟩:=x;obtain ⟨kv,cv,rfl,-,-,-,-,⟨p1,q1,rfl,-⟩,⟨p2,q2,rfl,-⟩⟩:=hx;simp only [Ex.kind,Ex.n,Ex.text,Ex.mod,Ex.kids,Ex.clauses] at *;have HMS:Hid (∀ w',Bz w w'→Rows w' All 3 (HMd w' All d) v ms):=fun w' hw=>h.mono (sqO hw) (fun _ h=>h) (fun _ _ _ h=>h.mono (sqO hw) (fun _ h=>h));have HMM:Hid (∀ w',Bz w w'→HMd w' All d [.string m.name,.slice mpe m.exports.length mce,.slice mpf m.funs.length mcf] m):=fun w' hw=>hm.mono (sqO hw) (fun _ h=>h);obtain ⟨W3,hW3⟩:∃ W3,W3=((w.alloc (.cells #[.string m.name,.slice mpe m.exports.length mce,.slice mpf m.funs.length mcf] 63)).alloc (.cells #[.int .i64 kx,.int .i64 nx,.string tx,.string mx,.slice p1 ks.length q1,.slice p2 cl.length q2] 76)).alloc (.cells #[.string tx,.int .i64 (ks.length:Int)] 84):=⟨_,rfl⟩;have B3:Hid (Bz w W3):=(by show Below _ _ _;rw [hW3];exact (((sqN _ _)).alloc (by simp only [alloc_hs];omega) _).alloc (by simp only [alloc_hs];omega) _)
 have bR:Hid (Blk W3 (w.heap.size+1+1) #[.string tx,.int .i64 (ks.length:Int)] 84):=by
  show Blk _ _ _ _;rw [hW3];have:=Blk.new (w:=(w.alloc (.cells #[.string m.name,.slice mpe m.exports.length mce,.slice mpf m.funs.length mcf] 63)).alloc (.cells #[.int .i64 kx,.int .i64 nx,.string tx,.string mx,.slice p1 ks.length q1,.slice p2 cl.length q2] 76)) (cs:=#[.string tx,.int .i64 (ks.length:Int)]) (t:=84);simp only [alloc_hs] at this;exact this
 have HW3:Hid (W3=((w.alloc (.cells #[.string m.name,.slice mpe m.exports.length mce,.slice mpf m.funs.length mcf] 63)).alloc (.cells #[.int .i64 kx,.int .i64 nx,.string tx,.string mx,.slice p1 ks.length q1,.slice p2 cl.length q2] 76)).alloc (.cells #[.string tx,.int .i64 (ks.length:Int)] 84)):=hW3;clear hW3;have HV:Hid (callC ms m (.mk kx nx tx mx ks cl)=if mx.toList = [] then (if hasF m tx ks.length || isPutB tx ks.length then ⟨#[]⟩ else cCall) else (if offersB ms mx tx ks.length then ⟨#[]⟩ else cFar)):=rfl;by_cases hmx:mx.toList = []
 · have hmb:mx.toList.isEmpty=true:=by rw [hmx];rfl
   have HV2:Hid (callC ms m (.mk kx nx tx mx ks cl)=if hasF m tx ks.length || isPutB tx ks.length then ⟨#[]⟩ else cCall):=HV.out.trans (if_pos hmx);clear HV hm h
   rcases findI_cases (sameR ⟨tx,(ks.length:Int)⟩) m.funs with ⟨hf,hfi⟩ | ⟨k,y,hf,hk,-,hfi,-⟩
   · have HFI:Hid (findI (sameR ⟨tx,(ks.length:Int)⟩) m.funs = -1):=hfi
     have HF:Hid (hasF m tx ks.length=false):=hf;clear hf hfi
     cases hp:(tx.toList == [112,117,116]) with
     | false =>
      have hp2:¬ tx.toList = [112,117,116]:=(by simpa using hp);have HV3:Hid (callC ms m (.mk kx nx tx mx ks cl)=cCall):=(by show _=_;rw [HV2.out,HF.out];simp [isPutB,hp]);clear HV2 HF;go_enter func180,ntmps180;go_wp2_with fail;rw [← HW3.out];refine (l02FindI_any d _ _ m tx ks.length (HMM.out _ B3.out)).mono ?_;rintro e w4 ⟨rfl,hb⟩;rw [HFI.out];have B4:Hid (Bz w w4):=B3.out.trans (hb.mono B3.out.size);have b4:=bR.out.next hb;obtain ⟨r0,r1⟩:=sqB2 b4;clear hb b4;go_wp2_with fail;go_ret;exact ⟨by rw [HV3.out];rfl,B4.out⟩
     | true =>
      have hp2:tx.toList = [112,117,116]:=by simpa using hp
      cases hq:((ks.length:Int) == 1) with
      | false =>
       have hq2:¬ (ks.length:Int)=1:=(by simpa using hq);have hq3:((ks.length:Int) != 1)=true:=(by simpa using hq2);have HV3:Hid (callC ms m (.mk kx nx tx mx ks cl)=cCall):=(by show _=_;rw [HV2.out,HF.out];simp [isPutB,hp,hq]);clear HV2 HF;go_enter func180,ntmps180;go_wp2_with fail;rw [← HW3.out];refine (l02FindI_any d _ _ m tx ks.length (HMM.out _ B3.out)).mono ?_;rintro e w4 ⟨rfl,hb⟩;rw [HFI.out];have B4:Hid (Bz w w4):=B3.out.trans (hb.mono B3.out.size);have b4:=bR.out.next hb;obtain ⟨r0,r1⟩:=sqB2 b4;clear hb b4;go_wp2_with fail;go_ret;exact ⟨by rw [HV3.out];rfl,B4.out⟩
      | true =>
       have hq3:((ks.length:Int) != 1)=false:=(by simpa using hq);have HV3:Hid (callC ms m (.mk kx nx tx mx ks cl)=⟨#[]⟩):=(by show _=_;rw [HV2.out,HF.out];simp [isPutB,hp,hq]);clear HV2 HF;go_enter func180,ntmps180;go_wp2_with fail;rw [← HW3.out];refine (l02FindI_any d _ _ m tx ks.length (HMM.out _ B3.out)).mono ?_;rintro e w4 ⟨rfl,hb⟩;rw [HFI.out];have B4:Hid (Bz w w4):=B3.out.trans (hb.mono B3.out.size);have b4:=bR.out.next hb;obtain ⟨r0,r1⟩:=sqB2 b4;clear hb b4;go_wp2_with fail;go_ret;exact ⟨by rw [HV3.out];rfl,B4.out⟩
   · have HFI:Hid (findI (sameR ⟨tx,(ks.length:Int)⟩) m.funs=(k:Int)):=hfi
     have HV3:Hid (callC ms m (.mk kx nx tx mx ks cl)=⟨#[]⟩):=(by show _=_;rw [HV2.out,show hasF m tx ks.length=true from hf];simp);have hk0:¬ (k:Int)<0:=(by omega);clear HV2 hf hk hfi;go_enter func180,ntmps180;go_wp2_with fail;rw [← HW3.out];refine (l02FindI_any d _ _ m tx ks.length (HMM.out _ B3.out)).mono ?_;rintro e w4 ⟨rfl,hb⟩;rw [HFI.out];have B4:Hid (Bz w w4):=B3.out.trans (hb.mono B3.out.size);have b4:=bR.out.next hb;obtain ⟨r0,r1⟩:=sqB2 b4;clear hb b4;go_wp2_with fail;go_ret;exact ⟨by rw [HV3.out];rfl,B4.out⟩
 · have hmb:mx.toList.isEmpty=false:=by simpa using hmx
   have HV2:Hid (callC ms m (.mk kx nx tx mx ks cl)=if offersB ms mx tx ks.length then ⟨#[]⟩ else cFar):=HV.out.trans (if_neg hmx);clear HV hm
   rcases findI_cases (named mx) ms with ⟨hf,hfi⟩ | ⟨k,y,hf,hk,-,hfi,hfd⟩
   · have HFI:Hid (findI (named mx) ms = -1):=hfi
     have HV3:Hid (callC ms m (.mk kx nx tx mx ks cl)=cFar):=by
      show _=_;rw [HV2.out];have:ms.find? (named mx)=none:=List.find?_eq_none.2 (fun x hx=>by simpa using List.any_eq_false.1 hf x hx);simp [offersB,this]
     clear HV2 hf hfi;go_enter func180,ntmps180;go_wp2_with fail;rw [← HW3.out];refine (l05Mod_any d _ _ ms mx (HMS.out _ B3.out)).mono ?_;rintro e w4 ⟨rfl,hw4⟩;rw [HFI.out,hw4];clear hw4;go_wp2_with fail;have hCne:Nonempty (Wd (fun w'=>SameOn All W3 w'∧Bz w w')):=⟨⟨W3.drew,⟨⟨Nat.le_refl _,fun _ _ _=>rfl⟩,B3.out.drew⟩⟩⟩;refine wp_region_class (fun w'=>SameOn All W3 w'∧Bz w w') (by kernel_rfl) (by kernel_rfl) ⟨⟨Nat.le_refl _,fun _ _ _=>rfl⟩,B3.out.drew⟩ ?_
     repeat (go_big_quiet_step (fail))
     refine wpQuiet_nil ?_;rintro _ ⟨mq,rfl⟩;have HB4:Hid (Bz w mq.val):=mq.ok.2;have HS4:Hid (SameOn All W3 mq.val):=mq.ok.1;generalize mq.val=w4 at HB4 HS4 ⊢;go_wp2_with fail;go_ret;exact ⟨by rw [HV3.out];rfl,HB4.out⟩
   · have HFI:Hid (findI (named mx) ms=(k:Int)):=hfi
     have HV3:Hid (callC ms m (.mk kx nx tx mx ks cl)=if hasX y tx ks.length && hasF y tx ks.length then ⟨#[]⟩ else cFar):=(by show _=_;rw [HV2.out];simp [offersB,hfd]);obtain ⟨p,cap,rfl,hcl,hcm,hx⟩:=h;obtain ⟨g,off,rfl,-,hgl,hat⟩:=hx (fun e=>by rw [e] at hk;simp at hk);obtain ⟨cs,hcsl,hcs,hy⟩:=hat k y hk;have hkn:=(List.getElem?_eq_some_iff.1 hk).1;have HMY:Hid (∀ w',Bz w w'→HMd w' All d cs y):=fun w' hw=>hy.mono (sqO hw) (fun _ h=>h);obtain ⟨s1,pe1,ne1,ce1,pf1,nf1,cf1,rfl⟩:=hy.shape;obtain ⟨a0,a1,a2⟩:=sqC3 hcs (by omega);rw [← B3.out.cell (p:=⟨g,_,none⟩) hgl] at a0 a1 a2;simp at a0 a1 a2;generalize hn:ms.length=n at *;have hki:(k:Int)<(n:Int):=(by omega);have hk0:=sqI k;have hk1:¬ (k:Int)<0:=(by omega);have hk2:decide ((k:Int)<0)=false:=decide_eq_false hk1;have hg3:g<W3.heap.size:=Nat.lt_of_lt_of_le hgl B3.out.size;have HMS2:Hid (∀ w',Bz w w'→Rows w' All 3 (HMd w' All d) (.slice (some ⟨g,off,none⟩) n cap) ms):=HMS.out;have lR:=bR.out.lt;obtain ⟨r0,r1⟩:=sqB2 bR.out;have qa0:∀ m:Wd (fun w'=>SameOn All W3 w'∧Bz w w'),m.val.cell? ⟨g,off+k * 3,none⟩=some (.string s1):=fun m=>(sqK (m.ok.1.2 g trivial hg3)).trans a0;have qa1:∀ m:Wd (fun w'=>SameOn All W3 w'∧Bz w w'),m.val.cell? ⟨g,off+k * 3+1,none⟩=some (.slice pe1 ne1 ce1):=fun m=>(sqK (m.ok.1.2 g trivial hg3)).trans a1;have qa2:∀ m:Wd (fun w'=>SameOn All W3 w'∧Bz w w'),m.val.cell? ⟨g,off+k * 3+2,none⟩=some (.slice pf1 nf1 cf1):=fun m=>(sqK (m.ok.1.2 g trivial hg3)).trans a2;have qr0:∀ m:Wd (fun w'=>SameOn All W3 w'∧Bz w w'),m.val.cell? ⟨w.heap.size+1+1,0,none⟩=some (.string tx):=fun m=>(sqK (m.ok.1.2 (w.heap.size+1+1) trivial lR)).trans r0;have qr1:∀ m:Wd (fun w'=>SameOn All W3 w'∧Bz w w'),m.val.cell? ⟨w.heap.size+1+1,1,none⟩=some (.int .i64 (ks.length:Int)):=fun m=>(sqK (m.ok.1.2 (w.heap.size+1+1) trivial lR)).trans r1;clear HMS HV2 hf hk hfi hfd hx hat hcs hcsl hy hn hcl hcm a0 a1 a2 r0 r1 lR
     cases hX:hasX y tx ks.length with
     | false =>
      have HCX:Hid (hasX y tx ks.length=false):=hX;have HV4:Hid (callC ms m (.mk kx nx tx mx ks cl)=cFar):=(by show _=_;rw [HV3.out,hX];rfl);clear HV3 hX;go_enter func180,ntmps180;go_wp2_with fail;rw [← HW3.out];refine (l05Mod_any d _ _ ms mx (HMS2.out _ B3.out)).mono ?_;rintro e w4 ⟨rfl,hw4⟩;rw [HFI.out,hw4];clear hw4;go_wp2_with fail;have hCne:Nonempty (Wd (fun w'=>SameOn All W3 w'∧Bz w w')):=⟨⟨W3.drew,⟨⟨Nat.le_refl _,fun _ _ _=>rfl⟩,B3.out.drew⟩⟩⟩;refine wp_region_class (fun w'=>SameOn All W3 w'∧Bz w w') (by kernel_rfl) (by kernel_rfl) ⟨⟨Nat.le_refl _,fun _ _ _=>rfl⟩,B3.out.drew⟩ ?_
      repeat (go_big_quiet_step (first | (rename_i mm;go_at_call 42;refine (l05Exported_any d _ _ y tx ks.length (HMY.out _ mm.ok.2)).mono ?_;rintro e w1 ⟨rfl,hb1⟩;exact ⟨by rw [HCX.out],⟨⟨w1,⟨mm.ok.1.trans (sqO hb1),mm.ok.2.trans (hb1.mono mm.ok.2.size)⟩⟩,rfl⟩⟩)))
      refine wpQuiet_nil ?_;rintro _ ⟨mq,rfl⟩;have HB4:Hid (Bz w mq.val):=mq.ok.2;have HS4:Hid (SameOn All W3 mq.val):=mq.ok.1;generalize mq.val=w4 at HB4 HS4 ⊢;go_wp2_with fail;go_ret;exact ⟨by rw [HV4.out];rfl,HB4.out⟩
     | true =>
      have HCX:Hid (hasX y tx ks.length=true):=hX
      rcases findI_cases (sameR ⟨tx,(ks.length:Int)⟩) y.funs with ⟨hf,hfi⟩ | ⟨j,z,hf,-,-,hfi,-⟩
      · have HCF:Hid (findI (sameR ⟨tx,(ks.length:Int)⟩) y.funs = -1):=hfi
        have HV4:Hid (callC ms m (.mk kx nx tx mx ks cl)=cFar):=(by show _=_;rw [HV3.out,hX,show hasF y tx ks.length=false from hf];rfl);clear HV3 hX hf hfi;go_enter func180,ntmps180;go_wp2_with fail;rw [← HW3.out];refine (l05Mod_any d _ _ ms mx (HMS2.out _ B3.out)).mono ?_;rintro e w4 ⟨rfl,hw4⟩;rw [HFI.out,hw4];clear hw4;go_wp2_with fail;have hCne:Nonempty (Wd (fun w'=>SameOn All W3 w'∧Bz w w')):=⟨⟨W3.drew,⟨⟨Nat.le_refl _,fun _ _ _=>rfl⟩,B3.out.drew⟩⟩⟩;refine wp_region_class (fun w'=>SameOn All W3 w'∧Bz w w') (by kernel_rfl) (by kernel_rfl) ⟨⟨Nat.le_refl _,fun _ _ _=>rfl⟩,B3.out.drew⟩ ?_
        repeat (go_big_quiet_step (first | (rename_i mm;go_at_call 42;refine (l05Exported_any d _ _ y tx ks.length (HMY.out _ mm.ok.2)).mono ?_;rintro e w1 ⟨rfl,hb1⟩;exact ⟨by rw [HCX.out],⟨⟨w1,⟨mm.ok.1.trans (sqO hb1),mm.ok.2.trans (hb1.mono mm.ok.2.size)⟩⟩,rfl⟩⟩) | (rename_i mm;go_at_call 64;refine (l02FindI_any d _ _ y tx ks.length (HMY.out _ mm.ok.2)).mono ?_;rintro e w1 ⟨rfl,hb1⟩;exact ⟨by rw [HCF.out],⟨⟨w1,⟨mm.ok.1.trans (sqO hb1),mm.ok.2.trans (hb1.mono mm.ok.2.size)⟩⟩,rfl⟩⟩)))
        refine wpQuiet_nil ?_;rintro _ ⟨mq,rfl⟩;have HB4:Hid (Bz w mq.val):=mq.ok.2;have HS4:Hid (SameOn All W3 mq.val):=mq.ok.1;generalize mq.val=w4 at HB4 HS4 ⊢;go_wp2_with fail;go_ret;exact ⟨by rw [HV4.out];rfl,HB4.out⟩
      · have HCF:Hid (findI (sameR ⟨tx,(ks.length:Int)⟩) y.funs=(j:Int)):=hfi
        have HV4:Hid (callC ms m (.mk kx nx tx mx ks cl)=⟨#[]⟩):=(by show _=_;rw [HV3.out,hX,show hasF y tx ks.length=true from hf];rfl);have hj1:¬ (j:Int)<0:=(by omega);have hj2:decide ((j:Int)<0)=false:=decide_eq_false hj1;clear HV3 hX hf hfi;go_enter func180,ntmps180;go_wp2_with fail;rw [← HW3.out];refine (l05Mod_any d _ _ ms mx (HMS2.out _ B3.out)).mono ?_;rintro e w4 ⟨rfl,hw4⟩;rw [HFI.out,hw4];clear hw4;go_wp2_with fail;have hCne:Nonempty (Wd (fun w'=>SameOn All W3 w'∧Bz w w')):=⟨⟨W3.drew,⟨⟨Nat.le_refl _,fun _ _ _=>rfl⟩,B3.out.drew⟩⟩⟩;refine wp_region_class (fun w'=>SameOn All W3 w'∧Bz w w') (by kernel_rfl) (by kernel_rfl) ⟨⟨Nat.le_refl _,fun _ _ _=>rfl⟩,B3.out.drew⟩ ?_
        repeat (go_big_quiet_step (first | (rename_i mm;go_at_call 42;refine (l05Exported_any d _ _ y tx ks.length (HMY.out _ mm.ok.2)).mono ?_;rintro e w1 ⟨rfl,hb1⟩;exact ⟨by rw [HCX.out],⟨⟨w1,⟨mm.ok.1.trans (sqO hb1),mm.ok.2.trans (hb1.mono mm.ok.2.size)⟩⟩,rfl⟩⟩) | (rename_i mm;go_at_call 64;refine (l02FindI_any d _ _ y tx ks.length (HMY.out _ mm.ok.2)).mono ?_;rintro e w1 ⟨rfl,hb1⟩;exact ⟨by rw [HCF.out],⟨⟨w1,⟨mm.ok.1.trans (sqO hb1),mm.ok.2.trans (hb1.mono mm.ok.2.size)⟩⟩,rfl⟩⟩)))
        refine wpQuiet_nil ?_;rintro _ ⟨mq,rfl⟩;have HB4:Hid (Bz w mq.val):=mq.ok.2;have HS4:Hid (SameOn All W3 mq.val):=mq.ok.1;generalize mq.val=w4 at HB4 HS4 ⊢;go_wp2_with fail;go_ret;exact ⟨by rw [HV4.out];rfl,HB4.out⟩
theorem info_exG:(prog.info? 76).map (fun i=>(i.zero,i.size,i.bytes))=some (some (.agg #[.int .i64 0,.int .i64 0,.string ⟨#[]⟩,.string ⟨#[]⟩,.slice none 0 0,.slice none 0 0]),6,96):=by kernel_rfl
theorem ex_oneCell {w:World} {S:Nat→Prop} {d:Nat} (cs:List Value) (x:Ex) (h:HEx w S d cs x):∀ u ∈ cs,u.oneCell'=true:=by
 cases d with
 | zero=>exact h.elim
 | succ d =>
  obtain ⟨kv,cv,rfl,_,_,_,_,⟨p1,c1,rfl,_⟩,⟨p2,c2,rfl,_⟩⟩:=h;intro u hu;simp only [List.mem_cons,List.not_mem_nil,or_false] at hu
  rcases hu with rfl | rfl | rfl | rfl | rfl | rfl <;> rfl
theorem within_len (d:Nat) (ks:List Ex) (cl:List Cl):ks.length+(bodiesOf cl).length≤wtS (wtEx d) ks+wtS (wtCl (wtEx d)) cl:=by
 have h1:ks.length≤wtS (wtEx d) ks:=by unfold wtS;omega
 have h2:(bodiesOf cl).length≤wtS (wtCl (wtEx d)) cl:=by
  induction cl with
  | nil=>simp [bodiesOf]
  | cons c cl ih =>
   have e:bodiesOf (c :: cl)=c.2 ++ bodiesOf cl:=(by simp [bodiesOf]);rw [e,List.length_append];simp only [wtS,List.length_cons,List.map_cons,List.sum_cons,wtCl] at ih ⊢;omega
 omega
theorem within_any (d:Nat) (w:World) (S:Nat→Prop) (hS:∀ g,S g→g<w.heap.size) (cs:List Value) (x:Ex) (h:HEx w S (d+1) cs x) (hw:wtEx (d+1) x≤16777216) :
 Calls prog 181 #[.agg cs.toArray] w fun e w'=>∃ u cells,e=.returned u∧w'.ownsRow (w.heap.size+1) 76 6 u (withinX x).length cells∧CellsR 6 (HEx w S d) cells (withinX x)∧Bz w w':=by
 have hT:=h;obtain ⟨kx,nx,tx,mx,ks,cl⟩:=x;obtain ⟨kv,cv,rfl,-,-,-,-,hk,hc⟩:=hT;have HWX:Hid (withinX (.mk kx nx tx mx ks cl)=ks ++ bodiesOf cl):=rfl
 have HL:Hid (ks.length+(bodiesOf cl).length≤16777216):=by
  have h1:=within_len d ks cl;simp only [wtEx,Ex.text,Ex.mod,Ex.kids,Ex.clauses] at hw;show _≤_;omega
 simp only [Ex.kind,Ex.n,Ex.text,Ex.mod,Ex.kids,Ex.clauses] at *;have HK:=hid hk;obtain ⟨p1,q1,rfl,-⟩:=hk;obtain ⟨p2,q2,rfl,hcl,hcm,hx⟩:=hc;have hnb:=sqM hcl hcm;obtain ⟨i,hi,hz0,hz1,hz2⟩:=info_parts info_exG;have HX:=hid hx;generalize hn1:ks.length=nk at *;have HN1:=hid hn1;generalize hn2:cl.length=nc at *;have HN2:=hid hn2;obtain ⟨W1,hW1⟩:∃ W1,W1=w.alloc (.cells #[.int .i64 kx,.int .i64 nx,.string tx,.string mx,.slice p1 nk q1,.slice p2 nc q2] 76):=⟨_,rfl⟩;have bA:Hid (Blk W1 w.heap.size #[.int .i64 kx,.int .i64 nx,.string tx,.string mx,.slice p1 nk q1,.slice p2 nc q2] 76):=(by show Blk _ _ _ _;rw [hW1];exact Blk.new);have B1:Hid (Bz w W1):=(by show Below _ _ _;rw [hW1];exact (sqN _ _));have S1:Hid (W1.heap.size=w.heap.size+1):=(by show _=_;rw [hW1,alloc_hs]);have HW1:=hid hW1
 have O2:Hid ((W1.alloc (.cells #[] 76)).ownsRow (w.heap.size+1) 76 6 (.slice (some ⟨w.heap.size+1,0,none⟩) 0 0) 0 []):=by
  have:=owns_fresh (w:=W1) (e:=76) (c:=6);rw [S1.out] at this;exact this
 have B2:Hid (Below (w.heap.size+1) W1 (W1.alloc (.cells #[] 76))):=(Below.refl _ _).alloc (by rw [S1.out];exact Nat.le_refl _) _
 have K2:Hid (Rows (W1.alloc (.cells #[] 76)) All 6 (HEx w S d) (.slice p1 nk q1) ks) :=
  HK.out.mono (sqO (B1.out.trans (B2.out.mono (by omega)))) (fun _ _=>trivial) (fun _ _ _ h=>h)
 have z2:w.heap.size+1≤(W1.alloc (.cells #[] 76)).heap.size:=(by rw [alloc_hs,S1.out];omega);have Z2:=hid z2;clear hx h hw hn1 hn2 z2;rw [hW1] at O2 K2 Z2;go_enter func181,ntmps181;go_wp2_with (at_builtin;refine wpList_append_rows (R:=HEx w S d) (S:=All) rfl _ _ 44 rfl (w.heap.size+1) 76 i _ 6 96 underlying44 hi hz0 hz1 hz2 rfl (by decide) (.slice (some ⟨w.heap.size+1,0,none⟩) 0 0) 0 [] rfl O2.out (.slice p1 nk q1) ks rfl K2.out (fun cs y h=>ex_oneCell cs y h) (by have:=HL.out;have:=HN1.out;unfold maxLen;omega) (by have:=HL.out;have:=HN1.out;omega) Z2.out ?_;intro u1 w1 cells1 hc1 ho1 hg1);rw [← HW1.out] at hg1 O2 Z2;have HO1:Hid (w1.ownsRow (w.heap.size+1) 76 6 u1 nk cells1):=(by have:=ho1;rw [HN1.out,Nat.zero_add,List.nil_append] at this;exact this);have HC1:=hid hc1;have HB1:=hid (B2.out.trans (owns_below O2.out hg1 Z2.out));clear hc1 ho1 hg1 O2 K2 B2 Z2;go_wp2_with fail
 go_loopw [3,4] (fun ov iv wr=>∃ (k n:Nat) (cells:List Value),k≤nc∧iv=.int .i64 k∧Hid (wr.ownsRow (w.heap.size+1) 76 6 ov n cells)∧Hid (CellsR 6 (HEx w S d) cells (ks ++ bodiesOf (cl.take k)))∧Hid (n=(ks ++ bodiesOf (cl.take k)).length)∧Hid (Below (w.heap.size+1) W1 wr)) (fun _ iv _=>nc - (intOf iv).toNat)
 case atStart=>exact ⟨0,nk,cells1,Nat.zero_le _,rfl,HO1,by show CellsR _ _ _ _;simpa [bodiesOf] using HC1.out,by show _=_;simp [bodiesOf,HN1.out],HB1⟩
 case round =>
  obtain ⟨k,n,cells,hk,rfl,ho,hc,hn,hb⟩:=hrel;have bM:=bA.out.below hb.out (by omega);have x5:=bM.cell 5 _ rfl;clear bM;have hb0:Bz w wr:=B1.out.trans (hb.out.mono (by omega));have HB0:=hid hb0;by_cases hlt:k<nc
  · obtain ⟨c,hck⟩:∃ c,cl[k]?=some c:=⟨cl[k]'(by rw [HN2.out];exact hlt),List.getElem?_eq_getElem _⟩
    obtain ⟨g,off,rfl,-,hgl,hat⟩:=HX.out (sqE hck);obtain ⟨cs,hcsl,hcs,pv,bv,rfl,rp,rb⟩:=hat k c hck;obtain ⟨a0,a1⟩:=sqC2 hcs (by omega);rw [← hb0.cell (p:=⟨g,_,none⟩) hgl] at a0 a1;simp at a0 a1;have RB:=hid (rb.mono (sqO hb0) (fun _ _=>trivial) (fun _ _ _ h=>h));obtain ⟨pb,cb,rfl,-⟩:=rb;have HJ:Hid (ks ++ bodiesOf (cl.take (k+1))=ks ++ bodiesOf (cl.take k) ++ c.2):=(by show _=_;rw [bodiesOf_snoc cl k c hck,List.append_assoc])
    have HL2:Hid (n+c.2.length≤16777216):=by
     have h1:=HL.out;have h2:=bodiesOf_le cl (k+1);rw [bodiesOf_snoc cl k c hck,List.length_append] at h2;have h3:=hn.out;rw [List.length_append,HN1.out] at h3;show _≤_;omega
    have hki:(k:Int)<(nc:Int):=(by omega);have hk0:=sqI k;have hs1:w.heap.size+1≤wr.heap.size:=(by rw [← S1.out];exact hb.out.size);clear hb0 hat hcs hcsl rp;go_wp2_with (at_builtin;refine wpList_append_rows (R:=HEx w S d) (S:=All) rfl _ _ 44 rfl (w.heap.size+1) 76 i _ 6 96 underlying44 hi hz0 hz1 hz2 rfl (by decide) u3 n cells rfl ho.out (.slice pb c.2.length cb) c.2 rfl RB.out (fun cs y h=>ex_oneCell cs y h) (by have:=HL2.out;unfold maxLen;omega) (by have:=HL2.out;omega) hs1 ?_;intro v2 w2 cells2 hc2 ho2 hg2);have HB2:=hid (hb.out.trans (owns_below ho.out hg2 hs1))
    have HC2:Hid (CellsR 6 (HEx w S d) (cells ++ cells2) (ks ++ bodiesOf (cl.take (k+1)))):=by
     show CellsR _ _ _ _;rw [HJ.out];exact hc.out.append hc2
    have HO2:=hid ho2;have HN3:Hid (n+c.2.length=(ks ++ bodiesOf (cl.take (k+1))).length):=(by show _=_;rw [HJ.out,List.length_append,← hn.out]);clear hc2 ho2 hg2;go_wp2_with fail;exact ⟨⟨k+1,_,_,by omega,by go_num,HO2,HC2,HN3,HB2⟩,by simp [intOf];omega⟩
  · have HR:Hid (wr.ownsRow (w.heap.size+1) 76 6 u3 (withinX (.mk kx nx tx mx ks cl)).length cells∧CellsR 6 (HEx w S d) cells (withinX (.mk kx nx tx mx ks cl))):=by
     have h1:=hc.out;have h2:=hn.out;have h3:=ho.out;rw [List.take_of_length_le (by rw [HN2.out];omega)] at h1 h2;rw [HWX.out];rw [h2] at h3;exact ⟨h3,h1⟩
    clear hb0;go_wp2_with fail;go_ret;exact ⟨_,_,rfl,HR.out.1,HR.out.2,HB0.out⟩
theorem wtS_within (d:Nat) (x:Ex):((withinX x).map fun y=>1+wtEx d y).sum≤wtEx (d+1) x:=by
 have h2:∀ l:List Ex,(l.map fun y=>1+wtEx d y).sum=wtS (wtEx d) l:=fun l=>by
  unfold wtS
  induction l with
  | nil=>rfl
  | cons y l ih=>simp only [List.map_cons,List.sum_cons,List.length_cons,ih];omega
 have h3:∀ cl:List Cl,wtS (wtEx d) (bodiesOf cl)≤wtS (wtCl (wtEx d)) cl:=fun cl=>by
  induction cl with
  | nil=>simp [bodiesOf,wtS]
  | cons c cl ih =>
   have e:bodiesOf (c :: cl)=c.2 ++ bodiesOf cl:=(by simp [bodiesOf]);rw [e];simp only [wtS,List.length_append,List.map_append,List.sum_append,List.length_cons,List.map_cons,List.sum_cons,wtCl] at ih ⊢;omega
 rw [h2];have e:withinX x=x.kids ++ bodiesOf x.clauses:=rfl;rw [e];have h4:=h3 x.clauses;have h5:wtEx (d+1) x=x.text.size+x.mod.size+wtS (wtEx d) x.kids+wtS (wtCl (wtEx d)) x.clauses:=rfl
 have h6:wtS (wtEx d) (x.kids ++ bodiesOf x.clauses)=wtS (wtEx d) x.kids+wtS (wtEx d) (bodiesOf x.clauses):=by
  unfold wtS;rw [List.length_append,List.map_append,List.sum_append];omega
 omega
theorem callL_len (ms:List Md) (m:Md) (x:Ex):(callL ms m x).length≤1:=by
 unfold callL
 split
 · split <;> simp
 · simp
theorem flat_lenG {α β:Type} (f:α→List β) (g:α→Nat):∀ l:List α,(∀ y ∈ l,(f y).length≤g y)→(l.flatMap f).length≤(l.map g).sum
 | [],_=>by simp
 | y :: l,h=>by
  rw [List.flatMap_cons,List.length_append,List.map_cons,List.sum_cons];have h1:=h y (by simp);have h2:=flat_lenG f g l (fun z hz=>h z (by simp [hz]));omega
theorem codesX_len (ms:List Md) (m:Md):∀ (d:Nat) (x:Ex),(codesX ms m d x).length≤1+wtEx d x
 | 0,_=>by simp [codesX]
 | d+1,x=>by
  have h1:=wtS_within d x;have h2:=callL_len ms m x;have h3:=flat_lenG (codesX ms m d) (fun y=>1+wtEx d y) (withinX x) (fun y _=>codesX_len ms m d y);simp only [codesX,List.length_append];omega
theorem callL_mem (ms:List Md) (m:Md) (x:Ex):∀ c ∈ callL ms m x,c=cCall∨c=cFar:=by
 unfold callL;intro c hc
 split at hc
 · split at hc
   · simp at hc
   · rename_i h
     simp at hc;subst hc;unfold callC at h ⊢
     split
     · split
       · rename_i h1 h2;exact absurd (by simp [h1,h2]) h
       · exact Or.inl rfl
     · split
       · rename_i h1 h2;exact absurd (by simp [h1,h2]) h
       · exact Or.inr rfl
 · simp at hc
theorem codesX_mem (ms:List Md) (m:Md):∀ (d:Nat) (x:Ex),∀ c ∈ codesX ms m d x,c=cCall∨c=cFar
 | 0,_=>fun c hc=>by simp [codesX] at hc
 | d+1,x=>fun c hc=>by
  simp only [codesX,List.mem_append,List.mem_flatMap] at hc
  rcases hc with hc | ⟨y,_,hc⟩
  · exact callL_mem ms m x c hc
  · exact codesX_mem ms m d y c hc
theorem okS_code {c:ByteArray} (h:c=cCall∨c=cFar):okS c:=by
 rcases h with rfl | rfl <;> (unfold okS;decide)
def LxC (dm d:Nat):Prop:=∀ (w:World) (v:Value) (ms:List Md) (mc:List Value) (m:Md) (cs:List Value) (x:Ex),Rows w All 3 (HMd w All dm) v ms→HMd w All dm mc m→HEx w All d cs x→wtEx d x≤16777216 →
 Calls prog 147 #[v,.agg mc.toArray,.agg cs.toArray] w fun e w'=>∃ u,e=.returned u∧OwnS w' w.heap.size u (codesX ms m d x)∧Bz w w'
theorem l05Exp_of {dm d:Nat} (hE:LxC dm d):LxC dm (d+1):=by
 intro w v ms mc m cs x h hm hx hw;have HMS:Hid (∀ w',Bz w w'→Rows w' All 3 (HMd w' All dm) v ms):=fun w' hw=>h.mono (sqO hw) (fun _ h=>h) (fun _ _ _ h=>h.mono (sqO hw) (fun _ h=>h));have HMM:Hid (∀ w',Bz w w'→HMd w' All dm mc m):=fun w' hw=>hm.mono (sqO hw) (fun _ h=>h);have HXX:Hid (∀ w',Bz w w'→HEx w' (fun g=>g<w.heap.size) (d+1) cs x):=fun w' hw=>hx.tight.mono (sqO hw) (fun _ h=>h);obtain ⟨sv,pe,ne,ce,pf,nf,cf,rfl⟩:=hm.shape;obtain ⟨kx,nx,tx,mx,ks,cl⟩:=x;obtain ⟨kv,cv,rfl,-,-,-,-,⟨p1,q1,rfl,-⟩,⟨p2,q2,rfl,-⟩⟩:=hx;simp only [Ex.kind,Ex.n,Ex.text,Ex.mod,Ex.kids,Ex.clauses] at *;obtain ⟨p,cap,rfl,-⟩:=h;generalize ms.length=n at *;have HWT:=hid hw;have HSUM:=hid (Nat.le_trans (wtS_within d _) hw);have HCD:Hid (codesX ms m (d+1) (.mk kx nx tx mx ks cl)=callL ms m (.mk kx nx tx mx ks cl) ++ (withinX (.mk kx nx tx mx ks cl)).flatMap (codesX ms m d)):=rfl;have HCL:Hid (callL ms m (.mk kx nx tx mx ks cl)=if kx=8 then (if (callC ms m (.mk kx nx tx mx ks cl)).toList = [] then [] else [callC ms m (.mk kx nx tx mx ks cl)]) else []):=rfl;have LCL:=callL_len ms m (.mk kx nx tx mx ks cl);have OCL:Hid (∀ c ∈ callL ms m (.mk kx nx tx mx ks cl),c=cCall∨c=cFar):=callL_mem ms m _;obtain ⟨i0,hi,hz0,hz1,hz2⟩:=info_parts info_str;generalize hX:Ex.mk kx nx tx mx ks cl=X at *;generalize ks.length=nk at *;generalize cl.length=nc at *;obtain ⟨W2,hW2⟩:∃ W2,W2=(w.alloc (.cells #[.string sv,.slice pe ne ce,.slice pf nf cf] 63)).alloc (.cells #[.int .i64 kx,.int .i64 nx,.string tx,.string mx,.slice p1 nk q1,.slice p2 nc q2] 76):=⟨_,rfl⟩;have bM:Hid (Blk W2 w.heap.size #[.string sv,.slice pe ne ce,.slice pf nf cf] 63):=(by show Blk _ _ _ _;rw [hW2];exact Blk.new.alloc)
 have bE:Hid (Blk W2 (w.heap.size+1) #[.int .i64 kx,.int .i64 nx,.string tx,.string mx,.slice p1 nk q1,.slice p2 nc q2] 76):=by
  show Blk _ _ _ _;rw [hW2];have:=Blk.new (w:=w.alloc (.cells #[.string sv,.slice pe ne ce,.slice pf nf cf] 63)) (cs:=#[.int .i64 kx,.int .i64 nx,.string tx,.string mx,.slice p1 nk q1,.slice p2 nc q2]) (t:=76);simp only [alloc_hs] at this;exact this
 have B2:Hid (Bz w W2):=(by show Below _ _ _;rw [hW2];exact ((sqN _ _)).alloc (by simp only [alloc_hs];omega) _);have S2:Hid (W2.heap.size=w.heap.size+1+1):=(by show _=_;rw [hW2];simp only [alloc_hs]);have HW2:=hid hW2
 have O3:Hid (OwnS (W2.alloc (.cells #[] 9)) (w.heap.size+1+1) (.slice (some ⟨w.heap.size+1+1,0,none⟩) 0 0) []):=by
  have:=OwnS.fresh (w:=W2);rw [S2.out] at this;exact this
 have B3:Hid (Below (w.heap.size+1+1) W2 (W2.alloc (.cells #[] 9))):=(Below.refl _ _).alloc (by rw [S2.out];exact Nat.le_refl _) _;have HWI:Hid (∀ w',Bz w w'→Calls prog 181 #[.agg #[.int .i64 kx,.int .i64 nx,.string tx,.string mx,.slice p1 nk q1,.slice p2 nc q2]] w' fun e w''=>∃ u cells,e=.returned u∧w''.ownsRow (w'.heap.size+1) 76 6 u (withinX X).length cells∧CellsR 6 (HEx w' (fun g=>g<w.heap.size) d) cells (withinX X)∧Below w'.heap.size w' w''):=fun w' hw'=>within_any d w' (fun g=>g<w.heap.size) (fun g hg=>Nat.lt_of_lt_of_le hg hw'.size) _ X (HXX.out w' hw') HWT.out;have HCA:Hid (∀ w',Bz w w'→Calls prog 180 #[.slice p n cap,.agg #[.string sv,.slice pe ne ce,.slice pf nf cf],.agg #[.int .i64 kx,.int .i64 nx,.string tx,.string mx,.slice p1 nk q1,.slice p2 nc q2]] w' fun e w''=>e=.returned (.string (callC ms m X))∧Below w'.heap.size w' w''):=fun w' hw'=>l05Call_any dm (d+1) w' _ ms _ m _ X (HMS.out w' hw') (HMM.out w' hw') ((HXX.out w' hw').mono ⟨Nat.le_refl _,fun _ _ _=>rfl⟩ (fun _ _=>trivial));clear hm hw hX hW2;by_cases hk8:kx=8
 · subst hk8
   have hkb:((8:Int) == 8)=true:=(by simp);have HL1:=hid (HCL.out.trans (if_pos rfl))
   have HCM:Hid (callC ms m X ∈ callL ms m X∨(callC ms m X).toList = []):=by
    by_cases h:(callC ms m X).toList = []
    · exact Or.inr h
    · left;rw [HL1.out,if_neg h];simp
   generalize callC ms m X=cc at *;by_cases hcc:cc.toList = []
   · have hcb:(cc.toList == ([]:List UInt8))=true:=by simp [hcc]
     have HL0:=hid (HL1.out.trans (if_pos hcc));go_enter func147,ntmps147;go_wp2_with fail;rw [← HW2.out];refine (HCA.out _ (B2.out.trans (B3.out.mono (by omega)))).mono ?_;rintro e w4 ⟨rfl,hb4⟩;have HOq:Hid (OwnS w4 (w.heap.size+1+1) (.slice (some ⟨w.heap.size+1+1,0,none⟩) 0 0) (callL ms m X)):=(by show OwnS _ _ _ _;rw [HL0.out];exact O3.out.next hb4);have HBq:=hid (B3.out.trans (hb4.mono (by rw [alloc_hs,S2.out];omega)));have bE4:=bE.out.below HBq.out (by omega);obtain ⟨e0,e1,e2,e3,e4,e5⟩:=sqB6 bE4;clear hb4 bE4;go_wp2_with fail;clear e0 e1 e2 e3 e4 e5;refine (HWI.out _ (B2.out.trans (HBq.out.mono (by omega)))).mono ?_;rintro e w5 ⟨u5,cells5,rfl,o5,c5,hb⟩;have HOr:=hid (HOq.out.next hb);have HBr:=hid (HBq.out.trans (hb.mono (by have:=HBq.out.size;rw [S2.out] at this;exact this)));have HI5:=hid (owns_base o5);have HC5:=hid (c5.mono (fun cs y _ h=>h.mono (sqO hb) (fun _ h=>h)));obtain ⟨p5,q5,rfl,hcm5⟩:=owns_slice o5;have hn5:(withinX X).length≤9223372036854775807:=(by unfold maxLen at hcm5;omega);generalize hnn:(withinX X).length=nn at *;have HNN:=hid hnn;have s5:w.heap.size+1+1≤w5.heap.size:=(by have:=HBr.out.size;rw [S2.out] at this;exact this);clear hb hnn HOq HBq o5 c5;go_wp2_with fail
     go_loopw [7,10] (fun ov iv wr=>∃ k:Nat,k≤nn∧iv=.int .i64 k∧Hid (OwnS wr (w.heap.size+1+1) ov (callL ms m X ++ ((withinX X).take k).flatMap (codesX ms m d)))∧Hid (wr.ownsRow 0 76 6 (.slice p5 nn q5) nn cells5)∧Hid (Below (w.heap.size+1+1) w5 wr)) (fun _ iv _=>nn - (intOf iv).toNat)
     case atStart=>exact ⟨0,Nat.zero_le _,rfl,by show OwnS _ _ _ _;simpa using HOr.out,HI5,Below.refl _ _⟩
     case round =>
      obtain ⟨k,hk,rfl,ho,hin,hb⟩:=hrel;have HB0:Hid (Bz w wr):=(B2.out.trans (HBr.out.mono (by omega))).trans (hb.out.mono (by omega));have bMr:Hid (Blk wr w.heap.size #[.string sv,.slice pe ne ce,.slice pf nf cf] 63):=(bM.out.below HBr.out (by omega)).below hb.out (by omega);by_cases hlt:k<nn
      · obtain ⟨y,hyk⟩:∃ y,(withinX X)[k]?=some y:=⟨(withinX X)[k]'(by rw [HNN.out];exact hlt),List.getElem?_eq_getElem _⟩
        obtain ⟨cs,hcsl,hcs,hy⟩:=HC5.out.2 k y hyk;have HY:Hid (∀ w',Bz wr w'→HEx w' All d cs y):=fun w' hw=>(hy.mono (SameOn.of_low (hb.out.mono (by omega))) (fun _ h=>h)).mono (sqO hw) (fun _ _=>trivial);obtain ⟨z0,z1,z2,z3,z4,z5,rfl⟩:=len6 hcsl;have ad:∃ g5,p5=some ⟨g5,0,none⟩:=owns_some hin.out (by omega);obtain ⟨g5,rfl⟩:=ad;have a0:=(hin.out.cellAt (k * 6+0) (by omega)).trans (hcs 0 (by omega));have a1:=(hin.out.cellAt (k * 6+1) (by omega)).trans (hcs 1 (by omega));have a2:=(hin.out.cellAt (k * 6+2) (by omega)).trans (hcs 2 (by omega));have a3:=(hin.out.cellAt (k * 6+3) (by omega)).trans (hcs 3 (by omega));have a4:=(hin.out.cellAt (k * 6+4) (by omega)).trans (hcs 4 (by omega));have a5:=(hin.out.cellAt (k * 6+5) (by omega)).trans (hcs 5 (by omega));simp at a0 a1 a2 a3 a4 a5;obtain ⟨m0,m1,m2⟩:=sqB3 bMr.out;have hki:(k:Int)<(nn:Int):=(by omega);have hk0:=sqI k;have hsw:w.heap.size+1+1≤wr.heap.size:=(by have:=hb.out.size;omega)
        have HJ:Hid (callL ms m X ++ ((withinX X).take (k+1)).flatMap (codesX ms m d)=(callL ms m X ++ ((withinX X).take k).flatMap (codesX ms m d)) ++ codesX ms m d y):=by
         show _=_;rw [List.take_add_one,hyk];simp
        have HLK:Hid ((callL ms m X ++ ((withinX X).take k).flatMap (codesX ms m d)).length+(codesX ms m d y).length≤16777217):=by
         have h1:=HSUM.out;have h2:=sum_take_succ (fun y=>1+wtEx d y) (withinX X) k y hyk;have h3:=sum_take_le (fun y=>1+wtEx d y) (withinX X) (k+1);have h4:=flat_lenG (codesX ms m d) (fun y=>1+wtEx d y) ((withinX X).take k) (fun z _=>codesX_len ms m d z);have h5:=codesX_len ms m d y;show _≤_;rw [List.length_append];omega
        have HWY:Hid (wtEx d y≤16777216):=by
         have h1:=HSUM.out;have h2:=sum_take_succ (fun y=>1+wtEx d y) (withinX X) k y hyk;have h3:=sum_take_le (fun y=>1+wtEx d y) (withinX X) (k+1);show _≤_;omega
        have CX:Hid (∀ w',Bz wr w'→Calls prog 147 #[.slice p n cap,.agg #[.string sv,.slice pe ne ce,.slice pf nf cf],.agg #[z0,z1,z2,z3,z4,z5]] w' fun e w''=>∃ u,e=.returned u∧OwnS w'' w'.heap.size u (codesX ms m d y)∧Below w'.heap.size w' w''):=fun w' hw'=>by
         have hb9:Bz w w':=HB0.out.trans (hw'.mono HB0.out.size);exact hE w' _ ms _ m _ y (HMS.out w' hb9) (HMM.out w' hb9) (HY.out w' hw') HWY.out
        generalize hJ0:callL ms m X ++ ((withinX X).take k).flatMap (codesX ms m d)=J at *;generalize hY0:codesX ms m d y=Y at *;have OY:Hid (∀ c ∈ Y,okS c):=fun c hc=>okS_code (codesX_mem ms m d y c (by rw [hY0];exact hc));clear hcs hcsl hy hJ0 hY0;go_wp2_with fail
        go_region_law
         (first
          | (refine step_append_rows (R:=HStr) (S:=All) (by rfl) _ _ _ (by rfl) (w.heap.size+1+1) 9 i0 (.string ⟨#[]⟩) 1 16 underlying51 hi hz0 hz1 hz2 rfl (by decide) u7 J.length (strs J) (by rfl) (owns_next ho.out.1 K6.out) u6 Y (by rfl) R6.out str_oneCell (by have:=HLK.out;unfold maxLen;omega) (by have:=HLK.out;omega) (Nat.le_trans hsw K6.out.size) ?_;intro v9 w9 news9 hc9 ho9 hg9)
          | (go_simp;go_at_call 147;refine (CX.out _ (by exact (Below.refl _ _).drew)).mono ?_;rintro e w6 ⟨u6,rfl,o6,hb6⟩;have K6:Hid (Bz wr w6):=⟨hb6.os,hb6.tape,hb6.output,hb6.size,hb6.block⟩;have R6:=hid (o6.strR OY.out);clear hb6 o6;dsimp only))
        all_goals
         have HO9:Hid (OwnS w9 (w.heap.size+1+1) v9 (callL ms m X ++ ((withinX X).take (k+1)).flatMap (codesX ms m d))):=by
          show OwnS _ _ _ _;rw [HJ.out];exact OwnS.of ho9 (by simp) (by rw [cellsR_str hc9]) (Nat.le_trans (Nat.le_trans hsw K6.out.size) hg9.size)
         have HI9:=hid (owns_apart (owns_next ho.out.1 K6.out) (owns_next hin.out K6.out) (by decide) hg9);have HB9:Hid (Below (w.heap.size+1+1) w5 w9):=(hb.out.trans (K6.out.mono hsw)).trans (owns_below (owns_next ho.out.1 K6.out) hg9 (Nat.le_trans hsw K6.out.size));clear hc9 ho9 hg9;go_wp2_with fail;exact ⟨⟨k+1,by omega,by go_num,HO9,HI9,HB9⟩,by simp [intOf];omega⟩
      · have HR:Hid (OwnS wr w.heap.size u7 (codesX ms m (d+1) X)):=by
         have h1:=ho.out;rw [List.take_of_length_le (by rw [HNN.out];omega)] at h1;show OwnS _ _ _ _;rw [HCD.out];exact h1.base (by omega)
        go_wp2_with fail;go_ret;exact ⟨_,rfl,HR.out,HB0.out⟩
   · have hcb:(cc.toList == ([]:List UInt8))=false:=by simp [hcc]
     have HL0:=hid (HL1.out.trans (if_neg hcc));go_enter func147,ntmps147;go_wp2_with fail;rw [← HW2.out];refine (HCA.out _ (B2.out.trans (B3.out.mono (by omega)))).mono ?_;rintro e w4 ⟨rfl,hb4⟩;have HO4:Hid (OwnS (w4.alloc (.cells #[.string cc] 9)) (w.heap.size+1+1) (.slice (some ⟨w.heap.size+1+1,0,none⟩) 0 0) []):=(O3.out.next hb4).next ((sqN _ _));have HB4:=hid (B3.out.trans (hb4.mono (by rw [alloc_hs,S2.out];omega)));have s4:w.heap.size+1+1≤w4.heap.size:=(by have:=HB4.out.size;rw [S2.out] at this;exact this);have HB4':Hid (Below (w.heap.size+1+1) W2 (w4.alloc (.cells #[.string cc] 9))):=HB4.out.alloc s4 _
     have F7:Hid (∀ w7,(w4.alloc (.cells #[.string cc] 9)).grownBy w7 (Value.ownBlock (.slice (some ⟨w.heap.size+1+1,0,none⟩) 0 0))→w7.cell? ⟨w.heap.size+1,0,none⟩=some (.int .i64 8)∧w7.cell? ⟨w.heap.size+1,1,none⟩=some (.int .i64 nx)∧w7.cell? ⟨w.heap.size+1,2,none⟩=some (.string tx)∧w7.cell? ⟨w.heap.size+1,3,none⟩=some (.string mx)∧w7.cell? ⟨w.heap.size+1,4,none⟩=some (.slice p1 nk q1)∧w7.cell? ⟨w.heap.size+1,5,none⟩=some (.slice p2 nc q2)):=fun w7 hg7=>by
      have bE4:=bE.out.below (HB4'.out.trans (owns_below HO4.out.1 hg7 (by rw [alloc_hs];omega))) (by omega);exact ⟨bE4.cell 0 _ rfl,bE4.cell 1 _ rfl,bE4.cell 2 _ rfl,bE4.cell 3 _ rfl,bE4.cell 4 _ rfl,bE4.cell 5 _ rfl⟩
     clear hb4;go_wp2_with (at_builtin;refine wpList_append_own _ rfl _ _ 51 rfl (w.heap.size+1+1) 9 i0 (.string ⟨#[]⟩) 1 16 underlying51 hi hz0 hz1 hz2 rfl (by decide) (.slice (some ⟨w.heap.size+1+1,0,none⟩) 0 0) 0 [] rfl HO4.out.1 ⟨w4.heap.size,0,none⟩ 1 1 (strs [cc]) rfl (by simp [strs]) (one_str w4 cc _ rfl) (strs_oneCell _) (by unfold maxLen;omega) (by omega) (by rw [alloc_hs];omega) ?_;intro v7 w7 ho7 hg7 _;obtain ⟨e0,e1,e2,e3,e4,e5⟩:=F7.out w7 hg7)
     have HOq:Hid (OwnS w7 (w.heap.size+1+1) v7 (callL ms m X)):=by
      show OwnS _ _ _ _;rw [HL0.out];exact OwnS.of (l:=[]) (m:=[cc]) ho7 (by simp) (by simp [strs]) (Nat.le_trans (by rw [alloc_hs];omega) hg7.size)
     have HBq:=hid (HB4'.out.trans (owns_below HO4.out.1 hg7 (by rw [alloc_hs];omega)));clear ho7 hg7 e0 e1 e2 e3 e4 e5;refine (HWI.out _ (B2.out.trans (HBq.out.mono (by omega)))).mono ?_;rintro e w5 ⟨u5,cells5,rfl,o5,c5,hb⟩;have HOr:=hid (HOq.out.next hb);have HBr:=hid (HBq.out.trans (hb.mono (by have:=HBq.out.size;rw [S2.out] at this;exact this)));have HI5:=hid (owns_base o5);have HC5:=hid (c5.mono (fun cs y _ h=>h.mono (sqO hb) (fun _ h=>h)));obtain ⟨p5,q5,rfl,hcm5⟩:=owns_slice o5;have hn5:(withinX X).length≤9223372036854775807:=(by unfold maxLen at hcm5;omega);generalize hnn:(withinX X).length=nn at *;have HNN:=hid hnn;have s5:w.heap.size+1+1≤w5.heap.size:=(by have:=HBr.out.size;rw [S2.out] at this;exact this);clear hb hnn HOq HBq o5 c5;go_wp2_with fail
     go_loopw [7,10] (fun ov iv wr=>∃ k:Nat,k≤nn∧iv=.int .i64 k∧Hid (OwnS wr (w.heap.size+1+1) ov (callL ms m X ++ ((withinX X).take k).flatMap (codesX ms m d)))∧Hid (wr.ownsRow 0 76 6 (.slice p5 nn q5) nn cells5)∧Hid (Below (w.heap.size+1+1) w5 wr)) (fun _ iv _=>nn - (intOf iv).toNat)
     case atStart=>exact ⟨0,Nat.zero_le _,rfl,by show OwnS _ _ _ _;simpa using HOr.out,HI5,Below.refl _ _⟩
     case round =>
      obtain ⟨k,hk,rfl,ho,hin,hb⟩:=hrel;have HB0:Hid (Bz w wr):=(B2.out.trans (HBr.out.mono (by omega))).trans (hb.out.mono (by omega));have bMr:Hid (Blk wr w.heap.size #[.string sv,.slice pe ne ce,.slice pf nf cf] 63):=(bM.out.below HBr.out (by omega)).below hb.out (by omega);by_cases hlt:k<nn
      · obtain ⟨y,hyk⟩:∃ y,(withinX X)[k]?=some y:=⟨(withinX X)[k]'(by rw [HNN.out];exact hlt),List.getElem?_eq_getElem _⟩
        obtain ⟨cs,hcsl,hcs,hy⟩:=HC5.out.2 k y hyk;have HY:Hid (∀ w',Bz wr w'→HEx w' All d cs y):=fun w' hw=>(hy.mono (SameOn.of_low (hb.out.mono (by omega))) (fun _ h=>h)).mono (sqO hw) (fun _ _=>trivial);obtain ⟨z0,z1,z2,z3,z4,z5,rfl⟩:=len6 hcsl;have ad:∃ g5,p5=some ⟨g5,0,none⟩:=owns_some hin.out (by omega);obtain ⟨g5,rfl⟩:=ad;have a0:=(hin.out.cellAt (k * 6+0) (by omega)).trans (hcs 0 (by omega));have a1:=(hin.out.cellAt (k * 6+1) (by omega)).trans (hcs 1 (by omega));have a2:=(hin.out.cellAt (k * 6+2) (by omega)).trans (hcs 2 (by omega));have a3:=(hin.out.cellAt (k * 6+3) (by omega)).trans (hcs 3 (by omega));have a4:=(hin.out.cellAt (k * 6+4) (by omega)).trans (hcs 4 (by omega));have a5:=(hin.out.cellAt (k * 6+5) (by omega)).trans (hcs 5 (by omega));simp at a0 a1 a2 a3 a4 a5;obtain ⟨m0,m1,m2⟩:=sqB3 bMr.out;have hki:(k:Int)<(nn:Int):=(by omega);have hk0:=sqI k;have hsw:w.heap.size+1+1≤wr.heap.size:=(by have:=hb.out.size;omega)
        have HJ:Hid (callL ms m X ++ ((withinX X).take (k+1)).flatMap (codesX ms m d)=(callL ms m X ++ ((withinX X).take k).flatMap (codesX ms m d)) ++ codesX ms m d y):=by
         show _=_;rw [List.take_add_one,hyk];simp
        have HLK:Hid ((callL ms m X ++ ((withinX X).take k).flatMap (codesX ms m d)).length+(codesX ms m d y).length≤16777217):=by
         have h1:=HSUM.out;have h2:=sum_take_succ (fun y=>1+wtEx d y) (withinX X) k y hyk;have h3:=sum_take_le (fun y=>1+wtEx d y) (withinX X) (k+1);have h4:=flat_lenG (codesX ms m d) (fun y=>1+wtEx d y) ((withinX X).take k) (fun z _=>codesX_len ms m d z);have h5:=codesX_len ms m d y;show _≤_;rw [List.length_append];omega
        have HWY:Hid (wtEx d y≤16777216):=by
         have h1:=HSUM.out;have h2:=sum_take_succ (fun y=>1+wtEx d y) (withinX X) k y hyk;have h3:=sum_take_le (fun y=>1+wtEx d y) (withinX X) (k+1);show _≤_;omega
        have CX:Hid (∀ w',Bz wr w'→Calls prog 147 #[.slice p n cap,.agg #[.string sv,.slice pe ne ce,.slice pf nf cf],.agg #[z0,z1,z2,z3,z4,z5]] w' fun e w''=>∃ u,e=.returned u∧OwnS w'' w'.heap.size u (codesX ms m d y)∧Below w'.heap.size w' w''):=fun w' hw'=>by
         have hb9:Bz w w':=HB0.out.trans (hw'.mono HB0.out.size);exact hE w' _ ms _ m _ y (HMS.out w' hb9) (HMM.out w' hb9) (HY.out w' hw') HWY.out
        generalize hJ0:callL ms m X ++ ((withinX X).take k).flatMap (codesX ms m d)=J at *;generalize hY0:codesX ms m d y=Y at *;have OY:Hid (∀ c ∈ Y,okS c):=fun c hc=>okS_code (codesX_mem ms m d y c (by rw [hY0];exact hc));clear hcs hcsl hy hJ0 hY0;go_wp2_with fail
        go_region_law
         (first
          | (refine step_append_rows (R:=HStr) (S:=All) (by rfl) _ _ _ (by rfl) (w.heap.size+1+1) 9 i0 (.string ⟨#[]⟩) 1 16 underlying51 hi hz0 hz1 hz2 rfl (by decide) u7 J.length (strs J) (by rfl) (owns_next ho.out.1 K6.out) u6 Y (by rfl) R6.out str_oneCell (by have:=HLK.out;unfold maxLen;omega) (by have:=HLK.out;omega) (Nat.le_trans hsw K6.out.size) ?_;intro v9 w9 news9 hc9 ho9 hg9)
          | (go_simp;go_at_call 147;refine (CX.out _ (by exact (Below.refl _ _).drew)).mono ?_;rintro e w6 ⟨u6,rfl,o6,hb6⟩;have K6:Hid (Bz wr w6):=⟨hb6.os,hb6.tape,hb6.output,hb6.size,hb6.block⟩;have R6:=hid (o6.strR OY.out);clear hb6 o6;dsimp only))
        all_goals
         have HO9:Hid (OwnS w9 (w.heap.size+1+1) v9 (callL ms m X ++ ((withinX X).take (k+1)).flatMap (codesX ms m d))):=by
          show OwnS _ _ _ _;rw [HJ.out];exact OwnS.of ho9 (by simp) (by rw [cellsR_str hc9]) (Nat.le_trans (Nat.le_trans hsw K6.out.size) hg9.size)
         have HI9:=hid (owns_apart (owns_next ho.out.1 K6.out) (owns_next hin.out K6.out) (by decide) hg9);have HB9:Hid (Below (w.heap.size+1+1) w5 w9):=(hb.out.trans (K6.out.mono hsw)).trans (owns_below (owns_next ho.out.1 K6.out) hg9 (Nat.le_trans hsw K6.out.size));clear hc9 ho9 hg9;go_wp2_with fail;exact ⟨⟨k+1,by omega,by go_num,HO9,HI9,HB9⟩,by simp [intOf];omega⟩
      · have HR:Hid (OwnS wr w.heap.size u7 (codesX ms m (d+1) X)):=by
         have h1:=ho.out;rw [List.take_of_length_le (by rw [HNN.out];omega)] at h1;show OwnS _ _ _ _;rw [HCD.out];exact h1.base (by omega)
        go_wp2_with fail;go_ret;exact ⟨_,rfl,HR.out,HB0.out⟩
 · have hkb:(kx == 8)=false:=by simpa using hk8
   have HL0:=hid (HCL.out.trans (if_neg hk8));have HOq:Hid (OwnS (W2.alloc (.cells #[] 9)) (w.heap.size+1+1) (.slice (some ⟨w.heap.size+1+1,0,none⟩) 0 0) (callL ms m X)):=(by show OwnS _ _ _ _;rw [HL0.out];exact O3.out);have HBq:=B3;go_enter func147,ntmps147;go_wp2_with fail;rw [← HW2.out];refine (HWI.out _ (B2.out.trans (HBq.out.mono (by omega)))).mono ?_;rintro e w5 ⟨u5,cells5,rfl,o5,c5,hb⟩;have HOr:=hid (HOq.out.next hb);have HBr:=hid (HBq.out.trans (hb.mono (by have:=HBq.out.size;rw [S2.out] at this;exact this)));have HI5:=hid (owns_base o5);have HC5:=hid (c5.mono (fun cs y _ h=>h.mono (sqO hb) (fun _ h=>h)));obtain ⟨p5,q5,rfl,hcm5⟩:=owns_slice o5;have hn5:(withinX X).length≤9223372036854775807:=(by unfold maxLen at hcm5;omega);generalize hnn:(withinX X).length=nn at *;have HNN:=hid hnn;have s5:w.heap.size+1+1≤w5.heap.size:=(by have:=HBr.out.size;rw [S2.out] at this;exact this);clear hb hnn HOq HBq o5 c5;go_wp2_with fail
   go_loopw [7,10] (fun ov iv wr=>∃ k:Nat,k≤nn∧iv=.int .i64 k∧Hid (OwnS wr (w.heap.size+1+1) ov (callL ms m X ++ ((withinX X).take k).flatMap (codesX ms m d)))∧Hid (wr.ownsRow 0 76 6 (.slice p5 nn q5) nn cells5)∧Hid (Below (w.heap.size+1+1) w5 wr)) (fun _ iv _=>nn - (intOf iv).toNat)
   case atStart=>exact ⟨0,Nat.zero_le _,rfl,by show OwnS _ _ _ _;simpa using HOr.out,HI5,Below.refl _ _⟩
   case round =>
    obtain ⟨k,hk,rfl,ho,hin,hb⟩:=hrel;have HB0:Hid (Bz w wr):=(B2.out.trans (HBr.out.mono (by omega))).trans (hb.out.mono (by omega));have bMr:Hid (Blk wr w.heap.size #[.string sv,.slice pe ne ce,.slice pf nf cf] 63):=(bM.out.below HBr.out (by omega)).below hb.out (by omega);by_cases hlt:k<nn
    · obtain ⟨y,hyk⟩:∃ y,(withinX X)[k]?=some y:=⟨(withinX X)[k]'(by rw [HNN.out];exact hlt),List.getElem?_eq_getElem _⟩
      obtain ⟨cs,hcsl,hcs,hy⟩:=HC5.out.2 k y hyk;have HY:Hid (∀ w',Bz wr w'→HEx w' All d cs y):=fun w' hw=>(hy.mono (SameOn.of_low (hb.out.mono (by omega))) (fun _ h=>h)).mono (sqO hw) (fun _ _=>trivial);obtain ⟨z0,z1,z2,z3,z4,z5,rfl⟩:=len6 hcsl;have ad:∃ g5,p5=some ⟨g5,0,none⟩:=owns_some hin.out (by omega);obtain ⟨g5,rfl⟩:=ad;have a0:=(hin.out.cellAt (k * 6+0) (by omega)).trans (hcs 0 (by omega));have a1:=(hin.out.cellAt (k * 6+1) (by omega)).trans (hcs 1 (by omega));have a2:=(hin.out.cellAt (k * 6+2) (by omega)).trans (hcs 2 (by omega));have a3:=(hin.out.cellAt (k * 6+3) (by omega)).trans (hcs 3 (by omega));have a4:=(hin.out.cellAt (k * 6+4) (by omega)).trans (hcs 4 (by omega));have a5:=(hin.out.cellAt (k * 6+5) (by omega)).trans (hcs 5 (by omega));simp at a0 a1 a2 a3 a4 a5;obtain ⟨m0,m1,m2⟩:=sqB3 bMr.out;have hki:(k:Int)<(nn:Int):=(by omega);have hk0:=sqI k;have hsw:w.heap.size+1+1≤wr.heap.size:=(by have:=hb.out.size;omega)
      have HJ:Hid (callL ms m X ++ ((withinX X).take (k+1)).flatMap (codesX ms m d)=(callL ms m X ++ ((withinX X).take k).flatMap (codesX ms m d)) ++ codesX ms m d y):=by
       show _=_;rw [List.take_add_one,hyk];simp
      have HLK:Hid ((callL ms m X ++ ((withinX X).take k).flatMap (codesX ms m d)).length+(codesX ms m d y).length≤16777217):=by
       have h1:=HSUM.out;have h2:=sum_take_succ (fun y=>1+wtEx d y) (withinX X) k y hyk;have h3:=sum_take_le (fun y=>1+wtEx d y) (withinX X) (k+1);have h4:=flat_lenG (codesX ms m d) (fun y=>1+wtEx d y) ((withinX X).take k) (fun z _=>codesX_len ms m d z);have h5:=codesX_len ms m d y;show _≤_;rw [List.length_append];omega
      have HWY:Hid (wtEx d y≤16777216):=by
       have h1:=HSUM.out;have h2:=sum_take_succ (fun y=>1+wtEx d y) (withinX X) k y hyk;have h3:=sum_take_le (fun y=>1+wtEx d y) (withinX X) (k+1);show _≤_;omega
      have CX:Hid (∀ w',Bz wr w'→Calls prog 147 #[.slice p n cap,.agg #[.string sv,.slice pe ne ce,.slice pf nf cf],.agg #[z0,z1,z2,z3,z4,z5]] w' fun e w''=>∃ u,e=.returned u∧OwnS w'' w'.heap.size u (codesX ms m d y)∧Below w'.heap.size w' w''):=fun w' hw'=>by
       have hb9:Bz w w':=HB0.out.trans (hw'.mono HB0.out.size);exact hE w' _ ms _ m _ y (HMS.out w' hb9) (HMM.out w' hb9) (HY.out w' hw') HWY.out
      generalize hJ0:callL ms m X ++ ((withinX X).take k).flatMap (codesX ms m d)=J at *;generalize hY0:codesX ms m d y=Y at *;have OY:Hid (∀ c ∈ Y,okS c):=fun c hc=>okS_code (codesX_mem ms m d y c (by rw [hY0];exact hc));clear hcs hcsl hy hJ0 hY0;go_wp2_with fail
      go_region_law
       (first
        | (refine step_append_rows (R:=HStr) (S:=All) (by rfl) _ _ _ (by rfl) (w.heap.size+1+1) 9 i0 (.string ⟨#[]⟩) 1 16 underlying51 hi hz0 hz1 hz2 rfl (by decide) u7 J.length (strs J) (by rfl) (owns_next ho.out.1 K6.out) u6 Y (by rfl) R6.out str_oneCell (by have:=HLK.out;unfold maxLen;omega) (by have:=HLK.out;omega) (Nat.le_trans hsw K6.out.size) ?_;intro v9 w9 news9 hc9 ho9 hg9)
        | (go_simp;go_at_call 147;refine (CX.out _ (by exact (Below.refl _ _).drew)).mono ?_;rintro e w6 ⟨u6,rfl,o6,hb6⟩;have K6:Hid (Bz wr w6):=⟨hb6.os,hb6.tape,hb6.output,hb6.size,hb6.block⟩;have R6:=hid (o6.strR OY.out);clear hb6 o6;dsimp only))
      all_goals
       have HO9:Hid (OwnS w9 (w.heap.size+1+1) v9 (callL ms m X ++ ((withinX X).take (k+1)).flatMap (codesX ms m d))):=by
        show OwnS _ _ _ _;rw [HJ.out];exact OwnS.of ho9 (by simp) (by rw [cellsR_str hc9]) (Nat.le_trans (Nat.le_trans hsw K6.out.size) hg9.size)
       have HI9:=hid (owns_apart (owns_next ho.out.1 K6.out) (owns_next hin.out K6.out) (by decide) hg9);have HB9:Hid (Below (w.heap.size+1+1) w5 w9):=(hb.out.trans (K6.out.mono hsw)).trans (owns_below (owns_next ho.out.1 K6.out) hg9 (Nat.le_trans hsw K6.out.size));clear hc9 ho9 hg9;go_wp2_with fail;exact ⟨⟨k+1,by omega,by go_num,HO9,HI9,HB9⟩,by simp [intOf];omega⟩
    · have HR:Hid (OwnS wr w.heap.size u7 (codesX ms m (d+1) X)):=by
       have h1:=ho.out;rw [List.take_of_length_le (by rw [HNN.out];omega)] at h1;show OwnS _ _ _ _;rw [HCD.out];exact h1.base (by omega)
      go_wp2_with fail;go_ret;exact ⟨_,rfl,HR.out,HB0.out⟩
theorem l05Exp_all (dm:Nat):∀ d,LxC dm d
 | 0=>fun w v ms mc m cs x _ _ h _=>h.elim
 | d+1=>l05Exp_of (l05Exp_all dm d)
theorem bndV_two (d:Nat) (n:Int) (t m:ByteArray) (a b:Ex) (cs:List Cl):bndV (d+1) (.mk 9 n t m [a,b] cs)=onceS (bndV d b) (patV d a):=rfl
theorem bndV_else (d:Nat) (k n:Int) (t m:ByteArray) (ks:List Ex) (cs:List Cl) (h:¬ (k=9∧ks.length=2)):bndV (d+1) (.mk k n t m ks cs)=foldV (bndV d) [] ks:=by
 unfold bndV
 split
 · simp at h
 · rfl
theorem bndV_len:∀ (d:Nat) (x:Ex),(bndV d x).length≤1+wtEx d x
 | 0,_=>by simp [bndV]
 | d+1,.mk k n t m ks cs=>by
  have hw:wtEx (d+1) (.mk k n t m ks cs)=t.size+m.size+wtS (wtEx d) ks+wtS (wtCl (wtEx d)) cs:=rfl;by_cases h:k=9∧ks.length=2
  · obtain ⟨rfl,h2⟩:=h
    match ks,h2 with
    | [a,b],_ =>
     have h3:=onceS_length (bndV d b) (patV d a);have h4:=bndV_len d b;have h5:=patV_len d a;have h6:wtS (wtEx d) [a,b]=2+(wtEx d a+wtEx d b):=(by simp [wtS]);rw [bndV_two,hw];omega
  · have h1:=foldV_len (bndV d) (wtEx d) ks [] (fun y _=>bndV_len d y)
    rw [bndV_else d k n t m ks cs h,hw];simp only [List.length_nil] at h1;omega
theorem bndV_ok:∀ (d:Nat) (x:Ex),exS d x→∀ s ∈ bndV d x,okS s
 | 0,_,h,_,_=>h.elim
 | d+1,.mk k n t m ks cs,hx,s,hs=>by
  by_cases h:k=9∧ks.length=2
  · obtain ⟨rfl,h2⟩:=h
    match ks,h2 with
    | [a,b],_ =>
     rw [bndV_two] at hs
     rcases onceS_mem _ _ s hs with h1 | h1
     · exact bndV_ok d b (hx.2.1 b (by simp)) s h1
     · exact patV_ok d a (hx.2.1 a (by simp)) s h1
  · rw [bndV_else d k n t m ks cs h] at hs
    rcases foldV_mem _ _ _ s hs with h1 | ⟨y,hy,h1⟩
    · simp at h1
    · exact bndV_ok d y (hx.2.1 y hy) s h1
theorem bound_of {d:Nat} (hE:NmC 207 d (bndV d)):NmC 207 (d+1) (bndV (d+1)):=by
 intro w cs x h hwt;have hok:=h.txts;obtain ⟨kv,cv,rfl,-,-,hts,hms,f0,-⟩:=h;obtain ⟨kx,nx,tx,mx,ks,cl⟩:=x;simp only [Ex.kind,Ex.n,Ex.text,Ex.mod,Ex.kids] at *;have hw:wtEx (d+1) (.mk kx nx tx mx ks cl)=tx.size+mx.size+wtS (wtEx d) ks+wtS (wtCl (wtEx d)) cl:=rfl;have wks:wtS (wtEx d) ks≤16777216:=(by omega);obtain ⟨p,cap,rfl,hcl,hcm,hx⟩:=f0;have hnb:=sqM hcl hcm;obtain ⟨i,hi,hz0,hz1,hz2⟩:=info_parts info_str
 have LQ:Hid (∀ k,(foldV (bndV d) [] (ks.take k)).length≤16777217):=fun k=>by
  have h1:=foldV_len (bndV d) (wtEx d) (ks.take k) [] (fun y _=>bndV_len d y)
  have h2:wtS (wtEx d) (ks.take k)≤wtS (wtEx d) ks:=by
   have h3:=sum_take_le (wtEx d) ks k;have h4:(ks.take k).length≤ks.length:=(by rw [List.length_take];omega);unfold wtS;omega
  simp only [List.length_nil] at h1;omega
 have OQ:Hid (∀ k,∀ s ∈ foldV (bndV d) [] (ks.take k),okS s):=fun k s hs=>by
  rcases foldV_mem _ _ _ s hs with h | ⟨y,hy,h⟩
  · simp at h
  · exact bndV_ok d y (hok.2.1 y (List.mem_of_mem_take hy)) s h
 have BX:Hid (∀ k x,ks[k]?=some x→wtEx d x≤16777216∧exS d x∧(bndV d x).length≤16777217):=fun k x hk=>by
  have h1:=sum_take_succ (wtEx d) ks k x hk;have h2:=sum_take_le (wtEx d) ks (k+1);have h3:=bndV_len d x;have h4:wtEx d x≤16777216:=(by unfold wtS at wks;omega);exact ⟨h4,hok.2.1 x (List.mem_of_getElem? hk),by omega⟩
 by_cases h92:kx=9∧ks.length=2
 · obtain ⟨rfl,hn2⟩:=h92
   obtain ⟨ya,yb,rfl⟩:∃ a b,ks = [a,b]:=by
    match ks,hn2 with
    | [a,b],_=>exact ⟨a,b,rfl⟩
   rw [bndV_two];obtain ⟨wa,sa,-⟩:=BX.out 0 ya rfl;obtain ⟨wb,sb,lb⟩:=BX.out 1 yb rfl;have la:(patV d ya).length≤16777217:=(by have:=patV_len d ya;omega);obtain ⟨g,off,rfl,-,hgl,hat⟩:=hx (by simp);obtain ⟨cs,hcsl,hcs,ra⟩:=hat 0 ya rfl;obtain ⟨cs',hcsl',hcs',rb⟩:=hat 1 yb rfl;simp only [List.length_cons,List.length_nil] at *;obtain ⟨W1,hW1⟩:∃ W1,W1=w.alloc (.cells #[.int .i64 9,.int .i64 nx,.string tx,.string mx,.slice (some ⟨g,off,none⟩) 2 cap,cv] 76):=⟨_,rfl⟩;have bA:Hid (Blk W1 w.heap.size #[.int .i64 9,.int .i64 nx,.string tx,.string mx,.slice (some ⟨g,off,none⟩) 2 cap,cv] 76):=(by show Blk _ _ _ _;rw [hW1];exact Blk.new);have B1:Hid (Bz w W1):=(by show Below _ _ _;rw [hW1];exact (sqN _ _));have HW1:=hid hW1;have EA:∀ w',Bz w w'→HEx w' All d cs ya:=fun w' hw=>ra.mono (sqO hw) (fun _ h=>h);have EB:∀ w',Bz w w'→HEx w' All d cs' yb:=fun w' hw=>rb.mono (sqO hw) (fun _ h=>h);obtain ⟨c0,c1,c2,c3,c4,c5,rfl⟩:=len6 hcsl;obtain ⟨e0,e1,e2,e3,e4,e5,rfl⟩:=len6 hcsl';have ca0:=hcs 0 (by omega);have cb0:=hcs' 0 (by omega);have ca1:=hcs 1 (by omega);have cb1:=hcs' 1 (by omega);have ca2:=hcs 2 (by omega);have cb2:=hcs' 2 (by omega);have ca3:=hcs 3 (by omega);have cb3:=hcs' 3 (by omega);have ca4:=hcs 4 (by omega);have cb4:=hcs' 4 (by omega);have ca5:=hcs 5 (by omega);have cb5:=hcs' 5 (by omega);rw [← B1.out.cell (p:=⟨g,_,none⟩) hgl] at ca0 cb0 ca1 cb1 ca2 cb2 ca3 cb3 ca4 cb4 ca5 cb5;simp at ca0 cb0 ca1 cb1 ca2 cb2 ca3 cb3 ca4 cb4 ca5 cb5;have x4:=bA.out.cell 4 _ rfl;clear hx hat hcs hcs' hcsl hcsl' ra rb LQ OQ BX hok hw hwt hW1;go_enter func207,ntmps207;go_wp2_with fail;rw [← HW1.out]
   go_region_held3 (fun w'=>w'.cell? ⟨w.heap.size,4,none⟩=some (.slice (some ⟨g,off,none⟩) 2 cap)∧w'.cell? ⟨g,off,none⟩=some c0∧w'.cell? ⟨g,off+1,none⟩=some c1∧w'.cell? ⟨g,off+2,none⟩=some c2∧w'.cell? ⟨g,off+3,none⟩=some c3∧w'.cell? ⟨g,off+4,none⟩=some c4∧w'.cell? ⟨g,off+5,none⟩=some c5∧w'.cell? ⟨g,off+6,none⟩=some e0∧w'.cell? ⟨g,off+6+1,none⟩=some e1∧w'.cell? ⟨g,off+6+2,none⟩=some e2∧w'.cell? ⟨g,off+6+3,none⟩=some e3∧w'.cell? ⟨g,off+6+4,none⟩=some e4∧w'.cell? ⟨g,off+6+5,none⟩=some e5)
    (first | go_keep | (go_split_ands;refine ⟨?_,?_,?_,?_,?_,?_,?_,?_,?_,?_,?_,?_,?_⟩ <;> exact cell_next hb (by assumption)))
    (first
     | (go_at_call 207;refine (hE _ _ yb (EB _ (by exact B1.out.drew)) wb).mono ?_;rintro e w4 ⟨u4,rfl,ho4,hb⟩;have K4:Hid (Bz W1 w4):=⟨hb.os,hb.tape,hb.output,hb.size,hb.block⟩;have G4:=hid ho4;clear ho4)
     | (go_at_call 103;refine (patVars_all d _ _ ya (EA _ (by exact B1.out.trans (K4.out.mono B1.out.size))) wa).mono ?_;rintro e w5 ⟨u5,rfl,ho5,hb⟩;have K5:=hid hb;have G5:=hid (ho5.strR (patV_ok d ya sa));have G4b:Hid (StrV w5 u4 (bndV d yb)):=(G4.out.next hb).strV (bndV_ok d yb sb);clear ho5)
     | (go_at_call 58;refine (once_any _ _ _ _ _ G4b.out G5.out (by omega)).mono ?_;rintro e w6 ⟨u6,rfl,ho6,hb⟩;have K6:=hid hb;have G6:=hid ho6;clear ho6))
   go_split_ands;have BZ:Hid (Bz w w5):=(B1.out.trans (K4.out.mono B1.out.size)).trans (K5.out.mono (B1.out.trans (K4.out.mono B1.out.size)).size);have BY:=hid (BZ.out.trans (K6.out.mono BZ.out.size));go_wp2_with fail;go_ret;exact ⟨u6,rfl,G6.out.base BZ.out.size,BY.out⟩
 · rw [bndV_else d kx nx tx mx ks cl h92]
   generalize hn:ks.length=n at *;have HN:=hid hn;have HX:=hid hx;obtain ⟨W1,hW1⟩:∃ W1,W1=w.alloc (.cells #[.int .i64 kx,.int .i64 nx,.string tx,.string mx,.slice p n cap,cv] 76):=⟨_,rfl⟩;have bA:Hid (Blk W1 w.heap.size #[.int .i64 kx,.int .i64 nx,.string tx,.string mx,.slice p n cap,cv] 76):=(by show Blk _ _ _ _;rw [hW1];exact Blk.new);have B1:Hid (Bz w W1):=(by show Below _ _ _;rw [hW1];exact (sqN _ _));have hs1:W1.heap.size=w.heap.size+1:=(by rw [hW1];simp);have HW1:=hid hW1
   have O9:Hid (OwnS (W1.alloc (.cells #[] 9)) w.heap.size (.slice (some ⟨w.heap.size+1,0,none⟩) 0 0) []):=by
    have:=(OwnS.fresh (w:=W1)).base B1.out.size
    rwa [hs1] at this
   have BBB:Hid (Bz w (W1.alloc (.cells #[] 9))):=B1.out.alloc B1.out.size _;have bB:Hid (Blk (W1.alloc (.cells #[] 9)) w.heap.size #[.int .i64 kx,.int .i64 nx,.string tx,.string mx,.slice p n cap,cv] 76):=bA.out.alloc;clear hx hn hok hw hwt hW1;by_cases k9:kx=9
   · subst k9
     have hn2:¬ n=2:=fun h=>h92 ⟨rfl,h⟩;have hn2b:((n:Int) == 2)=false:=(by simp;omega);clear h92;go_enter func207,ntmps207;go_wp2_with fail;rw [← HW1.out]
     go_loopw [3,4] (fun ov iv wr=>∃ k:Nat,k≤n∧iv=.int .i64 k∧Hid (OwnS wr w.heap.size ov (foldV (bndV d) [] (ks.take k)))∧Hid (Blk wr w.heap.size #[.int .i64 9,.int .i64 nx,.string tx,.string mx,.slice p n cap,cv] 76)∧Bz w wr) (fun _ iv _=>n - (intOf iv).toNat)
     case atStart=>exact ⟨0,Nat.zero_le _,rfl,O9.out,bB.out,BBB.out⟩
     case round =>
      obtain ⟨k,hk,rfl,ho,hbk,hb⟩:=hrel;have HB:=hid hb;have xa4:=hbk.out.cell 4 _ rfl;by_cases hlt:k<n
      · obtain ⟨x,hxk⟩:=sqA (l:=ks) (k:=k) HN.out hlt
        obtain ⟨g,off,rfl,-,hgl,hat⟩:=HX.out (sqE hxk);obtain ⟨cs,hcsl,hcs,r1⟩:=hat k x hxk;have E1:∀ w',Bz w w'→HEx w' All d cs x:=fun w' hw=>r1.mono (sqO hw) (fun _ h=>h);obtain ⟨c0,c1,c2,c3,c4,c5,rfl⟩:=len6 hcsl;obtain ⟨a0,a1,a2,a3,a4,a5⟩:=sqC6 hcs (by omega);rw [← hb.cell (p:=⟨g,_,none⟩) hgl] at a0 a1 a2 a3 a4 a5;simp at a0 a1 a2 a3 a4 a5;have hki:(k:Int)<(n:Int):=(by omega);have hk0:=sqI k;obtain ⟨wx,sx,lx⟩:=BX.out k x hxk;have HJ:Hid (foldV (bndV d) [] (ks.take (k+1))=onceS (foldV (bndV d) [] (ks.take k)) (bndV d x)):=foldV_snoc _ _ ks k x hxk;have lq:=LQ.out k;have oq:=OQ.out k;generalize hJ0:foldV (bndV d) [] (ks.take k)=J at *;clear hb hcs hat hcsl r1 hJ0;go_wp2_with fail;refine (hE _ _ x (E1 _ HB.out) wx).mono ?_;rintro e w4 ⟨u4,rfl,ho4,hb4⟩;have HB4:=hid (HB.out.trans (hb4.mono HB.out.size));have SV:Hid (StrV w4 u3 J):=(ho.out.next hb4).strV oq;have SR:=hid (ho4.strR (bndV_ok d x sx));have bk4:=hid (hbk.out.next hb4);clear hb4 ho4 xa4 a0 a1 a2 a3 a4 a5;go_wp2_with fail;refine (once_any _ _ _ J (bndV d x) SV.out SR.out (by omega)).mono ?_;rintro e w5 ⟨u5,rfl,ho5,hb5⟩;have HB5:=hid (HB4.out.trans (hb5.mono HB4.out.size));have HO5:=hid (ho5.base HB4.out.size);have bk5:=hid (bk4.out.next hb5);clear hb5 ho5;go_wp2_with fail;exact ⟨⟨k+1,by omega,by go_num,by show OwnS _ _ _ _;rw [HJ.out];exact HO5.out,bk5.out,HB5.out⟩,by simp [intOf];omega⟩
      · have HS:Hid (OwnS wr w.heap.size u3 (foldV (bndV d) [] ks)):=by
         have:=ho.out
         rwa [List.take_of_length_le (by rw [HN.out];omega)] at this
        clear hb;go_wp2_with fail;go_ret;exact ⟨u3,rfl,HS.out,HB.out⟩
   · have k9b:(kx == 9)=false:=by simpa using k9
     clear h92;go_enter func207,ntmps207;go_wp2_with fail;rw [← HW1.out]
     go_loopw [3,4] (fun ov iv wr=>∃ k:Nat,k≤n∧iv=.int .i64 k∧Hid (OwnS wr w.heap.size ov (foldV (bndV d) [] (ks.take k)))∧Hid (Blk wr w.heap.size #[.int .i64 kx,.int .i64 nx,.string tx,.string mx,.slice p n cap,cv] 76)∧Bz w wr) (fun _ iv _=>n - (intOf iv).toNat)
     case atStart=>exact ⟨0,Nat.zero_le _,rfl,O9.out,bB.out,BBB.out⟩
     case round =>
      obtain ⟨k,hk,rfl,ho,hbk,hb⟩:=hrel;have HB:=hid hb;have xa4:=hbk.out.cell 4 _ rfl;by_cases hlt:k<n
      · obtain ⟨x,hxk⟩:=sqA (l:=ks) (k:=k) HN.out hlt
        obtain ⟨g,off,rfl,-,hgl,hat⟩:=HX.out (sqE hxk);obtain ⟨cs,hcsl,hcs,r1⟩:=hat k x hxk;have E1:∀ w',Bz w w'→HEx w' All d cs x:=fun w' hw=>r1.mono (sqO hw) (fun _ h=>h);obtain ⟨c0,c1,c2,c3,c4,c5,rfl⟩:=len6 hcsl;obtain ⟨a0,a1,a2,a3,a4,a5⟩:=sqC6 hcs (by omega);rw [← hb.cell (p:=⟨g,_,none⟩) hgl] at a0 a1 a2 a3 a4 a5;simp at a0 a1 a2 a3 a4 a5;have hki:(k:Int)<(n:Int):=(by omega);have hk0:=sqI k;obtain ⟨wx,sx,lx⟩:=BX.out k x hxk;have HJ:Hid (foldV (bndV d) [] (ks.take (k+1))=onceS (foldV (bndV d) [] (ks.take k)) (bndV d x)):=foldV_snoc _ _ ks k x hxk;have lq:=LQ.out k;have oq:=OQ.out k;generalize hJ0:foldV (bndV d) [] (ks.take k)=J at *;clear hb hcs hat hcsl r1 hJ0;go_wp2_with fail;refine (hE _ _ x (E1 _ HB.out) wx).mono ?_;rintro e w4 ⟨u4,rfl,ho4,hb4⟩;have HB4:=hid (HB.out.trans (hb4.mono HB.out.size));have SV:Hid (StrV w4 u3 J):=(ho.out.next hb4).strV oq;have SR:=hid (ho4.strR (bndV_ok d x sx));have bk4:=hid (hbk.out.next hb4);clear hb4 ho4 xa4 a0 a1 a2 a3 a4 a5;go_wp2_with fail;refine (once_any _ _ _ J (bndV d x) SV.out SR.out (by omega)).mono ?_;rintro e w5 ⟨u5,rfl,ho5,hb5⟩;have HB5:=hid (HB4.out.trans (hb5.mono HB4.out.size));have HO5:=hid (ho5.base HB4.out.size);have bk5:=hid (bk4.out.next hb5);clear hb5 ho5;go_wp2_with fail;exact ⟨⟨k+1,by omega,by go_num,by show OwnS _ _ _ _;rw [HJ.out];exact HO5.out,bk5.out,HB5.out⟩,by simp [intOf];omega⟩
      · have HS:Hid (OwnS wr w.heap.size u3 (foldV (bndV d) [] ks)):=by
         have:=ho.out
         rwa [List.take_of_length_le (by rw [HN.out];omega)] at this
        clear hb;go_wp2_with fail;go_ret;exact ⟨u3,rfl,HS.out,HB.out⟩
theorem bound_all:∀ d,NmC 207 d (bndV d)
 | 0=>fun w cs x h _=>h.elim
 | d+1=>bound_of (bound_all d)
end Go.Proofs.YtdhlonogmnkemaaGreatDoor
namespace Go.Proofs.YtdhlonogmnkemaaGreatDoor
open Go.ChangeShapes Go.WideShapes Go.ChangeAt Go.RowKit
set_option linter.unusedVariables false
set_option maxRecDepth 100000
def stepL (f:Ex→List ByteArray→List ByteArray) (bn:Ex→List ByteArray) (st:List ByteArray × List ByteArray) (x:Ex):List ByteArray × List ByteArray:=(onceS st.1 (f x st.2),onceS st.2 (bn x))
def listV (f:Ex→List ByteArray→List ByteArray) (bn:Ex→List ByteArray) (B:List ByteArray) (ks:List Ex):List ByteArray:=(ks.foldl (stepL f bn) ([],B)).1
theorem runL_snd (f:Ex→List ByteArray→List ByteArray) (bn:Ex→List ByteArray):∀ (ks:List Ex) (st:List ByteArray × List ByteArray),(ks.foldl (stepL f bn) st).2=foldV bn st.2 ks
 | [],st=>rfl
 | x :: xs,st=>runL_snd f bn xs (stepL f bn st x)
theorem listV_nil (f:Ex→List ByteArray→List ByteArray) (bn:Ex→List ByteArray) (B:List ByteArray):listV f bn B [] = []:=rfl
theorem listV_snoc (f:Ex→List ByteArray→List ByteArray) (bn:Ex→List ByteArray) (B:List ByteArray) (ks:List Ex) (k:Nat) (y:Ex) (h:ks[k]?=some y) :
 listV f bn B (ks.take (k+1))=onceS (listV f bn B (ks.take k)) (f y (foldV bn B (ks.take k))):=by
 have h2:=runL_snd f bn (ks.take k) ([],B);unfold listV;rw [List.take_add_one,h,List.foldl_append];simp only [Option.toList_some,List.foldl_cons,List.foldl_nil];show onceS _ (f y _)=_;rw [h2]
theorem runL_mem (f:Ex→List ByteArray→List ByteArray) (bn:Ex→List ByteArray):∀ (ks:List Ex) (st:List ByteArray × List ByteArray) (s:ByteArray),s ∈ (ks.foldl (stepL f bn) st).1→s ∈ st.1∨∃ y ∈ ks,∃ B',s ∈ f y B'
 | [],st,s,h=>.inl h
 | x :: xs,st,s,h=>by
  rcases runL_mem f bn xs (stepL f bn st x) s h with h | ⟨y,hy,B',hs⟩
  · rcases onceS_mem _ _ s h with h | h
    · exact .inl h
    · exact .inr ⟨x,by simp,st.2,h⟩
  · exact .inr ⟨y,by simp [hy],B',hs⟩
theorem listV_mem {f:Ex→List ByteArray→List ByteArray} {bn:Ex→List ByteArray} {B:List ByteArray} {ks:List Ex} {s:ByteArray} (h:s ∈ listV f bn B ks):∃ y ∈ ks,∃ B',s ∈ f y B':=by
 rcases runL_mem f bn ks ([],B) s h with h | h
 · cases h
 · exact h
theorem runL_nd (f:Ex→List ByteArray→List ByteArray) (bn:Ex→List ByteArray):∀ (ks:List Ex) (st:List ByteArray × List ByteArray),NdK st.1→NdK (ks.foldl (stepL f bn) st).1
 | [],st,h=>h
 | x :: xs,st,h=>runL_nd f bn xs (stepL f bn st x) (onceS_nd _ _ h)
theorem listV_nd (f:Ex→List ByteArray→List ByteArray) (bn:Ex→List ByteArray) (B:List ByteArray) (ks:List Ex):NdK (listV f bn B ks):=runL_nd f bn ks _ (by simp [NdK])
def clF (f:Ex→List ByteArray→List ByteArray) (bn pt:Ex→List ByteArray) (B out:List ByteArray) (c:Cl):List ByteArray:=onceS out (listV f bn (foldV pt B c.1) c.2)
def freeV:Nat→Ex→List ByteArray→List ByteArray
 | 0,_,_=>[]
 | d+1,.mk k n t m ks cs,B=>match k,ks with
  | 2,_=>if hasS B t then [] else [t]
  | 9,[a,b]=>freeV d b B
  | _,ks=>cs.foldl (clF (freeV d) (bndV d) (patV d) (foldV (bndV d) B ks)) (listV (freeV d) (bndV d) B ks)
theorem freeV_var (d:Nat) (n:Int) (t m:ByteArray) (ks:List Ex) (cs:List Cl) (B:List ByteArray):freeV (d+1) (.mk 2 n t m ks cs) B=if hasS B t then [] else [t]:=rfl
theorem freeV_two (d:Nat) (n:Int) (t m:ByteArray) (a b:Ex) (cs:List Cl) (B:List ByteArray):freeV (d+1) (.mk 9 n t m [a,b] cs) B=freeV d b B:=rfl
theorem freeV_else (d:Nat) (k n:Int) (t m:ByteArray) (ks:List Ex) (cs:List Cl) (B:List ByteArray) (h2:k≠2) (h9:¬ (k=9∧ks.length=2)) :
 freeV (d+1) (.mk k n t m ks cs) B=cs.foldl (clF (freeV d) (bndV d) (patV d) (foldV (bndV d) B ks)) (listV (freeV d) (bndV d) B ks):=by
 conv=>lhs;unfold freeV
 split
 · exact absurd rfl h2
 · simp at h9
 · rfl
theorem clF_nd (f:Ex→List ByteArray→List ByteArray) (bn pt:Ex→List ByteArray) (B:List ByteArray):∀ (cs:List Cl) (l:List ByteArray),NdK l→NdK (cs.foldl (clF f bn pt B) l)
 | [],l,h=>h
 | c :: cs,l,h=>clF_nd f bn pt B cs _ (onceS_nd _ _ h)
theorem clF_mem (f:Ex→List ByteArray→List ByteArray) (bn pt:Ex→List ByteArray) (B:List ByteArray):∀ (cs:List Cl) (l:List ByteArray) (s:ByteArray),s ∈ cs.foldl (clF f bn pt B) l→s ∈ l∨∃ c ∈ cs,∃ y ∈ c.2,∃ B',s ∈ f y B'
 | [],l,s,h=>.inl h
 | c :: cs,l,s,h=>by
  rcases clF_mem f bn pt B cs _ s h with h | ⟨c',hc,r⟩
  · rcases onceS_mem _ _ s h with h | h
    · exact .inl h
    · obtain ⟨y,hy,B',hs⟩:=listV_mem h
      exact .inr ⟨c,by simp,y,hy,B',hs⟩
  · exact .inr ⟨c',by simp [hc],r⟩
theorem clF_snoc (f:Ex→List ByteArray→List ByteArray) (bn pt:Ex→List ByteArray) (B l:List ByteArray) (cs:List Cl) (k:Nat) (c:Cl) (h:cs[k]?=some c) :
 (cs.take (k+1)).foldl (clF f bn pt B) l=onceS ((cs.take k).foldl (clF f bn pt B) l) (listV f bn (foldV pt B c.1) c.2):=by
 rw [List.take_add_one,h];simp [clF]
theorem freeV_nd:∀ (d:Nat) (x:Ex) (B:List ByteArray),NdK (freeV d x B)
 | 0,_,_=>by simp [freeV,NdK]
 | d+1,.mk k n t m ks cs,B=>by
  by_cases h2:k=2
  · subst h2
    rw [freeV_var]
    split <;> simp [NdK]
  · by_cases h9:k=9∧ks.length=2
    · obtain ⟨rfl,hl⟩:=h9
      match ks,hl with
      | [a,b],_=>rw [freeV_two];exact freeV_nd d b B
    · rw [freeV_else d k n t m ks cs B h2 h9]
      exact clF_nd _ _ _ _ _ _ (listV_nd _ _ _ _)
theorem freeV_sub:∀ (d:Nat) (x:Ex) (B:List ByteArray),SubK (freeV d x B) (varL d x)
 | 0,_,_=>fun s hs=>by simp [freeV] at hs
 | d+1,.mk k n t m ks cs,B=>fun s hs=>by
  by_cases h2:k=2
  · subst h2
    rw [freeV_var] at hs
    split at hs
    · cases hs
    · simp at hs
      subst hs;show keyS s ∈ (if (2:Int)=2 then [keyS s] else []) ++ _;simp
  · by_cases h9:k=9∧ks.length=2
    · obtain ⟨rfl,hl⟩:=h9
      match ks,hl with
      | [a,b],_=>rw [freeV_two] at hs;exact varL_kid (by simp) (freeV_sub d b B s hs)
    · rw [freeV_else d k n t m ks cs B h2 h9] at hs
      rcases clF_mem _ _ _ _ _ _ s hs with h | ⟨c,hc,y,hy,B',h⟩
      · obtain ⟨y,hy,B',h⟩:=listV_mem h
        exact varL_kid hy (freeV_sub d y B' s h)
      · exact varL_cl hc (.inr hy) (freeV_sub d y B' s h)
theorem freeV_ok:∀ (d:Nat) (x:Ex) (B:List ByteArray),exS d x→∀ s ∈ freeV d x B,okS s
 | 0,_,_,h,_,_=>h.elim
 | d+1,.mk k n t m ks cs,B,hx,s,hs=>by
  by_cases h2:k=2
  · subst h2
    rw [freeV_var] at hs
    split at hs
    · cases hs
    · simp at hs
      subst hs;exact hx.1
  · by_cases h9:k=9∧ks.length=2
    · obtain ⟨rfl,hl⟩:=h9
      match ks,hl with
      | [a,b],_=>rw [freeV_two] at hs;exact freeV_ok d b B (hx.2.1 b (by simp)) s hs
    · rw [freeV_else d k n t m ks cs B h2 h9] at hs
      rcases clF_mem _ _ _ _ _ _ s hs with h | ⟨c,hc,y,hy,B',h⟩
      · obtain ⟨y,hy,B',h⟩:=listV_mem h
        exact freeV_ok d y B' (hx.2.1 y hy) s h
      · exact freeV_ok d y B' ((hx.2.2 c hc).2 y hy) s h
theorem freeV_len (d:Nat) (x:Ex) (B:List ByteArray):(freeV d x B).length≤1+wtEx d x:=Nat.le_trans ((freeV_nd d x B).len (freeV_sub d x B)) (varL_len d x)
theorem listV_len (d:Nat) (B:List ByteArray) (ks:List Ex):(listV (freeV d) (bndV d) B ks).length≤wtS (wtEx d) ks:=by
 have h1:=(listV_nd (freeV d) (bndV d) B ks).len (m:=ks.flatMap (varL d)) (fun s hs=>by
  obtain ⟨y,hy,B',h⟩:=listV_mem hs
  exact List.mem_flatMap.2 ⟨y,hy,freeV_sub d y B' s h⟩)
 exact Nat.le_trans h1 (flat_len (varL d) (wtEx d) ks (fun y _=>varL_len d y))
end Go.Proofs.YtdhlonogmnkemaaGreatDoor
namespace Go.Proofs.YtdhlonogmnkemaaGreatDoor
open Go.ChangeShapes Go.WideShapes Go.ChangeAt Go.RowKit Go.Proofs.Tryz
set_option linter.unusedVariables false
set_option maxRecDepth 100000
def FrC (d:Nat):Prop:=∀ (w:World) (cs:List Value) (x:Ex) (bv:Value) (B:List ByteArray),HEx w All d cs x→StrV w bv B→wtEx d x≤16777216→B.length+wtEx d x≤67108864 →
 Calls prog 206 #[.agg cs.toArray,bv] w fun e w'=>∃ u,e=.returned u∧OwnS w' w.heap.size u (freeV d x B)∧Bz w w'
def LsC (d:Nat):Prop:=∀ (w:World) (v:Value) (ks:List Ex) (bv:Value) (B:List ByteArray),Rows w All 6 (HEx w All d) v ks→StrV w bv B→wtS (wtEx d) ks≤16777216→B.length+wtS (wtEx d) ks≤67108864 →
 Calls prog 179 #[v,bv] w fun e w'=>∃ u,e=.returned u∧OwnS w' w.heap.size u (listV (freeV d) (bndV d) B ks)∧Bz w w'
theorem StrV.below {w w':World} {v:Value} {xs:List ByteArray} (h:StrV w v xs) (hb:Bz w w'):StrV w' v xs:=h.next (sqO hb)
theorem wtS_kid {d:Nat} {ks:List Ex} {k:Nat} {y:Ex} (h:ks[k]?=some y):wtS (wtEx d) (ks.take k)+1+wtEx d y≤wtS (wtEx d) ks∧k≤ks.length:=by
 have h1:=sum_take_succ (wtEx d) ks k y h;have h2:=sum_take_le (wtEx d) ks (k+1);have h3:=(List.getElem?_eq_some_iff.1 h).1;have h4:(ks.take k).length=k:=(by rw [List.length_take];omega);unfold wtS;omega
theorem list_of {d:Nat} (hF:FrC d):LsC d:=by
 intro w v ks bv B hr hB hwt hbt;have OB:=hB.1.okS
 have EXS:Hid (∀ y ∈ ks,exS d y):=fun y hy=>by
  obtain ⟨cs,h⟩:=rows_mem' hr y hy;exact h.txts
 obtain ⟨p,cap,rfl,hcl,hcm,hx⟩:=hr;have hnb:=sqM hcl hcm;have HX:=hid hx;have HSB:=hid hB;have HWT:=hid hwt;have HBT:=hid hbt;have HOB:=hid OB;clear hx hB hwt hbt OB;generalize hn:ks.length=n at *;have HN:=hid hn;clear hn;go_enter func179,ntmps179;go_wp2_with fail;have BA:Bz w (w.alloc (.cells #[] 9)):=(sqN _ _)
 go_loopw [1,5,6] (fun bu ov iv wr=>∃ k:Nat,k≤n∧iv=.int .i64 k∧Hid (OwnS wr w.heap.size ov (listV (freeV d) (bndV d) B (ks.take k)))∧Hid (StrV wr bu (foldV (bndV d) B (ks.take k)))∧Hid (Bz w wr)) (fun _ _ iv _=>n - (intOf iv).toNat)
 case atStart=>exact ⟨0,Nat.zero_le _,rfl,OwnS.fresh,HSB.out.below BA,BA⟩
 case round =>
  clear BA;obtain ⟨k,hk,rfl,HO,HS,HB⟩:=hrel;by_cases hlt:k<n
  · obtain ⟨x,hxk⟩:=sqA (l:=ks) (k:=k) HN.out hlt
    obtain ⟨g,off,rfl,-,hgl,hat⟩:=HX.out (sqE hxk);obtain ⟨cs,hcsl,hcs,r1⟩:=hat k x hxk;have E1:Hid (∀ w',Bz w w'→HEx w' All d cs x):=fun w' hw=>r1.mono (sqO hw) (fun _ h=>h);have C1:Hid (∀ w',Bz w w'→∀ j,j<6→w'.cell? ⟨g,off+k * 6+j,none⟩=cs[j]?):=fun w' hw j hj=>(hw.cell (p:=⟨g,_,none⟩) hgl).trans (hcs j hj);obtain ⟨c0,c1,c2,c3,c4,c5,rfl⟩:=len6 hcsl;have a0:=C1.out wr HB.out 0 (by omega);have a1:=C1.out wr HB.out 1 (by omega);have a2:=C1.out wr HB.out 2 (by omega);have a3:=C1.out wr HB.out 3 (by omega);have a4:=C1.out wr HB.out 4 (by omega);have a5:=C1.out wr HB.out 5 (by omega);simp at a0 a1 a2 a3 a4 a5;have hki:(k:Int)<(n:Int):=(by omega);have hk0:=sqI k;obtain ⟨wk,-⟩:=wtS_kid (d:=d) hxk;have lb:=foldV_len (bndV d) (wtEx d) (ks.take k) B (fun y _=>bndV_len d y);have lo:=listV_len d B (ks.take k);have ex:=EXS.out x (List.mem_of_getElem? hxk);have hw1:=HWT.out;have hb1:=HBT.out;have wx:wtEx d x≤16777216:=(by omega);have lf:=freeV_len d x (foldV (bndV d) B (ks.take k));have ln:=bndV_len d x;have HJ:Hid (listV (freeV d) (bndV d) B (ks.take (k+1))=onceS (listV (freeV d) (bndV d) B (ks.take k)) (freeV d x (foldV (bndV d) B (ks.take k)))):=listV_snoc _ _ B ks k x hxk;have HJB:Hid (foldV (bndV d) B (ks.take (k+1))=onceS (foldV (bndV d) B (ks.take k)) (bndV d x)):=foldV_snoc _ _ ks k x hxk
    have OJ:Hid (∀ s ∈ listV (freeV d) (bndV d) B (ks.take k),okS s):=fun s hs=>by
     obtain ⟨y,hy,B',h⟩:=listV_mem hs;exact freeV_ok d y B' (EXS.out y (List.mem_of_mem_take hy)) s h
    have OF:Hid (∀ B',∀ s ∈ freeV d x B',okS s):=fun B' s hs=>freeV_ok d x B' ex s hs;have ON:Hid (∀ s ∈ bndV d x,okS s):=fun s hs=>bndV_ok d x ex s hs
    have OS:Hid (∀ s ∈ onceS (foldV (bndV d) B (ks.take k)) (bndV d x),okS s):=fun s hs=>by
     rcases onceS_mem _ _ s hs with h | h
     · exact HS.out.1.okS s h
     · exact ON.out s h
    generalize foldV (bndV d) B (ks.take k)=FB at *;generalize listV (freeV d) (bndV d) B (ks.take k)=LJ at *;have lb1:FB.length+wtEx d x≤67108864:=(by omega);have lo1:LJ.length≤16777216:=(by omega);clear hcs hat hcsl r1 hw1 hb1 lb lo wk;go_wp2_with fail;refine (hF _ _ x _ FB (E1.out _ HB.out) HS.out wx (by omega)).mono ?_;rintro e w4 ⟨u4,rfl,ho4,hb4⟩;have HB4:=hid (HB.out.trans (hb4.mono HB.out.size));have SV:Hid (StrV w4 u5 LJ):=(HO.out.next hb4).strV OJ.out;have SR:=hid (ho4.strR (OF.out FB));have SB4:=hid (HS.out.below hb4);clear hb4 ho4 a0 a1 a2 a3 a4 a5;go_wp2_with fail;refine (once_any _ _ _ LJ (freeV d x FB) SV.out SR.out (by omega)).mono ?_;rintro e w5 ⟨u6',rfl,ho5,hb5⟩;have HB5:=hid (HB4.out.trans (hb5.mono HB4.out.size));have HO5:=hid (ho5.base HB4.out.size);have SB5:=hid (SB4.out.below hb5);clear hb5 ho5;have a0:=C1.out w5 HB5.out 0 (by omega);have a1:=C1.out w5 HB5.out 1 (by omega);have a2:=C1.out w5 HB5.out 2 (by omega);have a3:=C1.out w5 HB5.out 3 (by omega);have a4:=C1.out w5 HB5.out 4 (by omega);have a5:=C1.out w5 HB5.out 5 (by omega);simp at a0 a1 a2 a3 a4 a5;go_wp2_with fail;refine (bound_all d _ _ x (E1.out _ HB5.out) wx).mono ?_;rintro e w6 ⟨u7',rfl,ho6,hb6⟩;have HB6:=hid (HB5.out.trans (hb6.mono HB5.out.size));have SV6:=hid (SB5.out.below hb6);have SR6:=hid (ho6.strR ON.out);have HO6:=hid (HO5.out.next hb6);clear hb6 ho6 a0 a1 a2 a3 a4 a5;go_wp2_with fail;refine (once_any _ _ _ FB (bndV d x) SV6.out SR6.out (by omega)).mono ?_;rintro e w7 ⟨u8',rfl,ho7,hb7⟩;have HB7:=hid (HB6.out.trans (hb7.mono HB6.out.size));have SV7:=hid (ho7.strV OS.out);have HO7:=hid (HO6.out.next hb7);clear hb7 ho7;go_wp2_with fail;exact ⟨⟨k+1,by omega,by go_num,by show OwnS _ _ _ _;rw [HJ.out];exact HO7.out,by show StrV _ _ _;rw [HJB.out];exact SV7.out,HB7.out⟩,by simp [intOf];omega⟩
  · have HS':Hid (OwnS wr w.heap.size u5 (listV (freeV d) (bndV d) B ks)):=by
     have:=HO.out
     rwa [List.take_of_length_le (by rw [HN.out];omega)] at this
    go_wp2_with fail;go_ret;exact ⟨_,rfl,HS'.out,HB.out⟩
theorem OwnS.one {w:World} {s:ByteArray}:OwnS (w.alloc (.cells #[.string s] 9)) w.heap.size (.slice (some ⟨w.heap.size,0,none⟩) 1 1) [s]:=by
 refine ⟨⟨by simp [strs],.inr ⟨w.heap.size,1,#[.string s],rfl,Nat.le_refl _,?_,Nat.le_refl _,by unfold maxLen;omega,rfl,rfl⟩⟩,by simp⟩;exact Blk.new (w:=w) (cs:=#[.string s]) (t:=9)
theorem free_var {d:Nat} (w:World) (cs:List Value) (nx:Int) (tx mx:ByteArray) (ks:List Ex) (cl:List Cl) (bv:Value) (B:List ByteArray) (h:HEx w All (d+1) cs (.mk 2 nx tx mx ks cl)) (hB:StrV w bv B) :
 Calls prog 206 #[.agg cs.toArray,bv] w fun e w'=>∃ u,e=.returned u∧OwnS w' w.heap.size u (freeV (d+1) (.mk 2 nx tx mx ks cl) B)∧Bz w w':=by
 rw [freeV_var];obtain ⟨kv,cv,rfl,-,-,hts,hms,f0,f1⟩:=h;simp only [Ex.kind,Ex.n,Ex.text,Ex.mod,Ex.kids,Ex.clauses] at *;obtain ⟨p,cap,rfl,-⟩:=f0;obtain ⟨pc,capc,rfl,-⟩:=f1;have BA:Bz w (w.alloc (.cells #[.int .i64 2,.int .i64 nx,.string tx,.string mx,.slice p ks.length cap,.slice pc cl.length capc] 76)):=(sqN _ _);have SB:=hid (hB.below BA);have HBA:=hid BA;have bA:Hid (Blk (w.alloc (.cells #[.int .i64 2,.int .i64 nx,.string tx,.string mx,.slice p ks.length cap,.slice pc cl.length capc] 76)) w.heap.size #[.int .i64 2,.int .i64 nx,.string tx,.string mx,.slice p ks.length cap,.slice pc cl.length capc] 76):=Blk.new;clear BA hB;by_cases hh:hasS B tx=true
 · rw [if_pos hh]
   go_enter func206,ntmps206;go_wp2_with fail;refine (hasS_any _ _ B tx SB.out.1).mono ?_;rintro e w1 ⟨rfl,rfl⟩;rw [hh];go_wp2_with fail;go_ret;exact ⟨_,rfl,by have:=(OwnS.fresh (w:=w.alloc (.cells #[.int .i64 2,.int .i64 nx,.string tx,.string mx,.slice p ks.length cap,.slice pc cl.length capc] 76))).base HBA.out.size;rwa [alloc_hs] at this,HBA.out.alloc HBA.out.size _⟩
 · rw [if_neg hh]
   have hh':hasS B tx=false:=(by simpa using hh);go_enter func206,ntmps206;go_wp2_with fail;refine (hasS_any _ _ B tx SB.out.1).mono ?_;rintro e w1 ⟨rfl,rfl⟩;rw [hh'];go_wp2_with fail;go_ret;exact ⟨_,rfl,by have:=(OwnS.one (w:=w.alloc (.cells #[.int .i64 2,.int .i64 nx,.string tx,.string mx,.slice p ks.length cap,.slice pc cl.length capc] 76)) (s:=tx)).base HBA.out.size;rwa [alloc_hs] at this,HBA.out.alloc HBA.out.size _⟩
theorem free_two {d:Nat} (hF:FrC d) (w:World) (cs:List Value) (nx:Int) (tx mx:ByteArray) (ya yb:Ex) (cl:List Cl) (bv:Value) (B:List ByteArray) (h:HEx w All (d+1) cs (.mk 9 nx tx mx [ya,yb] cl)) (hB:StrV w bv B) (hwt:wtEx (d+1) (.mk 9 nx tx mx [ya,yb] cl)≤16777216) (hbt:B.length+wtEx (d+1) (.mk 9 nx tx mx [ya,yb] cl)≤67108864) :
 Calls prog 206 #[.agg cs.toArray,bv] w fun e w'=>∃ u,e=.returned u∧OwnS w' w.heap.size u (freeV (d+1) (.mk 9 nx tx mx [ya,yb] cl) B)∧Bz w w':=by
 rw [freeV_two];have hw:wtEx (d+1) (.mk 9 nx tx mx [ya,yb] cl)=tx.size+mx.size+wtS (wtEx d) [ya,yb]+wtS (wtCl (wtEx d)) cl:=rfl;have h6:wtS (wtEx d) [ya,yb]=2+(wtEx d ya+wtEx d yb):=(by simp [wtS]);have wb:wtEx d yb≤16777216:=(by omega);have wb2:B.length+wtEx d yb≤67108864:=(by omega);clear hw h6 hwt hbt;obtain ⟨kv,cv,rfl,-,-,hts,hms,f0,f1⟩:=h;simp only [Ex.kind,Ex.n,Ex.text,Ex.mod,Ex.kids,Ex.clauses] at *;obtain ⟨p,cap,rfl,-,-,hx⟩:=f0;obtain ⟨pc,capc,rfl,-⟩:=f1;obtain ⟨g,off,rfl,-,hgl,hat⟩:=hx (by simp);obtain ⟨cs,hcsl,hcs,rb⟩:=hat 1 yb rfl;simp only [List.length_cons,List.length_nil] at *;have bA:Hid (Blk (w.alloc (.cells #[.int .i64 9,.int .i64 nx,.string tx,.string mx,.slice (some ⟨g,off,none⟩) 2 cap,.slice pc cl.length capc] 76)) w.heap.size #[.int .i64 9,.int .i64 nx,.string tx,.string mx,.slice (some ⟨g,off,none⟩) 2 cap,.slice pc cl.length capc] 76):=Blk.new;have B1:Hid (Bz w (w.alloc (.cells #[.int .i64 9,.int .i64 nx,.string tx,.string mx,.slice (some ⟨g,off,none⟩) 2 cap,.slice pc cl.length capc] 76))):=(sqN _ _);have EB:=hid (rb.mono (sqO B1.out) (fun _ h=>h));have SB:=hid (hB.below B1.out);obtain ⟨c0,c1,c2,c3,c4,c5,rfl⟩:=len6 hcsl;have a0:=(B1.out.cell (p:=⟨g,_,none⟩) hgl).trans (hcs 0 (by omega));have a1:=(B1.out.cell (p:=⟨g,_,none⟩) hgl).trans (hcs 1 (by omega));have a2:=(B1.out.cell (p:=⟨g,_,none⟩) hgl).trans (hcs 2 (by omega));have a3:=(B1.out.cell (p:=⟨g,_,none⟩) hgl).trans (hcs 3 (by omega));have a4:=(B1.out.cell (p:=⟨g,_,none⟩) hgl).trans (hcs 4 (by omega));have a5:=(B1.out.cell (p:=⟨g,_,none⟩) hgl).trans (hcs 5 (by omega));simp at a0 a1 a2 a3 a4 a5;have x4:=bA.out.cell 4 _ rfl;clear hx hat hcs hcsl rb hB;go_enter func206,ntmps206;go_wp2_with fail;refine (hF _ _ yb _ B EB.out SB.out wb wb2).mono ?_;rintro e w2 ⟨u2,rfl,ho2,hb2⟩;have HO:=hid (ho2.base B1.out.size);have HB:=hid (B1.out.trans (hb2.mono B1.out.size));clear ho2 hb2;go_wp2_with fail;go_ret;exact ⟨_,rfl,HO.out,HB.out⟩
theorem free_else {d:Nat} (hL:LsC d) (w:World) (cs:List Value) (kx nx:Int) (tx mx:ByteArray) (ks:List Ex) (cl:List Cl) (bv:Value) (B:List ByteArray) (h2:kx≠2) (h92:¬ (kx=9∧ks.length=2)) (h:HEx w All (d+1) cs (.mk kx nx tx mx ks cl)) (hB:StrV w bv B) (hwt:wtEx (d+1) (.mk kx nx tx mx ks cl)≤16777216) (hbt:B.length+wtEx (d+1) (.mk kx nx tx mx ks cl)≤67108864) :
 Calls prog 206 #[.agg cs.toArray,bv] w fun e w'=>∃ u,e=.returned u∧OwnS w' w.heap.size u (freeV (d+1) (.mk kx nx tx mx ks cl) B)∧Bz w w':=by
 rw [freeV_else d kx nx tx mx ks cl B h2 h92];have hok:=h.txts;have hw:wtEx (d+1) (.mk kx nx tx mx ks cl)=tx.size+mx.size+wtS (wtEx d) ks+wtS (wtCl (wtEx d)) cl:=rfl;have wks:wtS (wtEx d) ks≤16777216:=(by omega);have wkb:B.length+wtS (wtEx d) ks≤67108864:=(by omega);have lfb:=foldV_len (bndV d) (wtEx d) ks B (fun y _=>bndV_len d y)
 -- what has been gathered
 have GQ:Hid (∀ i,Got (d+1) (.mk kx nx tx mx ks cl) ((cl.take i).foldl (clF (freeV d) (bndV d) (patV d) (foldV (bndV d) B ks)) (listV (freeV d) (bndV d) B ks))):=fun i=>by
  refine ⟨clF_nd _ _ _ _ _ _ (listV_nd _ _ _ _),fun s hs=>?_,fun s hs=>?_⟩
  · rcases clF_mem _ _ _ _ _ _ s hs with h | ⟨c,hc,y,hy,B',h⟩
    · obtain ⟨y,hy,B',h⟩:=listV_mem h
      exact varL_kid hy (freeV_sub d y B' s h)
    · exact varL_cl (List.mem_of_mem_take hc) (.inr hy) (freeV_sub d y B' s h)
  · rcases clF_mem _ _ _ _ _ _ s hs with h | ⟨c,hc,y,hy,B',h⟩
    · obtain ⟨y,hy,B',h⟩:=listV_mem h
      exact freeV_ok d y B' (hok.2.1 y hy) s h
    · exact freeV_ok d y B' ((hok.2.2 c (List.mem_of_mem_take hc)).2 y hy) s h
 have LQ:Hid (∀ i,((cl.take i).foldl (clF (freeV d) (bndV d) (patV d) (foldV (bndV d) B ks)) (listV (freeV d) (bndV d) B ks)).length≤16777217):=fun i=>(GQ.out i).len hwt
 -- how the kids and the clauses are bounded
 have BK:Hid (∀ (j:Nat) y,ks[j]?=some y→wtEx d y≤16777216∧exS d y∧(foldV (bndV d) B (ks.take j)).length≤67108864):=fun j y hj=>by
  obtain ⟨h1,-⟩:=wtS_kid (d:=d) hj;have h3:=foldV_len (bndV d) (wtEx d) (ks.take j) B (fun y _=>bndV_len d y);exact ⟨by omega,hok.2.1 y (List.mem_of_getElem? hj),by omega⟩
 have BC:Hid (∀ (i:Nat) c,cl[i]?=some c→wtS (wtEx d) c.1≤16777216∧wtS (wtEx d) c.2≤16777216∧(foldV (bndV d) B ks).length+wtS (wtEx d) c.1+wtS (wtEx d) c.2≤67108864∧(∀ y ∈ c.1,exS d y)∧∀ y ∈ c.2,exS d y):=fun i c hi=>by
  have h1:=sum_take_succ (wtCl (wtEx d)) cl i c hi;have h3:=sum_take_le (wtCl (wtEx d)) cl (i+1);have hc:wtCl (wtEx d) c=wtS (wtEx d) c.1+wtS (wtEx d) c.2:=rfl;have h4:wtCl (wtEx d) c≤wtS (wtCl (wtEx d)) cl:=(by unfold wtS;omega);have hm:=List.mem_of_getElem? hi;exact ⟨by omega,by omega,by omega,(hok.2.2 c hm).1,(hok.2.2 c hm).2⟩
 have OB:=hB.1.okS;have HOB:=hid OB;obtain ⟨kv,cv,rfl,-,-,hts,hms,f0,f1⟩:=h;simp only [Ex.kind,Ex.n,Ex.text,Ex.mod,Ex.kids,Ex.clauses] at *;have F0:=hid f0;obtain ⟨p,cap,rfl,hcl,hcm,hx⟩:=f0;obtain ⟨pc,capc,rfl,hcl',hcm',hxc⟩:=f1;have hnb:=sqM hcl hcm;have hnc:=sqM hcl' hcm';have HX:=hid hx;have HXC:=hid hxc;have HSB:=hid hB;clear hx hxc hok hw hwt hbt hB OB lfb;generalize hn:ks.length=n at *;have HN:=hid hn;generalize hm:cl.length=nc at *;have HNC:=hid hm;clear hn hm;have h2b:(kx == 2)=false:=(by simpa using h2);by_cases k9:kx=9
 · subst k9
   have hn2:¬ n=2:=fun h=>h92 ⟨rfl,h⟩;have hn2b:((n:Int) == 2)=false:=(by simp;omega);clear h92 h2 h2b;have bA:Hid (Blk (w.alloc (.cells #[.int .i64 9,.int .i64 nx,.string tx,.string mx,.slice p n cap,.slice pc nc capc] 76)) w.heap.size #[.int .i64 9,.int .i64 nx,.string tx,.string mx,.slice p n cap,.slice pc nc capc] 76):=Blk.new;have BA:Hid (Bz w (w.alloc (.cells #[.int .i64 9,.int .i64 nx,.string tx,.string mx,.slice p n cap,.slice pc nc capc] 76))):=(sqN _ _);go_enter func206,ntmps206;go_wp2_with fail;refine (hL _ _ ks _ B (Rows.mono F0.out (sqO BA.out) (fun _ h=>h) (fun _ _ _ h=>h.mono (sqO BA.out) (fun _ h=>h))) (HSB.out.below BA.out) wks wkb).mono ?_;rintro e w1 ⟨uo,rfl,ho1,hb1⟩;have O1:=hid (ho1.base BA.out.size);have B1:=hid (BA.out.trans (hb1.mono BA.out.size));have b1:=hid (bA.out.next hb1);have S1:=hid (HSB.out.below B1.out);clear ho1 hb1 bA BA F0;go_wp2_with fail
   go_loopw [1,6] (fun bu iv wr=>∃ k:Nat,k≤n∧iv=.int .i64 k∧Hid (StrV wr bu (foldV (bndV d) B (ks.take k)))∧Hid (OwnS wr w.heap.size uo (listV (freeV d) (bndV d) B ks))∧Hid (Blk wr w.heap.size #[.int .i64 9,.int .i64 nx,.string tx,.string mx,.slice p n cap,.slice pc nc capc] 76)∧Hid (Bz w wr)) (fun _ iv _=>n - (intOf iv).toNat)
   case atStart=>exact ⟨0,Nat.zero_le _,rfl,S1.out,O1.out,b1.out,B1.out⟩
   case round =>
    obtain ⟨k,hk,rfl,hs,ho,hbk,HB⟩:=hrel;clear O1 b1 B1 S1;have xa4:=hbk.out.cell 4 _ rfl;have xa5:=hbk.out.cell 5 _ rfl;by_cases hlt:k<n
    · obtain ⟨x,hxk⟩:=sqA (l:=ks) (k:=k) HN.out hlt
      obtain ⟨g,off,rfl,-,hgl,hat⟩:=HX.out (sqE hxk);obtain ⟨cs,hcsl,hcs,r1⟩:=hat k x hxk;have E1:∀ w',Bz w w'→HEx w' All d cs x:=fun w' hw=>r1.mono (sqO hw) (fun _ h=>h);obtain ⟨c0,c1,c2,c3,c4,c5,rfl⟩:=len6 hcsl;obtain ⟨a0,a1,a2,a3,a4,a5⟩:=sqC6 hcs (by omega);rw [← HB.out.cell (p:=⟨g,_,none⟩) hgl] at a0 a1 a2 a3 a4 a5;simp at a0 a1 a2 a3 a4 a5;have hki:(k:Int)<(n:Int):=(by omega);have hk0:=sqI k;obtain ⟨wx,ex,lq⟩:=BK.out k x hxk;have lx:=bndV_len d x;have HJ:Hid (foldV (bndV d) B (ks.take (k+1))=onceS (foldV (bndV d) B (ks.take k)) (bndV d x)):=foldV_snoc _ _ ks k x hxk;have ON:Hid (∀ s ∈ bndV d x,okS s):=fun s hs=>bndV_ok d x ex s hs
      have OS:Hid (∀ s ∈ onceS (foldV (bndV d) B (ks.take k)) (bndV d x),okS s):=fun s hs'=>by
       rcases onceS_mem _ _ s hs' with h | h
       · exact hs.out.1.okS s h
       · exact ON.out s h
      generalize foldV (bndV d) B (ks.take k)=J at *;clear hcs hat hcsl r1;go_wp2_with fail;refine (bound_all d _ _ x (E1 _ HB.out) wx).mono ?_;rintro e w4 ⟨u4',rfl,ho4,hb4⟩;have HB4:=hid (HB.out.trans (hb4.mono HB.out.size));have SV:=hid (hs.out.below hb4);have SR:=hid (ho4.strR ON.out);have HO4:=hid (ho.out.next hb4);have bk4:=hid (hbk.out.next hb4);clear hb4 ho4 xa4 xa5 a0 a1 a2 a3 a4 a5;go_wp2_with fail;refine (once_any _ _ _ J (bndV d x) SV.out SR.out (by omega)).mono ?_;rintro e w5 ⟨u5',rfl,ho5,hb5⟩;have HB5:=hid (HB4.out.trans (hb5.mono HB4.out.size));have SV5:=hid (ho5.strV OS.out);have HO5:=hid (HO4.out.next hb5);have bk5:=hid (bk4.out.next hb5);clear hb5 ho5;go_wp2_with fail;exact ⟨⟨k+1,by omega,by go_num,by show StrV _ _ _;rw [HJ.out];exact SV5.out,HO5.out,bk5.out,HB5.out⟩,by simp [intOf];omega⟩
    · have HS:Hid (StrV wr u1 (foldV (bndV d) B ks)):=by
       have:=hs.out
       rwa [List.take_of_length_le (by rw [HN.out];omega)] at this
      clear hs;have HS0:=HS;have ho0:=ho;have hbk0:=hbk;have HB0:=HB;clear HS ho hbk HB;go_wp2_with fail
      go_loopw [5,7] (fun ov iv wr=>∃ i:Nat,i≤nc∧iv=.int .i64 i∧Hid (OwnS wr w.heap.size ov ((cl.take i).foldl (clF (freeV d) (bndV d) (patV d) (foldV (bndV d) B ks)) (listV (freeV d) (bndV d) B ks)))∧Hid (StrV wr u1 (foldV (bndV d) B ks))∧Hid (Blk wr w.heap.size #[.int .i64 9,.int .i64 nx,.string tx,.string mx,.slice p n cap,.slice pc nc capc] 76)∧Hid (Bz w wr)) (fun _ iv _=>nc - (intOf iv).toNat)
      case atStart=>exact ⟨0,Nat.zero_le _,rfl,ho0.out,HS0.out,hbk0.out,HB0.out⟩
      case round =>
       clear HS0 ho0 hbk0 HB0 xa4 xa5;obtain ⟨i,hi,rfl,hoi,hsi,hbi,HBi⟩:=hrel;have xa5:=hbi.out.cell 5 _ rfl;by_cases hlt:i<nc
       · obtain ⟨c,hci⟩:∃ c,cl[i]?=some c:=⟨cl[i]'(by rw [HNC.out];exact hlt),List.getElem?_eq_getElem _⟩
         obtain ⟨gc,oc,rfl,-,hgcl,hatc⟩:=HXC.out (sqE hci);obtain ⟨csc,hcsl2,hcsc,pv,bdv,rfl,rp,rb⟩:=hatc i c hci;obtain ⟨wc1,wc2,wc3,ec1,ec2⟩:=BC.out i c hci;have RB:Hid (∀ w',Bz w w'→Rows w' All 6 (HEx w' All d) bdv c.2):=fun w' hw=>Rows.mono rb (sqO hw) (fun _ h=>h) (fun _ _ _ h=>h.mono (sqO hw) (fun _ h=>h));obtain ⟨pp,capp,rfl,hclp,hcmp,hxp⟩:=rp;obtain ⟨pb,capb,rfl,-⟩:=id rb;have hnp:c.1.length≤9223372036854775807:=(by unfold maxLen at hcmp;omega);have HXP:=hid hxp;have HC0:Hid (w.cell? ⟨gc,oc+i * 2,none⟩=some (.slice pp c.1.length capp)):=(by show _=_;simpa using hcsc 0 (by omega));have HC1:Hid (w.cell? ⟨gc,oc+i * 2+1,none⟩=some (.slice pb c.2.length capb)):=(by show _=_;simpa using hcsc 1 (by omega));have HCI:Hid ((cl.take (i+1)).foldl (clF (freeV d) (bndV d) (patV d) (foldV (bndV d) B ks)) (listV (freeV d) (bndV d) B ks)=onceS ((cl.take i).foldl (clF (freeV d) (bndV d) (patV d) (foldV (bndV d) B ks)) (listV (freeV d) (bndV d) B ks)) (listV (freeV d) (bndV d) (foldV (patV d) (foldV (bndV d) B ks) c.1) c.2)):=clF_snoc _ _ _ _ _ cl i c hci;have lq:=LQ.out i;have OJ:Hid (∀ s ∈ (cl.take i).foldl (clF (freeV d) (bndV d) (patV d) (foldV (bndV d) B ks)) (listV (freeV d) (bndV d) B ks),okS s):=(GQ.out i).ok
         have BP:Hid (∀ (j:Nat) y,c.1[j]?=some y→wtEx d y≤16777216∧exS d y∧(foldV (patV d) (foldV (bndV d) B ks) (c.1.take j)).length≤67108864):=fun j y hj=>by
          obtain ⟨h1,-⟩:=wtS_kid (d:=d) hj;have h3:=foldV_len (patV d) (wtEx d) (c.1.take j) (foldV (bndV d) B ks) (fun y _=>patV_len d y);exact ⟨by omega,ec1 y (List.mem_of_getElem? hj),by omega⟩
         have LIN:Hid ((foldV (patV d) (foldV (bndV d) B ks) c.1).length+wtS (wtEx d) c.2≤67108864):=by
          have h3:=foldV_len (patV d) (wtEx d) c.1 (foldV (bndV d) B ks) (fun y _=>patV_len d y);show _≤_;omega
         have LBD:Hid (∀ B',(listV (freeV d) (bndV d) B' c.2).length≤16777216):=fun B'=>Nat.le_trans (listV_len d B' c.2) wc2
         have OBD:Hid (∀ B',∀ s ∈ listV (freeV d) (bndV d) B' c.2,okS s):=fun B' s hs=>by
          obtain ⟨y,hy,B2,h⟩:=listV_mem hs;exact freeV_ok d y B2 (ec2 y hy) s h
         have hii:(i:Int)<(nc:Int):=(by omega);have hi0:=sqI i;have xc0:=(HBi.out.cell (p:=⟨gc,oc+i * 2,none⟩) hgcl).trans HC0.out;have xc1:=(HBi.out.cell (p:=⟨gc,oc+i * 2+1,none⟩) hgcl).trans HC1.out;generalize hnp0:c.1.length=np at *;have HNP:=hid hnp0;generalize (cl.take i).foldl (clF (freeV d) (bndV d) (patV d) (foldV (bndV d) B ks)) (listV (freeV d) (bndV d) B ks)=OI at *;generalize hFB:foldV (bndV d) B ks=FB at *;have HFB:=hid hFB;have HSI:=hsi;have HOI:=hoi;have HBI2:=hbi;have HBB:=HBi;clear hcsc hcsl2 hatc hxp rb hnp0 hFB hsi hoi hbi HBi wc1 wc3 ec1 ec2 hclp hcmp;go_wp2_with fail;clear xc0 xc1 xa5
         go_loopw [8,9] (fun bu iv wr=>∃ k:Nat,k≤np∧iv=.int .i64 k∧Hid (StrV wr bu (foldV (patV d) FB (c.1.take k)))∧Hid (OwnS wr w.heap.size u5 OI)∧Hid (StrV wr u1 FB)∧Hid (Blk wr w.heap.size #[.int .i64 9,.int .i64 nx,.string tx,.string mx,.slice p n cap,.slice (some ⟨gc,oc,none⟩) nc capc] 76)∧Hid (Bz w wr)) (fun _ iv _=>np - (intOf iv).toNat)
         case atStart=>exact ⟨0,Nat.zero_le _,rfl,HSI.out,HOI.out,HSI.out,HBI2.out,HBB.out⟩
         case round =>
          clear HSI HOI HBI2 HBB;obtain ⟨k,hk,rfl,hs,ho,hsf,hbk,HB⟩:=hrel;have xa5:=hbk.out.cell 5 _ rfl;have xc0:=(HB.out.cell (p:=⟨gc,oc+i * 2,none⟩) hgcl).trans HC0.out;have xc1:=(HB.out.cell (p:=⟨gc,oc+i * 2+1,none⟩) hgcl).trans HC1.out;by_cases hlk:k<np
          · obtain ⟨x,hxk⟩:∃ x,c.1[k]?=some x:=⟨c.1[k]'(by rw [HNP.out];exact hlk),List.getElem?_eq_getElem _⟩
            obtain ⟨g,off,rfl,-,hgl,hat⟩:=HXP.out (sqE hxk);obtain ⟨cs,hcsl,hcs,r1⟩:=hat k x hxk;have E1:∀ w',Bz w w'→HEx w' All d cs x:=fun w' hw=>r1.mono (sqO hw) (fun _ h=>h);obtain ⟨c0,c1,c2,c3,c4,c5,rfl⟩:=len6 hcsl;obtain ⟨a0,a1,a2,a3,a4,a5⟩:=sqC6 hcs (by omega);rw [← HB.out.cell (p:=⟨g,_,none⟩) hgl] at a0 a1 a2 a3 a4 a5;simp at a0 a1 a2 a3 a4 a5;have hki:(k:Int)<(np:Int):=(by omega);have hk0:=sqI k;obtain ⟨wx,ex,lj⟩:=BP.out k x hxk;have lx:=patV_len d x;have HJ:Hid (foldV (patV d) FB (c.1.take (k+1))=onceS (foldV (patV d) FB (c.1.take k)) (patV d x)):=foldV_snoc _ _ c.1 k x hxk;have ON:Hid (∀ s ∈ patV d x,okS s):=fun s hs=>patV_ok d x ex s hs
            have OS:Hid (∀ s ∈ onceS (foldV (patV d) FB (c.1.take k)) (patV d x),okS s):=fun s hs'=>by
             rcases onceS_mem _ _ s hs' with h | h
             · exact hs.out.1.okS s h
             · exact ON.out s h
            generalize foldV (patV d) FB (c.1.take k)=J at *;clear hcs hat hcsl r1;go_wp2_with fail;refine (patVars_all d _ _ x (E1 _ HB.out) wx).mono ?_;rintro e w4 ⟨u4',rfl,ho4,hb4⟩;have HB4:=hid (HB.out.trans (hb4.mono HB.out.size));have SV:=hid (hs.out.below hb4);have SR:=hid (ho4.strR ON.out);have HO4:=hid (ho.out.next hb4);have SF4:=hid (hsf.out.below hb4);have bk4:=hid (hbk.out.next hb4);clear hb4 ho4 xa5 xc0 xc1 a0 a1 a2 a3 a4 a5;go_wp2_with fail;refine (once_any _ _ _ J (patV d x) SV.out SR.out (by omega)).mono ?_;rintro e w5 ⟨u5',rfl,ho5,hb5⟩;have HB5:=hid (HB4.out.trans (hb5.mono HB4.out.size));have SV5:=hid (ho5.strV OS.out);have HO5:=hid (HO4.out.next hb5);have SF5:=hid (SF4.out.below hb5);have bk5:=hid (bk4.out.next hb5);clear hb5 ho5;go_wp2_with fail;exact ⟨⟨k+1,by omega,by go_num,by show StrV _ _ _;rw [HJ.out];exact SV5.out,HO5.out,SF5.out,bk5.out,HB5.out⟩,by simp [intOf];omega⟩
          · have HIN:Hid (StrV wr u8 (foldV (patV d) FB c.1)):=by
             have:=hs.out
             rwa [List.take_of_length_le (by rw [HNP.out];omega)] at this
            clear hs;go_wp2_with fail;refine (hL _ _ c.2 _ (foldV (patV d) FB c.1) (RB.out _ HB.out) HIN.out wc2 LIN.out).mono ?_;rintro e w4 ⟨u4',rfl,ho4,hb4⟩;have HB4:=hid (HB.out.trans (hb4.mono HB.out.size));have SV:Hid (StrV w4 u5 OI):=(ho.out.next hb4).strV OJ.out;have SR:=hid (ho4.strR (OBD.out _));have lbd:=LBD.out (foldV (patV d) FB c.1);have SF4:=hid (hsf.out.below hb4);have bk4:=hid (hbk.out.next hb4);clear hb4 ho4 xa5 xc0 xc1;go_wp2_with fail;refine (once_any _ _ _ OI _ SV.out SR.out (by omega)).mono ?_;rintro e w5 ⟨u5',rfl,ho5,hb5⟩;have HB5:=hid (HB4.out.trans (hb5.mono HB4.out.size));have HO5:=hid (ho5.base HB4.out.size);have SF5:=hid (SF4.out.below hb5);have bk5:=hid (bk4.out.next hb5);clear hb5 ho5;go_wp2_with fail;exact ⟨⟨i+1,by omega,by go_num,by show OwnS _ _ _ _;rw [HCI.out];exact HO5.out,SF5.out,bk5.out,HB5.out⟩,by simp [intOf];omega⟩
       · have HF:Hid (OwnS wr w.heap.size u5 (cl.foldl (clF (freeV d) (bndV d) (patV d) (foldV (bndV d) B ks)) (listV (freeV d) (bndV d) B ks))):=by
          have:=hoi.out
          rwa [List.take_of_length_le (by rw [HNC.out];omega)] at this
         clear hoi;go_wp2_with fail;go_ret;exact ⟨_,rfl,HF.out,HBi.out⟩
 · have k9b:(kx == 9)=false:=by simpa using k9
   clear h92 h2 k9;have bA:Hid (Blk (w.alloc (.cells #[.int .i64 kx,.int .i64 nx,.string tx,.string mx,.slice p n cap,.slice pc nc capc] 76)) w.heap.size #[.int .i64 kx,.int .i64 nx,.string tx,.string mx,.slice p n cap,.slice pc nc capc] 76):=Blk.new;have BA:Hid (Bz w (w.alloc (.cells #[.int .i64 kx,.int .i64 nx,.string tx,.string mx,.slice p n cap,.slice pc nc capc] 76))):=(sqN _ _);go_enter func206,ntmps206;go_wp2_with fail;refine (hL _ _ ks _ B (Rows.mono F0.out (sqO BA.out) (fun _ h=>h) (fun _ _ _ h=>h.mono (sqO BA.out) (fun _ h=>h))) (HSB.out.below BA.out) wks wkb).mono ?_;rintro e w1 ⟨uo,rfl,ho1,hb1⟩;have O1:=hid (ho1.base BA.out.size);have B1:=hid (BA.out.trans (hb1.mono BA.out.size));have b1:=hid (bA.out.next hb1);have S1:=hid (HSB.out.below B1.out);clear ho1 hb1 bA BA F0;go_wp2_with fail
   go_loopw [1,6] (fun bu iv wr=>∃ k:Nat,k≤n∧iv=.int .i64 k∧Hid (StrV wr bu (foldV (bndV d) B (ks.take k)))∧Hid (OwnS wr w.heap.size uo (listV (freeV d) (bndV d) B ks))∧Hid (Blk wr w.heap.size #[.int .i64 kx,.int .i64 nx,.string tx,.string mx,.slice p n cap,.slice pc nc capc] 76)∧Hid (Bz w wr)) (fun _ iv _=>n - (intOf iv).toNat)
   case atStart=>exact ⟨0,Nat.zero_le _,rfl,S1.out,O1.out,b1.out,B1.out⟩
   case round =>
    obtain ⟨k,hk,rfl,hs,ho,hbk,HB⟩:=hrel;clear O1 b1 B1 S1;have xa4:=hbk.out.cell 4 _ rfl;have xa5:=hbk.out.cell 5 _ rfl;by_cases hlt:k<n
    · obtain ⟨x,hxk⟩:=sqA (l:=ks) (k:=k) HN.out hlt
      obtain ⟨g,off,rfl,-,hgl,hat⟩:=HX.out (sqE hxk);obtain ⟨cs,hcsl,hcs,r1⟩:=hat k x hxk;have E1:∀ w',Bz w w'→HEx w' All d cs x:=fun w' hw=>r1.mono (sqO hw) (fun _ h=>h);obtain ⟨c0,c1,c2,c3,c4,c5,rfl⟩:=len6 hcsl;obtain ⟨a0,a1,a2,a3,a4,a5⟩:=sqC6 hcs (by omega);rw [← HB.out.cell (p:=⟨g,_,none⟩) hgl] at a0 a1 a2 a3 a4 a5;simp at a0 a1 a2 a3 a4 a5;have hki:(k:Int)<(n:Int):=(by omega);have hk0:=sqI k;obtain ⟨wx,ex,lq⟩:=BK.out k x hxk;have lx:=bndV_len d x;have HJ:Hid (foldV (bndV d) B (ks.take (k+1))=onceS (foldV (bndV d) B (ks.take k)) (bndV d x)):=foldV_snoc _ _ ks k x hxk;have ON:Hid (∀ s ∈ bndV d x,okS s):=fun s hs=>bndV_ok d x ex s hs
      have OS:Hid (∀ s ∈ onceS (foldV (bndV d) B (ks.take k)) (bndV d x),okS s):=fun s hs'=>by
       rcases onceS_mem _ _ s hs' with h | h
       · exact hs.out.1.okS s h
       · exact ON.out s h
      generalize foldV (bndV d) B (ks.take k)=J at *;clear hcs hat hcsl r1;go_wp2_with fail;refine (bound_all d _ _ x (E1 _ HB.out) wx).mono ?_;rintro e w4 ⟨u4',rfl,ho4,hb4⟩;have HB4:=hid (HB.out.trans (hb4.mono HB.out.size));have SV:=hid (hs.out.below hb4);have SR:=hid (ho4.strR ON.out);have HO4:=hid (ho.out.next hb4);have bk4:=hid (hbk.out.next hb4);clear hb4 ho4 xa4 xa5 a0 a1 a2 a3 a4 a5;go_wp2_with fail;refine (once_any _ _ _ J (bndV d x) SV.out SR.out (by omega)).mono ?_;rintro e w5 ⟨u5',rfl,ho5,hb5⟩;have HB5:=hid (HB4.out.trans (hb5.mono HB4.out.size));have SV5:=hid (ho5.strV OS.out);have HO5:=hid (HO4.out.next hb5);have bk5:=hid (bk4.out.next hb5);clear hb5 ho5;go_wp2_with fail;exact ⟨⟨k+1,by omega,by go_num,by show StrV _ _ _;rw [HJ.out];exact SV5.out,HO5.out,bk5.out,HB5.out⟩,by simp [intOf];omega⟩
    · have HS:Hid (StrV wr u1 (foldV (bndV d) B ks)):=by
       have:=hs.out
       rwa [List.take_of_length_le (by rw [HN.out];omega)] at this
      clear hs;have HS0:=HS;have ho0:=ho;have hbk0:=hbk;have HB0:=HB;clear HS ho hbk HB;go_wp2_with fail
      go_loopw [5,7] (fun ov iv wr=>∃ i:Nat,i≤nc∧iv=.int .i64 i∧Hid (OwnS wr w.heap.size ov ((cl.take i).foldl (clF (freeV d) (bndV d) (patV d) (foldV (bndV d) B ks)) (listV (freeV d) (bndV d) B ks)))∧Hid (StrV wr u1 (foldV (bndV d) B ks))∧Hid (Blk wr w.heap.size #[.int .i64 kx,.int .i64 nx,.string tx,.string mx,.slice p n cap,.slice pc nc capc] 76)∧Hid (Bz w wr)) (fun _ iv _=>nc - (intOf iv).toNat)
      case atStart=>exact ⟨0,Nat.zero_le _,rfl,ho0.out,HS0.out,hbk0.out,HB0.out⟩
      case round =>
       clear HS0 ho0 hbk0 HB0 xa4 xa5;obtain ⟨i,hi,rfl,hoi,hsi,hbi,HBi⟩:=hrel;have xa5:=hbi.out.cell 5 _ rfl;by_cases hlt:i<nc
       · obtain ⟨c,hci⟩:∃ c,cl[i]?=some c:=⟨cl[i]'(by rw [HNC.out];exact hlt),List.getElem?_eq_getElem _⟩
         obtain ⟨gc,oc,rfl,-,hgcl,hatc⟩:=HXC.out (sqE hci);obtain ⟨csc,hcsl2,hcsc,pv,bdv,rfl,rp,rb⟩:=hatc i c hci;obtain ⟨wc1,wc2,wc3,ec1,ec2⟩:=BC.out i c hci;have RB:Hid (∀ w',Bz w w'→Rows w' All 6 (HEx w' All d) bdv c.2):=fun w' hw=>Rows.mono rb (sqO hw) (fun _ h=>h) (fun _ _ _ h=>h.mono (sqO hw) (fun _ h=>h));obtain ⟨pp,capp,rfl,hclp,hcmp,hxp⟩:=rp;obtain ⟨pb,capb,rfl,-⟩:=id rb;have hnp:c.1.length≤9223372036854775807:=(by unfold maxLen at hcmp;omega);have HXP:=hid hxp;have HC0:Hid (w.cell? ⟨gc,oc+i * 2,none⟩=some (.slice pp c.1.length capp)):=(by show _=_;simpa using hcsc 0 (by omega));have HC1:Hid (w.cell? ⟨gc,oc+i * 2+1,none⟩=some (.slice pb c.2.length capb)):=(by show _=_;simpa using hcsc 1 (by omega));have HCI:Hid ((cl.take (i+1)).foldl (clF (freeV d) (bndV d) (patV d) (foldV (bndV d) B ks)) (listV (freeV d) (bndV d) B ks)=onceS ((cl.take i).foldl (clF (freeV d) (bndV d) (patV d) (foldV (bndV d) B ks)) (listV (freeV d) (bndV d) B ks)) (listV (freeV d) (bndV d) (foldV (patV d) (foldV (bndV d) B ks) c.1) c.2)):=clF_snoc _ _ _ _ _ cl i c hci;have lq:=LQ.out i;have OJ:Hid (∀ s ∈ (cl.take i).foldl (clF (freeV d) (bndV d) (patV d) (foldV (bndV d) B ks)) (listV (freeV d) (bndV d) B ks),okS s):=(GQ.out i).ok
         have BP:Hid (∀ (j:Nat) y,c.1[j]?=some y→wtEx d y≤16777216∧exS d y∧(foldV (patV d) (foldV (bndV d) B ks) (c.1.take j)).length≤67108864):=fun j y hj=>by
          obtain ⟨h1,-⟩:=wtS_kid (d:=d) hj;have h3:=foldV_len (patV d) (wtEx d) (c.1.take j) (foldV (bndV d) B ks) (fun y _=>patV_len d y);exact ⟨by omega,ec1 y (List.mem_of_getElem? hj),by omega⟩
         have LIN:Hid ((foldV (patV d) (foldV (bndV d) B ks) c.1).length+wtS (wtEx d) c.2≤67108864):=by
          have h3:=foldV_len (patV d) (wtEx d) c.1 (foldV (bndV d) B ks) (fun y _=>patV_len d y);show _≤_;omega
         have LBD:Hid (∀ B',(listV (freeV d) (bndV d) B' c.2).length≤16777216):=fun B'=>Nat.le_trans (listV_len d B' c.2) wc2
         have OBD:Hid (∀ B',∀ s ∈ listV (freeV d) (bndV d) B' c.2,okS s):=fun B' s hs=>by
          obtain ⟨y,hy,B2,h⟩:=listV_mem hs;exact freeV_ok d y B2 (ec2 y hy) s h
         have hii:(i:Int)<(nc:Int):=(by omega);have hi0:=sqI i;have xc0:=(HBi.out.cell (p:=⟨gc,oc+i * 2,none⟩) hgcl).trans HC0.out;have xc1:=(HBi.out.cell (p:=⟨gc,oc+i * 2+1,none⟩) hgcl).trans HC1.out;generalize hnp0:c.1.length=np at *;have HNP:=hid hnp0;generalize (cl.take i).foldl (clF (freeV d) (bndV d) (patV d) (foldV (bndV d) B ks)) (listV (freeV d) (bndV d) B ks)=OI at *;generalize hFB:foldV (bndV d) B ks=FB at *;have HFB:=hid hFB;have HSI:=hsi;have HOI:=hoi;have HBI2:=hbi;have HBB:=HBi;clear hcsc hcsl2 hatc hxp rb hnp0 hFB hsi hoi hbi HBi wc1 wc3 ec1 ec2 hclp hcmp;go_wp2_with fail;clear xc0 xc1 xa5
         go_loopw [8,9] (fun bu iv wr=>∃ k:Nat,k≤np∧iv=.int .i64 k∧Hid (StrV wr bu (foldV (patV d) FB (c.1.take k)))∧Hid (OwnS wr w.heap.size u5 OI)∧Hid (StrV wr u1 FB)∧Hid (Blk wr w.heap.size #[.int .i64 kx,.int .i64 nx,.string tx,.string mx,.slice p n cap,.slice (some ⟨gc,oc,none⟩) nc capc] 76)∧Hid (Bz w wr)) (fun _ iv _=>np - (intOf iv).toNat)
         case atStart=>exact ⟨0,Nat.zero_le _,rfl,HSI.out,HOI.out,HSI.out,HBI2.out,HBB.out⟩
         case round =>
          clear HSI HOI HBI2 HBB;obtain ⟨k,hk,rfl,hs,ho,hsf,hbk,HB⟩:=hrel;have xa5:=hbk.out.cell 5 _ rfl;have xc0:=(HB.out.cell (p:=⟨gc,oc+i * 2,none⟩) hgcl).trans HC0.out;have xc1:=(HB.out.cell (p:=⟨gc,oc+i * 2+1,none⟩) hgcl).trans HC1.out;by_cases hlk:k<np
          · obtain ⟨x,hxk⟩:∃ x,c.1[k]?=some x:=⟨c.1[k]'(by rw [HNP.out];exact hlk),List.getElem?_eq_getElem _⟩
            obtain ⟨g,off,rfl,-,hgl,hat⟩:=HXP.out (sqE hxk);obtain ⟨cs,hcsl,hcs,r1⟩:=hat k x hxk;have E1:∀ w',Bz w w'→HEx w' All d cs x:=fun w' hw=>r1.mono (sqO hw) (fun _ h=>h);obtain ⟨c0,c1,c2,c3,c4,c5,rfl⟩:=len6 hcsl;obtain ⟨a0,a1,a2,a3,a4,a5⟩:=sqC6 hcs (by omega);rw [← HB.out.cell (p:=⟨g,_,none⟩) hgl] at a0 a1 a2 a3 a4 a5;simp at a0 a1 a2 a3 a4 a5;have hki:(k:Int)<(np:Int):=(by omega);have hk0:=sqI k;obtain ⟨wx,ex,lj⟩:=BP.out k x hxk;have lx:=patV_len d x;have HJ:Hid (foldV (patV d) FB (c.1.take (k+1))=onceS (foldV (patV d) FB (c.1.take k)) (patV d x)):=foldV_snoc _ _ c.1 k x hxk;have ON:Hid (∀ s ∈ patV d x,okS s):=fun s hs=>patV_ok d x ex s hs
            have OS:Hid (∀ s ∈ onceS (foldV (patV d) FB (c.1.take k)) (patV d x),okS s):=fun s hs'=>by
             rcases onceS_mem _ _ s hs' with h | h
             · exact hs.out.1.okS s h
             · exact ON.out s h
            generalize foldV (patV d) FB (c.1.take k)=J at *;clear hcs hat hcsl r1;go_wp2_with fail;refine (patVars_all d _ _ x (E1 _ HB.out) wx).mono ?_;rintro e w4 ⟨u4',rfl,ho4,hb4⟩;have HB4:=hid (HB.out.trans (hb4.mono HB.out.size));have SV:=hid (hs.out.below hb4);have SR:=hid (ho4.strR ON.out);have HO4:=hid (ho.out.next hb4);have SF4:=hid (hsf.out.below hb4);have bk4:=hid (hbk.out.next hb4);clear hb4 ho4 xa5 xc0 xc1 a0 a1 a2 a3 a4 a5;go_wp2_with fail;refine (once_any _ _ _ J (patV d x) SV.out SR.out (by omega)).mono ?_;rintro e w5 ⟨u5',rfl,ho5,hb5⟩;have HB5:=hid (HB4.out.trans (hb5.mono HB4.out.size));have SV5:=hid (ho5.strV OS.out);have HO5:=hid (HO4.out.next hb5);have SF5:=hid (SF4.out.below hb5);have bk5:=hid (bk4.out.next hb5);clear hb5 ho5;go_wp2_with fail;exact ⟨⟨k+1,by omega,by go_num,by show StrV _ _ _;rw [HJ.out];exact SV5.out,HO5.out,SF5.out,bk5.out,HB5.out⟩,by simp [intOf];omega⟩
          · have HIN:Hid (StrV wr u8 (foldV (patV d) FB c.1)):=by
             have:=hs.out
             rwa [List.take_of_length_le (by rw [HNP.out];omega)] at this
            clear hs;go_wp2_with fail;refine (hL _ _ c.2 _ (foldV (patV d) FB c.1) (RB.out _ HB.out) HIN.out wc2 LIN.out).mono ?_;rintro e w4 ⟨u4',rfl,ho4,hb4⟩;have HB4:=hid (HB.out.trans (hb4.mono HB.out.size));have SV:Hid (StrV w4 u5 OI):=(ho.out.next hb4).strV OJ.out;have SR:=hid (ho4.strR (OBD.out _));have lbd:=LBD.out (foldV (patV d) FB c.1);have SF4:=hid (hsf.out.below hb4);have bk4:=hid (hbk.out.next hb4);clear hb4 ho4 xa5 xc0 xc1;go_wp2_with fail;refine (once_any _ _ _ OI _ SV.out SR.out (by omega)).mono ?_;rintro e w5 ⟨u5',rfl,ho5,hb5⟩;have HB5:=hid (HB4.out.trans (hb5.mono HB4.out.size));have HO5:=hid (ho5.base HB4.out.size);have SF5:=hid (SF4.out.below hb5);have bk5:=hid (bk4.out.next hb5);clear hb5 ho5;go_wp2_with fail;exact ⟨⟨i+1,by omega,by go_num,by show OwnS _ _ _ _;rw [HCI.out];exact HO5.out,SF5.out,bk5.out,HB5.out⟩,by simp [intOf];omega⟩
       · have HF:Hid (OwnS wr w.heap.size u5 (cl.foldl (clF (freeV d) (bndV d) (patV d) (foldV (bndV d) B ks)) (listV (freeV d) (bndV d) B ks))):=by
          have:=hoi.out
          rwa [List.take_of_length_le (by rw [HNC.out];omega)] at this
         clear hoi;go_wp2_with fail;go_ret;exact ⟨_,rfl,HF.out,HBi.out⟩
theorem free_of {d:Nat} (hF:FrC d):FrC (d+1):=by
 intro w cs x bv B h hB hwt hbt;obtain ⟨kx,nx,tx,mx,ks,cl⟩:=x;by_cases h2:kx=2
 · subst h2
   exact free_var w cs nx tx mx ks cl bv B h hB
 · by_cases h92:kx=9∧ks.length=2
   · obtain ⟨rfl,hl⟩:=h92
     match ks,hl with
     | [ya,yb],_=>exact free_two hF w cs nx tx mx ya yb cl bv B h hB hwt hbt
   · exact free_else (list_of hF) w cs kx nx tx mx ks cl bv B h2 h92 h hB hwt hbt
theorem free_all:∀ d,FrC d
 | 0=>fun w cs x bv B h _ _ _=>h.elim
 | d+1=>free_of (free_all d)
theorem list_all (d:Nat):LsC d:=list_of (free_all d)
def cfV (d:Nat) (c:Cl):List ByteArray:=listV (freeV d) (bndV d) (foldV (patV d) [] c.1) c.2
theorem cfV_len (d:Nat) (c:Cl):(cfV d c).length≤wtS (wtEx d) c.2:=listV_len d _ _
theorem specClauseFree_any (w:World) (d:Nat) (cs:List Value) (c:Cl) (h:HCl w All (HEx w All d) cs c) (hw:wtCl (wtEx d) c≤16777216) :
 Calls prog 146 #[.agg cs.toArray] w fun e w'=>∃ u,e=.returned u∧OwnS w' w.heap.size u (sortS (cfV d c))∧Bz w w':=by
 obtain ⟨pv,bdv,rfl,rp,rb⟩:=h;have hc:wtCl (wtEx d) c=wtS (wtEx d) c.1+wtS (wtEx d) c.2:=rfl;have wc2:wtS (wtEx d) c.2≤16777216:=(by omega)
 have EP:Hid (∀ y ∈ c.1,exS d y):=fun y hy=>by
  obtain ⟨cs,h⟩:=rows_mem' rp y hy;exact h.txts
 have EB:Hid (∀ y ∈ c.2,exS d y):=fun y hy=>by
  obtain ⟨cs,h⟩:=rows_mem' rb y hy;exact h.txts
 have RB:Hid (∀ w',Bz w w'→Rows w' All 6 (HEx w' All d) bdv c.2):=fun w' hw=>Rows.mono rb (sqO hw) (fun _ h=>h) (fun _ _ _ h=>h.mono (sqO hw) (fun _ h=>h));obtain ⟨pp,capp,rfl,hclp,hcmp,hxp⟩:=rp;obtain ⟨pb,capb,rfl,-⟩:=id rb;have hnp:c.1.length≤9223372036854775807:=(by unfold maxLen at hcmp;omega);have HXP:=hid hxp
 have BP:Hid (∀ (j:Nat) y,c.1[j]?=some y→wtEx d y≤16777216∧exS d y∧(foldV (patV d) [] (c.1.take j)).length≤16777216):=fun j y hj=>by
  obtain ⟨h1,-⟩:=wtS_kid (d:=d) hj;have h3:=foldV_len (patV d) (wtEx d) (c.1.take j) [] (fun y _=>patV_len d y);simp only [List.length_nil] at h3;exact ⟨by omega,EP.out y (List.mem_of_getElem? hj),by omega⟩
 have LIN:Hid ((foldV (patV d) [] c.1).length+wtS (wtEx d) c.2≤67108864):=by
  have h3:=foldV_len (patV d) (wtEx d) c.1 [] (fun y _=>patV_len d y);simp only [List.length_nil] at h3;show _≤_;omega
 have LC:Hid ((cfV d c).length≤33554432):=by have:=cfV_len d c;show _≤_;omega
 have OC:Hid (∀ s ∈ cfV d c,okS s):=fun s hs=>by
  obtain ⟨y,hy,B2,h⟩:=listV_mem hs;exact freeV_ok d y B2 (EB.out y hy) s h
 generalize hnp0:c.1.length=np at *;have HNP:=hid hnp0;have bA:Hid (Blk ((w.alloc (.cells #[.slice pp np capp,.slice pb c.2.length capb] 46)).alloc (.cells #[] 9)) w.heap.size #[.slice pp np capp,.slice pb c.2.length capb] 46):=Blk.new.alloc;have BA:Bz w (w.alloc (.cells #[.slice pp np capp,.slice pb c.2.length capb] 46)):=(sqN _ _);have BB:Hid (Bz w ((w.alloc (.cells #[.slice pp np capp,.slice pb c.2.length capb] 46)).alloc (.cells #[] 9))):=BA.alloc BA.size _
 have O0:Hid (OwnS ((w.alloc (.cells #[.slice pp np capp,.slice pb c.2.length capb] 46)).alloc (.cells #[] 9)) w.heap.size (.slice (some ⟨w.heap.size+1,0,none⟩) 0 0) []):=by
  have:=(OwnS.fresh (w:=w.alloc (.cells #[.slice pp np capp,.slice pb c.2.length capb] 46))).base BA.size
  rwa [alloc_hs] at this
 clear hxp rb hnp0 hw hc BA EP EB hclp hcmp;go_enter func146,ntmps146;go_wp2_with fail
 go_loopw [3,4] (fun bu iv wr=>∃ k:Nat,k≤np∧iv=.int .i64 k∧Hid (StrV wr bu (foldV (patV d) [] (c.1.take k)))∧Hid (Blk wr w.heap.size #[.slice pp np capp,.slice pb c.2.length capb] 46)∧Hid (Bz w wr)) (fun _ iv _=>np - (intOf iv).toNat)
 case atStart=>exact ⟨0,Nat.zero_le _,rfl,O0.out.strV (fun s hs=>by cases hs),bA.out,BB.out⟩
 case round =>
  clear O0 bA BB;obtain ⟨k,hk,rfl,hs,hbk,HB⟩:=hrel;obtain ⟨xa0,xa1⟩:=sqB2 hbk.out;by_cases hlk:k<np
  · obtain ⟨x,hxk⟩:∃ x,c.1[k]?=some x:=⟨c.1[k]'(by rw [HNP.out];exact hlk),List.getElem?_eq_getElem _⟩
    obtain ⟨g,off,rfl,-,hgl,hat⟩:=HXP.out (sqE hxk);obtain ⟨cs,hcsl,hcs,r1⟩:=hat k x hxk;have E1:∀ w',Bz w w'→HEx w' All d cs x:=fun w' hw=>r1.mono (sqO hw) (fun _ h=>h);obtain ⟨c0,c1,c2,c3,c4,c5,rfl⟩:=len6 hcsl;obtain ⟨a0,a1,a2,a3,a4,a5⟩:=sqC6 hcs (by omega);rw [← HB.out.cell (p:=⟨g,_,none⟩) hgl] at a0 a1 a2 a3 a4 a5;simp at a0 a1 a2 a3 a4 a5;have hki:(k:Int)<(np:Int):=(by omega);have hk0:=sqI k;obtain ⟨wx,ex,lj⟩:=BP.out k x hxk;have lx:=patV_len d x;have HJ:Hid (foldV (patV d) [] (c.1.take (k+1))=onceS (foldV (patV d) [] (c.1.take k)) (patV d x)):=foldV_snoc _ _ c.1 k x hxk;have ON:Hid (∀ s ∈ patV d x,okS s):=fun s hs=>patV_ok d x ex s hs
    have OS:Hid (∀ s ∈ onceS (foldV (patV d) [] (c.1.take k)) (patV d x),okS s):=fun s hs'=>by
     rcases onceS_mem _ _ s hs' with h | h
     · exact hs.out.1.okS s h
     · exact ON.out s h
    generalize foldV (patV d) [] (c.1.take k)=J at *;clear hcs hat hcsl r1;go_wp2_with fail;refine (patVars_all d _ _ x (E1 _ HB.out) wx).mono ?_;rintro e w4 ⟨u4',rfl,ho4,hb4⟩;have HB4:=hid (HB.out.trans (hb4.mono HB.out.size));have SV:=hid (hs.out.below hb4);have SR:=hid (ho4.strR ON.out);have bk4:=hid (hbk.out.next hb4);clear hb4 ho4 xa0 xa1 a0 a1 a2 a3 a4 a5;go_wp2_with fail;refine (once_any _ _ _ J (patV d x) SV.out SR.out (by omega)).mono ?_;rintro e w5 ⟨u5',rfl,ho5,hb5⟩;have HB5:=hid (HB4.out.trans (hb5.mono HB4.out.size));have SV5:=hid (ho5.strV OS.out);have bk5:=hid (bk4.out.next hb5);clear hb5 ho5;go_wp2_with fail;exact ⟨⟨k+1,by omega,by go_num,by show StrV _ _ _;rw [HJ.out];exact SV5.out,bk5.out,HB5.out⟩,by simp [intOf];omega⟩
  · have HIN:Hid (StrV wr u3 (foldV (patV d) [] c.1)):=by
     have:=hs.out
     rwa [List.take_of_length_le (by rw [HNP.out];omega)] at this
    clear hs;go_wp2_with fail;refine (list_all d _ _ c.2 _ (foldV (patV d) [] c.1) (RB.out _ HB.out) HIN.out wc2 LIN.out).mono ?_;rintro e w4 ⟨u4',rfl,ho4,hb4⟩;have HB4:=hid (HB.out.trans (hb4.mono HB.out.size));have SR:=hid (ho4.strR OC.out);clear hb4 ho4 xa0 xa1;go_wp2_with fail;refine (sorted_any _ _ (cfV d c) SR.out LC.out).mono ?_;rintro e w5 ⟨u5',rfl,ho5,hb5⟩;have HB5:=hid (HB4.out.trans (hb5.mono HB4.out.size));have HO5:=hid (ho5.base HB4.out.size);clear hb5 ho5;go_wp2_with fail;go_ret;exact ⟨_,rfl,HO5.out,HB5.out⟩
end Go.Proofs.YtdhlonogmnkemaaGreatDoor
namespace Go.Proofs.YtdhlonogmnkemaaGreatDoor
open Go.ChangeShapes Go.WideShapes Go.ChangeAt Go.RowKit
set_option linter.unusedVariables false
set_option maxRecDepth 100000
def inK (z:List UInt8) (l:List ByteArray):Prop:=z ∈ l.map keyS
theorem inK_nil {z:List UInt8}:¬ inK z []:=by simp [inK]
theorem inK_once {z:List UInt8} {l ys:List ByteArray}:inK z (onceS l ys) ↔ inK z l∨inK z ys:=by
 constructor
 · intro h
   obtain ⟨s,hs,rfl⟩:=List.mem_map.1 h
   rcases onceS_mem l ys s hs with h | h
   · exact .inl (List.mem_map.2 ⟨s,h,rfl⟩)
   · exact .inr (List.mem_map.2 ⟨s,h,rfl⟩)
 · rintro (h | h)
   · exact onceS_left _ _ _ h
   · exact onceS_right _ _ _ h
theorem inK_fold {α:Type} {z:List UInt8} (f:α→List ByteArray):∀ (ks:List α) (l:List ByteArray),inK z (foldV f l ks) ↔ inK z l∨∃ y ∈ ks,inK z (f y)
 | [],l=>by simp [foldV]
 | y :: ys,l=>by
  have h:=inK_fold (z:=z) f ys (onceS l (f y));have e:foldV f l (y :: ys)=foldV f (onceS l (f y)) ys:=rfl;rw [e,h,inK_once];simp only [List.mem_cons,exists_eq_or_imp,or_assoc]
theorem runL_in (f:Ex→List ByteArray→List ByteArray) (bn:Ex→List ByteArray) {z:List UInt8}:∀ (ks:List Ex) (o B:List ByteArray),inK z (ks.foldl (stepL f bn) (o,B)).1 ↔ inK z o∨inK z (listV f bn B ks)
 | [],o,B=>by simp [listV,inK]
 | x :: xs,o,B=>by
  have h1:=runL_in f bn (z:=z) xs (onceS o (f x B)) (onceS B (bn x));have h2:=runL_in f bn (z:=z) xs (onceS [] (f x B)) (onceS B (bn x));have e1:(x :: xs).foldl (stepL f bn) (o,B)=xs.foldl (stepL f bn) (onceS o (f x B),onceS B (bn x)):=rfl;have e2:listV f bn B (x :: xs)=(xs.foldl (stepL f bn) (onceS [] (f x B),onceS B (bn x))).1:=rfl;rw [e1,e2,h1,h2,inK_once,inK_once];have:=inK_nil (z:=z);simp only [this,false_or,or_assoc]
theorem listV_cons (f:Ex→List ByteArray→List ByteArray) (bn:Ex→List ByteArray) {z:List UInt8} (B:List ByteArray) (x:Ex) (xs:List Ex):inK z (listV f bn B (x :: xs)) ↔ inK z (f x B)∨inK z (listV f bn (onceS B (bn x)) xs):=by
 have h:=runL_in f bn (z:=z) xs (onceS [] (f x B)) (onceS B (bn x));have e:listV f bn B (x :: xs)=(xs.foldl (stepL f bn) (onceS [] (f x B),onceS B (bn x))).1:=rfl;rw [e,h,inK_once];have:=inK_nil (z:=z);simp only [this,false_or]
def Takes (f:Ex→List ByteArray→List ByteArray):Prop:=∀ x B z,inK z (f x B) ↔ inK z (f x [])∧¬ inK z B
theorem listV_takes {f:Ex→List ByteArray→List ByteArray} (bn:Ex→List ByteArray) (hf:Takes f) {z:List UInt8}:∀ (ks:List Ex) (B:List ByteArray),inK z (listV f bn B ks) ↔ inK z (listV f bn [] ks)∧¬ inK z B
 | [],B=>by simp [listV,inK]
 | x :: xs,B=>by
  have h1:=listV_takes bn hf (z:=z) xs (onceS B (bn x));have h2:=listV_takes bn hf (z:=z) xs (onceS [] (bn x));have h3:=hf x B z;have:=inK_nil (z:=z);rw [listV_cons,listV_cons,h1,h2,h3,inK_once,inK_once];simp only [this,false_or]
  by_cases a:inK z (f x []) <;> by_cases b:inK z B <;> by_cases c:inK z (bn x) <;> simp [a,b,c]
theorem listV_back {f:Ex→List ByteArray→List ByteArray} (bn:Ex→List ByteArray) (hf:Takes f) {z:List UInt8} (x:Ex) (xs:List Ex):inK z (listV f bn [] (x :: xs)) ↔ inK z (f x [])∨(inK z (listV f bn [] xs)∧¬ inK z (bn x)):=by
 have h:=listV_takes bn hf (z:=z) xs (onceS [] (bn x));rw [listV_cons,h,inK_once];have:=inK_nil (z:=z);simp only [this,false_or]
theorem clF_in (f:Ex→List ByteArray→List ByteArray) (bn pt:Ex→List ByteArray) (B:List ByteArray) {z:List UInt8}:∀ (cs:List Cl) (l:List ByteArray),inK z (cs.foldl (clF f bn pt B) l) ↔ inK z l∨∃ c ∈ cs,inK z (listV f bn (foldV pt B c.1) c.2)
 | [],l=>by simp
 | c :: cs,l=>by
  have h:=clF_in f bn pt B (z:=z) cs (clF f bn pt B l c);rw [List.foldl_cons,h];unfold clF;rw [inK_once];simp only [List.mem_cons,exists_eq_or_imp,or_assoc]
theorem hasS_in {B:List ByteArray} {t:ByteArray}:hasS B t=true ↔ inK (keyS t) B:=hasS_mem B t
theorem freeV_takes:∀ d,Takes (freeV d)
 | 0,x,B,z=>by simp [freeV,inK]
 | d+1,.mk k n t m ks cs,B,z=>by
  have ih:=freeV_takes d;by_cases h2:k=2
  · subst h2
    rw [freeV_var,freeV_var];have h0:hasS [] t=false:=rfl;rw [h0];by_cases hb:hasS B t=true
    · have hb':=hasS_in.1 hb
      simp only [hb,if_true,Bool.false_eq_true,if_false]
      constructor
      · intro h;exact absurd h inK_nil
      · rintro ⟨h,h'⟩
        have:z=keyS t:=(by simpa [inK] using h);subst this;exact absurd hb' h'
    · have hb':¬ inK (keyS t) B:=fun h=>hb (hasS_in.2 h)
      simp only [hb,Bool.false_eq_true,if_false]
      constructor
      · intro h
        have:z=keyS t:=(by simpa [inK] using h);subst this;exact ⟨h,hb'⟩
      · exact fun h=>h.1
  · by_cases h9:k=9∧ks.length=2
    · obtain ⟨rfl,hl⟩:=h9
      match ks,hl with
      | [a,b],_=>rw [freeV_two,freeV_two];exact ih b B z
    · rw [freeV_else d k n t m ks cs B h2 h9,freeV_else d k n t m ks cs [] h2 h9,clF_in,clF_in,listV_takes (bndV d) ih ks B]
      have hc:∀ (B:List ByteArray) (c:Cl),inK z (listV (freeV d) (bndV d) (foldV (patV d) (foldV (bndV d) B ks) c.1) c.2) ↔ inK z (listV (freeV d) (bndV d) [] c.2)∧¬ (inK z B∨(∃ y ∈ ks,inK z (bndV d y))∨∃ y ∈ c.1,inK z (patV d y)):=fun B c=>by
       rw [listV_takes (bndV d) ih,inK_fold,inK_fold,or_assoc]
      simp only [hc];have:=inK_nil (z:=z);simp only [this,false_or]
      constructor
      · rintro (⟨h,h'⟩ | ⟨c,hc,h,h'⟩)
        · exact ⟨.inl h,h'⟩
        · exact ⟨.inr ⟨c,hc,h,fun e=>h' (.inr e)⟩,fun e=>h' (.inl e)⟩
      · rintro ⟨h | ⟨c,hc,h,h'⟩,hb⟩
        · exact .inl ⟨h,hb⟩
        · refine .inr ⟨c,hc,h,fun e=>?_⟩
          rcases e with e | e
          · exact hb e
          · exact h' e
theorem clause_in (d:Nat) (c:Cl) (z:List UInt8):inK z (listV (freeV d) (bndV d) (foldV (patV d) [] c.1) c.2) ↔ inK z (listV (freeV d) (bndV d) [] c.2)∧¬ ∃ y ∈ c.1,inK z (patV d y):=by
 rw [listV_takes (bndV d) (freeV_takes d),inK_fold];have:=inK_nil (z:=z);simp only [this,false_or]
theorem freeV_back (d:Nat) (k n:Int) (t m:ByteArray) (ks:List Ex) (cs:List Cl) (h2:k≠2) (h9:¬ (k=9∧ks.length=2)) (z:List UInt8) :
 inK z (freeV (d+1) (.mk k n t m ks cs) []) ↔ inK z (listV (freeV d) (bndV d) [] ks)∨((∃ c ∈ cs,inK z (listV (freeV d) (bndV d) (foldV (patV d) [] c.1) c.2))∧¬ ∃ y ∈ ks,inK z (bndV d y)):=by
 rw [freeV_else d k n t m ks cs [] h2 h9,clF_in];simp only [listV_takes (bndV d) (freeV_takes d) _ (foldV _ _ _),inK_fold];have:=inK_nil (z:=z);simp only [this,false_or]
 constructor
 · rintro (h | ⟨c,hc,h,h'⟩)
   · exact .inl h
   · exact .inr ⟨⟨c,hc,h,fun e=>h' (.inr e)⟩,fun e=>h' (.inl e)⟩
 · rintro (h | ⟨⟨c,hc,h,h'⟩,hb⟩)
   · exact .inl h
   · refine .inr ⟨c,hc,h,fun e=>?_⟩
     rcases e with e | e
     · exact hb e
     · exact h' e
def stepS (d:Nat) (x:Ex) (S:List UInt8→Prop):List UInt8→Prop:=fun z=>inK z (freeV d x [])∨(S z∧¬ inK z (bndV d x))
theorem stepS_list (d:Nat) (S:List UInt8→Prop) (z:List UInt8):∀ (ks:List Ex),ks.foldr (stepS d) S z ↔ inK z (listV (freeV d) (bndV d) [] ks)∨(S z∧¬ ∃ y ∈ ks,inK z (bndV d y))
 | []=>by
  have:=inK_nil (z:=z);simp [listV_nil,this]
 | x :: xs=>by
  have ih:=stepS_list d S z xs;rw [List.foldr_cons,listV_back (bndV d) (freeV_takes d)];unfold stepS at ih ⊢;rw [ih];simp only [List.mem_cons,exists_eq_or_imp,not_or]
  by_cases a:inK z (freeV d x []) <;> by_cases b:inK z (bndV d x) <;> simp [a,b]
theorem bndV_two' (d:Nat) (n:Int) (t m:ByteArray) (a b:Ex) (cs:List Cl):bndV (d+1) (.mk 9 n t m [a,b] cs)=onceS (bndV d b) (patV d a):=rfl
theorem bndV_else' (d:Nat) (k n:Int) (t m:ByteArray) (ks:List Ex) (cs:List Cl) (h9:¬ (k=9∧ks.length=2)):bndV (d+1) (.mk k n t m ks cs)=foldV (bndV d) [] ks:=by
 conv=>lhs;unfold bndV
 split
 · simp at h9
 · rfl
theorem exOk_parts {d:Nat} {k n:Int} {t m:ByteArray} {ks:List Ex} {cs:List Cl} {pat:Bool} {deep:Int} (h:exOk (d+1) (.mk k n t m ks cs) pat deep=true) :
 (k≠10→cs = [])∧(k=2→ks = [])∧(k=9→∃ a b,ks = [a,b]∧exOk d a true (deep - 1)=true∧∃ p,exOk d b p (deep - 1)=true)∧(pat=true→k≤6) ∧
 (∀ y ∈ ks,∃ p,(pat=true→p=true)∧exOk d y p (deep - 1)=true)∧(∀ c ∈ cs,(∀ y ∈ c.1,exOk d y true (deep - 1)=true)∧∀ y ∈ c.2,exOk d y false (deep - 1)=true):=by
 rw [exOk_eq] at h;simp only [Bool.and_eq_true,decide_eq_true_eq] at h;obtain ⟨h0,hp,hpat,hk,hc⟩:=h;unfold plainB at hp;simp only [Bool.and_eq_true] at hp;obtain ⟨hr,-,-,-,hnk,hnc⟩:=hp;simp [inB] at hr hnk hnc
 have hkid:∀ y ∈ ks,∃ p,(pat=true→p=true)∧exOk d y p (deep - 1)=true:=by
  cases ks with
  | nil=>simp
  | cons x xs =>
   simp only [kidsB,Bool.and_eq_true,List.all_eq_true] at hk;intro y hy
   rcases List.mem_cons.1 hy with rfl | hy
   · exact ⟨_,fun e=>by rw [e];rfl,hk.1⟩
   · exact ⟨_,fun e=>e,hk.2 y hy⟩
 refine ⟨fun h=>?_,fun h=>?_,fun h=>?_,fun h=>?_,hkid,fun c hcs=>?_⟩
 · have:clsHi k=0:=by unfold clsHi;rw [if_neg h]
   rw [this] at hnc;exact List.length_eq_zero_iff.1 (by omega)
 · subst h
   have:kidHi 2=0:=rfl;rw [this] at hnk;exact List.length_eq_zero_iff.1 (by omega)
 · subst h
   have h1:kidHi 9=2:=rfl;have h2:kidLo 9=2:=rfl;rw [h1,h2] at hnk
   obtain ⟨a,b,rfl⟩:∃ a b,ks = [a,b]:=by
    have hl:ks.length=2:=by omega
    match ks,hl with
    | [a,b],_=>exact ⟨a,b,rfl⟩
   refine ⟨a,b,rfl,?_,?_⟩
   · simp only [kidsB,Bool.and_eq_true] at hk
     have:=hk.1
     simpa using this
   · obtain ⟨p,-,hb⟩:=hkid b (by simp)
     exact ⟨p,hb⟩
 · subst h
   simpa [patB] using hpat
 · rw [List.all_eq_true] at hc
   have:=hc c hcs;unfold clB at this;simp only [Bool.and_eq_true,List.all_eq_true] at this;exact ⟨this.2.2.1,this.2.2.2⟩
theorem pat_vars:∀ (d:Nat) (x:Ex) (deep:Int),exOk d x true deep=true→∀ z,z ∈ varL d x ↔ inK z (patV d x)
 | 0,_,_,h,_=>by simp [exOk] at h
 | d+1,.mk k n t m ks cs,deep,h,z=>by
  obtain ⟨h1,h2,h3,h4,h5,h6⟩:=exOk_parts h;have hk:=h4 rfl;have hcs:cs = []:=h1 (by omega);subst hcs;have hv:varL (d+1) (.mk k n t m ks [])=(if k=2 then [keyS t] else []) ++ (ks.flatMap (varL d) ++ []):=rfl;have hp:patV (d+1) (.mk k n t m ks [])=foldV (patV d) (if k=2 then [t] else []) ks:=rfl;rw [hv,hp,inK_fold,List.append_nil,List.mem_append,List.mem_flatMap]
  have ih:∀ y ∈ ks,(z ∈ varL d y ↔ inK z (patV d y)):=fun y hy=>by
   obtain ⟨p,e,hy'⟩:=h5 y hy;rw [e rfl] at hy';exact pat_vars d y _ hy' z
  have e1:(∃ a,a ∈ ks∧z ∈ varL d a) ↔ ∃ y,y ∈ ks∧inK z (patV d y):=by
   constructor
   · rintro ⟨y,hy,h⟩;exact ⟨y,hy,(ih y hy).1 h⟩
   · rintro ⟨y,hy,h⟩;exact ⟨y,hy,(ih y hy).2 h⟩
  rw [e1];by_cases hk2:k=2
  · simp [hk2,inK]
  · simp [hk2,inK]
theorem clause_step (d:Nat) (c:Cl) (deep:Int) (hp:∀ y ∈ c.1,exOk d y true deep=true) (z:List UInt8) :
 (c.2.foldr (stepS d) (fun _=>False) z∧z ∉ c.1.flatMap (varL d)) ↔ inK z (listV (freeV d) (bndV d) (foldV (patV d) [] c.1) c.2):=by
 rw [stepS_list,clause_in]
 have e1:z ∈ c.1.flatMap (varL d) ↔ ∃ y ∈ c.1,inK z (patV d y):=by
  rw [List.mem_flatMap]
  constructor
  · rintro ⟨y,hy,h⟩;exact ⟨y,hy,(pat_vars d y deep (hp y hy) z).1 h⟩
  · rintro ⟨y,hy,h⟩;exact ⟨y,hy,(pat_vars d y deep (hp y hy) z).2 h⟩
 rw [e1];simp
theorem step_var (d:Nat) (n:Int) (t m:ByteArray) (cs:List Cl) (S:List UInt8→Prop) (z:List UInt8):(S z∨z=t.data.toList) ↔ stepS (d+1) (.mk 2 n t m [] cs) S z:=by
 unfold stepS;rw [freeV_var,bndV_else' _ _ _ _ _ _ _ (by simp)];have h0:hasS [] t=false:=rfl
 have h1:inK z [t] ↔ z=t.data.toList:=by
  unfold inK;simp [keyS,ByteArray.toList_eq]
 have h2:¬ inK z (foldV (bndV d) [] []):=inK_nil;rw [h0];simp only [Bool.false_eq_true,if_false,h1,h2,not_false_eq_true,and_true];exact Or.comm
theorem step_two (d:Nat) (n:Int) (t m:ByteArray) (a b:Ex) (cs:List Cl) (deep:Int) (ha:exOk d a true deep=true) (S:List UInt8→Prop) (z:List UInt8) :
 stepS d b (fun z=>S z∧z ∉ varL d a) z ↔ stepS (d+1) (.mk 9 n t m [a,b] cs) S z:=by
 unfold stepS;have hp:=pat_vars d a deep ha z;rw [freeV_two,bndV_two',inK_once];show _∨((S z∧¬ z ∈ varL d a)∧_) ↔ _;rw [hp];simp only [not_or]
 constructor
 · rintro (h | ⟨⟨h1,h2⟩,h3⟩)
   · exact .inl h
   · exact .inr ⟨h1,h3,h2⟩
 · rintro (h | ⟨h1,h2,h3⟩)
   · exact .inl h
   · exact .inr ⟨⟨h1,h3⟩,h2⟩
theorem step_else (d:Nat) (k n:Int) (t m:ByteArray) (ks:List Ex) (cs:List Cl) (h2:k≠2) (h9:¬ (k=9∧ks.length=2)) (S:List UInt8→Prop) (z:List UInt8) :
 ks.foldr (stepS d) (fun z=>S z∨∃ c ∈ cs,inK z (listV (freeV d) (bndV d) (foldV (patV d) [] c.1) c.2)) z ↔ stepS (d+1) (.mk k n t m ks cs) S z:=by
 have e:=freeV_back d k n t m ks cs h2 h9 z;rw [stepS_list];unfold stepS;rw [e,bndV_else' d k n t m ks cs h9,inK_fold];have:=inK_nil (z:=z);simp only [this,false_or]
 constructor
 · rintro (h | ⟨h | h,h'⟩)
   · exact .inl (.inl h)
   · exact .inr ⟨h,h'⟩
   · exact .inl (.inr ⟨h,h'⟩)
 · rintro ((h | ⟨h,h'⟩) | ⟨h,h'⟩)
   · exact .inl h
   · exact .inr ⟨.inr h,h'⟩
   · exact .inr ⟨.inl h,h'⟩
def looseB (d:Nat) (c:Cl):Bool:=!(listV (freeV d) (bndV d) (foldV (patV d) [] c.1) c.2).isEmpty
def looseF (d:Nat) (f:Fn'):Bool:=f.clauses.any (looseB d)
def rfOf (f:Fn'):Rf:=⟨f.name,f.arity⟩
def looseL (d:Nat) (fs:List Fn'):List Rf:=(fs.filter (looseF d)).map rfOf
def looseM (d:Nat) (m:Md):List Rf:=if mdOk d m then looseL d m.funs else []
theorem looseB_in (d:Nat) (c:Cl):looseB d c=true ↔ ∃ z,inK z (listV (freeV d) (bndV d) (foldV (patV d) [] c.1) c.2):=by
 unfold looseB inK
 cases listV (freeV d) (bndV d) (foldV (patV d) [] c.1) c.2 with
 | nil=>simp
 | cons x xs=>simp only [List.isEmpty_cons,Bool.not_false,true_iff];exact ⟨keyS x,by simp⟩
theorem looseL_snoc (d:Nat) (fs:List Fn') (k:Nat) (f:Fn') (h:fs[k]?=some f):looseL d (fs.take (k+1))=if looseF d f then looseL d (fs.take k) ++ [rfOf f] else looseL d (fs.take k):=by
 unfold looseL;rw [List.take_add_one,h];simp only [Option.toList_some,List.filter_append,List.map_append]
 cases hf:looseF d f <;> simp [hf]
theorem looseL_len (d:Nat) (fs:List Fn'):(looseL d fs).length≤fs.length:=by
 unfold looseL;rw [List.length_map];exact List.length_filter_le _ _
theorem looseL_mem {d:Nat} {fs:List Fn'} {r:Rf} (h:r ∈ looseL d fs):∃ f ∈ fs,r=rfOf f:=by
 unfold looseL at h;obtain ⟨f,hf,rfl⟩:=List.mem_map.1 h;exact ⟨f,(List.mem_filter.1 hf).1,rfl⟩
theorem mdOk_clauses {d:Nat} {m:Md} (h:mdOk d m=true):∀ f ∈ m.funs,∀ c ∈ f.clauses,(∀ y ∈ c.1,exOk d y true 40=true)∧∀ y ∈ c.2,exOk d y false 40=true:=by
 intro f hf c hc;unfold mdOk fnsB at h;simp only [Bool.and_eq_true,List.all_eq_true] at h;obtain ⟨i,hi⟩:=List.mem_iff_getElem?.1 hf;have hl:i<m.funs.length:=(List.getElem?_eq_some_iff.1 hi).1;have h1:=h.2.2.2 i (by simpa using hl);unfold fnsAt at h1;rw [hi] at h1;simp only [Bool.and_eq_true] at h1;have h2:=h1.1;unfold fnB at h2;simp only [Bool.and_eq_true,List.all_eq_true] at h2;have h3:=h2.2.2 c hc;unfold clB at h3;simp only [Bool.and_eq_true,List.all_eq_true] at h3;exact ⟨h3.2.2.1,h3.2.2.2⟩
end Go.Proofs.YtdhlonogmnkemaaGreatDoor
namespace Go.Proofs.YtdhlonogmnkemaaGreatDoor
open Go.ChangeShapes Go.WideShapes Go.ChangeAt Go.RowKit Go.Proofs.Tryz
set_option linter.unusedVariables false
set_option maxRecDepth 100000
def lsL (b:Bool):List ByteArray:=if b then [cLoose] else []
def funC (ms:List Md) (m:Md) (d:Nat) (f:Fn'):List ByteArray:=(bodiesOf f.clauses).foldl (fun o b=>onceS o (codesX ms m d b)) (lsL (looseF d f))
def foldC (ms:List Md) (m:Md) (d:Nat) (l:List Ex) (o:List ByteArray):List ByteArray:=l.foldl (fun o b=>onceS o (codesX ms m d b)) o
theorem insC_ne (l:List ByteArray) (s:ByteArray):insS l s≠[]:=by
 cases l with
 | nil=>simp [insS]
 | cons x l =>
  unfold insS
  split
  · simp
  · split <;> simp
theorem sortC_ne {l:List ByteArray} (h:l≠[]):sortS l≠[]:=by
 unfold sortS
 have:∀ (l acc:List ByteArray),acc≠[]→l.foldl insS acc≠[]:=fun l=>by
  induction l with
  | nil=>exact fun acc h=>h
  | cons x l ih=>exact fun acc _=>ih _ (insC_ne acc x)
 cases l with
 | nil=>exact absurd rfl h
 | cons x l=>exact this l _ (insC_ne [] x)
theorem sortC_pos (d:Nat) (c:Cl):decide (0<(sortS (cfV d c)).length)=looseB d c:=by
 have e:looseB d c = !(cfV d c).isEmpty:=rfl;rw [e]
 cases h:cfV d c with
 | nil=>rfl
 | cons x l =>
  have:=sortC_ne (l:=x :: l) (by simp);simp only [List.isEmpty_cons,Bool.not_false,decide_eq_true_eq];exact List.length_pos_iff.2 this
theorem foldCC_len (ms:List Md) (m:Md) (d:Nat):∀ (l:List Ex) (o:List ByteArray),(l.foldl (fun o b=>onceS o (codesX ms m d b)) o).length≤o.length+(l.map fun y=>1+wtEx d y).sum
 | [],o=>by simp
 | y :: l,o=>by
  have h1:=foldCC_len ms m d l (onceS o (codesX ms m d y));have h2:=onceS_length o (codesX ms m d y);have h3:=codesX_len ms m d y;simp only [List.foldl_cons,List.map_cons,List.sum_cons];omega
theorem foldCC_mem (ms:List Md) (m:Md) (d:Nat):∀ (l:List Ex) (o:List ByteArray),∀ c ∈ l.foldl (fun o b=>onceS o (codesX ms m d b)) o,c ∈ o∨c=cCall∨c=cFar
 | [],o=>fun c h=>Or.inl h
 | y :: l,o=>fun c h=>by
  rcases foldCC_mem ms m d l _ c h with h | h
  · rcases onceS_mem _ _ c h with h | h
    · exact Or.inl h
    · exact Or.inr (codesX_mem ms m d y c h)
  · exact Or.inr h
theorem okS_loose {b:Bool} {c:ByteArray} (h:c ∈ lsL b):okS c:=by
 cases b with
 | true=>simp [lsL] at h;subst h;unfold okS;decide
 | false=>simp [lsL] at h
theorem sumB (d:Nat) (cl:List Cl):((bodiesOf cl).map fun y=>1+wtEx d y).sum≤wtS (wtCl (wtEx d)) cl:=by
 have h2:∀ l:List Ex,(l.map fun y=>1+wtEx d y).sum=wtS (wtEx d) l:=fun l=>by
  unfold wtS
  induction l with
  | nil=>rfl
  | cons y l ih=>simp only [List.map_cons,List.sum_cons,List.length_cons,ih];omega
 rw [h2]
 induction cl with
 | nil=>simp [bodiesOf,wtS]
 | cons c cl ih =>
  have e:bodiesOf (c :: cl)=c.2 ++ bodiesOf cl:=(by simp [bodiesOf]);rw [e];simp only [wtS,List.length_append,List.map_append,List.sum_append,List.length_cons,List.map_cons,List.sum_cons,wtCl] at ih ⊢;omega
theorem OwnS.slice {w:World} {B:Nat} {v:Value} {l:List ByteArray} (h:OwnS w B v l):∃ p q,v=.slice p l.length q:=by
 obtain ⟨p,q,hv,_⟩:=owns_slice h.1;exact ⟨p,q,hv⟩
theorem l05Fun_any (d:Nat) (w:World) (v:Value) (ms:List Md) (mc:List Value) (m:Md) (cs:List Value) (f:Fn') (h:Rows w All 3 (HMd w All d) v ms) (hm:HMd w All d mc m) (hf:HFn w All d cs f) (hw:wtFn d f≤16777216) :
 Calls prog 102 #[v,.agg mc.toArray,.agg cs.toArray] w fun e w'=>∃ u,e=.returned u∧OwnS w' w.heap.size u (funC ms m d f)∧Bz w w':=by
 have HMS:Hid (∀ w',Bz w w'→Rows w' All 3 (HMd w' All d) v ms):=fun w' hw=>h.mono (sqO hw) (fun _ h=>h) (fun _ _ _ h=>h.mono (sqO hw) (fun _ h=>h));have HMM:Hid (∀ w',Bz w w'→HMd w' All d mc m):=fun w' hw=>hm.mono (sqO hw) (fun _ h=>h);obtain ⟨sv,pe,ne,ce,pf,nf,cf,rfl⟩:=hm.shape;obtain ⟨cv,rfl,-,-,p1,q1,rfl,hcl,hcm,hx⟩:=hf;obtain ⟨p,cap,rfl,-⟩:=h;have HFC:Hid (funC ms m d f=(bodiesOf f.clauses).foldl (fun o b=>onceS o (codesX ms m d b)) (lsL (f.clauses.any (looseB d)))):=rfl;have HWC:Hid (wtS (wtCl (wtEx d)) f.clauses≤16777216):=(by show _≤_;unfold wtFn at hw;omega);have HX:=hid hx;have hnb:=sqM hcl hcm;obtain ⟨i0,hi,hz0,hz1,hz2⟩:=info_parts info_str;generalize f.clauses=cl at *;generalize ms.length=n at *;generalize hnc:cl.length=nc at *;have HNC:=hid hnc;obtain ⟨W2,hW2⟩:∃ W2,W2=(w.alloc (.cells #[.string sv,.slice pe ne ce,.slice pf nf cf] 63)).alloc (.cells #[.string f.name,.int .i64 f.arity,.slice p1 nc q1] 59):=⟨_,rfl⟩;have bM:Hid (Blk W2 w.heap.size #[.string sv,.slice pe ne ce,.slice pf nf cf] 63):=(by show Blk _ _ _ _;rw [hW2];exact Blk.new.alloc)
 have bF:Hid (Blk W2 (w.heap.size+1) #[.string f.name,.int .i64 f.arity,.slice p1 nc q1] 59):=by
  show Blk _ _ _ _;rw [hW2];have:=Blk.new (w:=w.alloc (.cells #[.string sv,.slice pe ne ce,.slice pf nf cf] 63)) (cs:=#[.string f.name,.int .i64 f.arity,.slice p1 nc q1]) (t:=59);simp only [alloc_hs] at this;exact this
 have B2:Hid (Bz w W2):=(by show Below _ _ _;rw [hW2];exact ((sqN _ _)).alloc (by simp only [alloc_hs];omega) _);have S2:Hid (W2.heap.size=w.heap.size+1+1):=(by show _=_;rw [hW2];simp only [alloc_hs]);have HW2:=hid hW2
 have O3:Hid (OwnS (W2.alloc (.cells #[] 9)) (w.heap.size+1+1) (.slice (some ⟨w.heap.size+1+1,0,none⟩) 0 0) []):=by
  have:=OwnS.fresh (w:=W2);rw [S2.out] at this;exact this
 have B3:Hid (Below (w.heap.size+1+1) W2 (W2.alloc (.cells #[] 9))):=(Below.refl _ _).alloc (by rw [S2.out];exact Nat.le_refl _) _;clear hm hw hx hnc hW2;go_enter func102,ntmps102;go_wp2_with fail;rw [← HW2.out]
 go_loopw [7,8] (fun ov iv wr=>∃ k:Nat,k≤nc∧iv=.int .i64 k∧Hid (OwnS wr (w.heap.size+1+1) ov (lsL ((cl.take k).any (looseB d))))∧Hid (Below (w.heap.size+1+1) W2 wr)) (fun _ iv _=>nc - (intOf iv).toNat)
 case atStart=>exact ⟨0,Nat.zero_le _,rfl,by show OwnS _ _ _ _;simpa [lsL] using O3.out,B3⟩
 case round =>
  obtain ⟨k,hk,rfl,ho,hb⟩:=hrel;have HB0:=hid (B2.out.trans (hb.out.mono (by omega)));have bFr:=bF.out.below hb.out (by omega);have x2:=bFr.cell 2 _ rfl;have hsw:w.heap.size+1+1≤wr.heap.size:=(by have:=hb.out.size;rw [S2.out] at this;exact this);clear bFr;by_cases hlt:k<nc
  · obtain ⟨c,hck⟩:∃ c,cl[k]?=some c:=⟨cl[k]'(by rw [HNC.out];exact hlt),List.getElem?_eq_getElem _⟩
    obtain ⟨g,off,rfl,-,hgl,hat⟩:=HX.out (sqE hck);obtain ⟨cs,hcsl,hcs,hc⟩:=hat k c hck;have HCC:Hid (∀ w',Bz w w'→HCl w' All (HEx w' All d) cs c):=fun w' hw=>hc.mono (sqO hw) (fun _ h=>h) (fun _ _=>HEx.mono (sqO hw) (fun _ h=>h));obtain ⟨pv,bv,rfl,-,-⟩:=hc;obtain ⟨a0,a1⟩:=sqC2 hcs (by omega);rw [← HB0.out.cell (p:=⟨g,_,none⟩) hgl] at a0 a1;simp at a0 a1;have hki:(k:Int)<(nc:Int):=(by omega);have hk0:=sqI k
    have HWK:Hid (wtCl (wtEx d) c≤16777216):=by
     have h1:=HWC.out;have h2:=sum_take_succ (wtCl (wtEx d)) cl k c hck;have h3:=sum_take_le (wtCl (wtEx d)) cl (k+1);unfold wtS at h1;show _≤_;omega
    have HT:Hid ((cl.take (k+1)).any (looseB d)=((cl.take k).any (looseB d) || looseB d c)):=(by show _=_;rw [List.take_add_one,hck];simp);obtain ⟨pu,qu,hu⟩:=ho.out.slice;clear hcs hat hcsl
    cases hbt:(cl.take k).any (looseB d) with
    | true =>
     rw [hbt] at ho hu HT;have HO1:Hid (OwnS wr (w.heap.size+1+1) u7 (lsL ((cl.take (k+1)).any (looseB d)))):=(by show OwnS _ _ _ _;rw [HT.out];simpa using ho.out);have hl:(lsL true).length=1:=rfl;rw [hl] at hu;subst hu;clear ho HT hbt;go_wp2_with fail;exact ⟨⟨k+1,by omega,by go_num,HO1,hb⟩,by simp [intOf];omega⟩
    | false =>
     rw [hbt,Bool.false_or] at HT;rw [hbt] at ho hu;have hl:(lsL false).length=0:=rfl;rw [hl] at hu;subst hu;clear hbt;go_wp2_with fail;refine (specClauseFree_any _ d _ c (HCC.out _ HB0.out) HWK.out).mono ?_;rintro e w1 ⟨u1,rfl,o1,hb1⟩;have HSP:=sortC_pos d c;obtain ⟨pz,qz,rfl⟩:=o1.slice;have K1:=hid hb1;have HO1:=hid (ho.out.next hb1);have HB1:=hid (hb.out.trans (hb1.mono hsw));have s1:w.heap.size+1+1≤w1.heap.size:=Nat.le_trans hsw hb1.size;clear o1 hb1 a0 a1 x2;generalize (sortS (cfV d c)).length=nz at *
     cases hz:looseB d c with
     | false =>
      rw [hz] at HSP HT;have hzz:¬ (0:Int)<(nz:Int):=(by have:=of_decide_eq_false HSP;omega);have HO2:Hid (OwnS w1 (w.heap.size+1+1) (.slice pu 0 qu) (lsL ((cl.take (k+1)).any (looseB d)))):=(by show OwnS _ _ _ _;rw [HT.out];exact HO1.out);clear HSP HT;go_wp2_with fail;exact ⟨⟨k+1,by omega,by go_num,HO2,HB1⟩,by simp [intOf];omega⟩
     | true =>
      rw [hz] at HSP HT;have hzz:(0:Int)<(nz:Int):=(by have:=of_decide_eq_true HSP;omega);have HO2:Hid (OwnS (w1.alloc (.cells #[.string ⟨#[108,111,111,115,101]⟩] 9)) (w.heap.size+1+1) (.slice pu 0 qu) []):=HO1.out.next ((sqN _ _));clear HSP;go_wp2_with (at_builtin;refine wpList_append_own _ rfl _ _ 51 rfl (w.heap.size+1+1) 9 i0 (.string ⟨#[]⟩) 1 16 underlying51 hi hz0 hz1 hz2 rfl (by decide) (.slice pu 0 qu) 0 [] rfl HO2.out.1 ⟨w1.heap.size,0,none⟩ 1 1 (strs [⟨#[108,111,111,115,101]⟩]) rfl (by simp [strs]) (one_str w1 _ _ rfl) (strs_oneCell _) (by unfold maxLen;omega) (by omega) (by rw [alloc_hs];omega) ?_;intro v7 w7 ho7 hg7 _)
      have HO7:Hid (OwnS w7 (w.heap.size+1+1) v7 (lsL ((cl.take (k+1)).any (looseB d)))):=by
       show OwnS _ _ _ _;rw [HT.out];exact OwnS.of (l:=[]) (m:=[⟨#[108,111,111,115,101]⟩]) ho7 (by simp) (by simp [strs]) (Nat.le_trans (by rw [alloc_hs];omega) hg7.size)
      have HB7:Hid (Below (w.heap.size+1+1) W2 w7):=(HB1.out.alloc s1 _).trans (owns_below HO2.out.1 hg7 (by rw [alloc_hs];omega));clear ho7 hg7;go_wp2_with fail;exact ⟨⟨k+1,by omega,by go_num,HO7,HB7⟩,by simp [intOf];omega⟩
  · have HO1:Hid (OwnS wr (w.heap.size+1+1) u7 (lsL (cl.any (looseB d)))):=by
     have:=ho.out
     rwa [List.take_of_length_le (by rw [HNC.out];omega)] at this
    generalize hL0:lsL (cl.any (looseB d))=L0 at *;have OL0:Hid (∀ c ∈ L0,okS c):=fun c hc=>okS_loose (by rw [hL0];exact hc);have HL0:=hid hL0
    have LL0:L0.length≤1:=by rw [← hL0];unfold lsL;split <;> simp
    clear ho hL0;go_wp2_with fail;clear x2 HB0 hsw hlt
    go_loopw [7,9] (fun ov iv wx=>∃ k:Nat,k≤nc∧iv=.int .i64 k∧Hid (OwnS wx (w.heap.size+1+1) ov (foldC ms m d (bodiesOf (cl.take k)) L0))∧Hid (Below (w.heap.size+1+1) W2 wx)) (fun _ iv _=>nc - (intOf iv).toNat)
    case atStart=>exact ⟨0,Nat.zero_le _,rfl,by show OwnS _ _ _ _;simpa [bodiesOf,foldC] using HO1.out,hb⟩
    case round =>
     obtain ⟨a,ha,rfl,ho,hbx⟩:=hrel;clear HO1 hb;have HB0:=hid (B2.out.trans (hbx.out.mono (by omega)));have bFr:=bF.out.below hbx.out (by omega);have x2:=bFr.cell 2 _ rfl;have hsw:w.heap.size+1+1≤wr.heap.size:=(by have:=hbx.out.size;rw [S2.out] at this;exact this);clear bFr;by_cases hlt:a<nc
     · obtain ⟨c,hck⟩:∃ c,cl[a]?=some c:=⟨cl[a]'(by rw [HNC.out];exact hlt),List.getElem?_eq_getElem _⟩
       obtain ⟨g,off,rfl,-,hgl,hat⟩:=HX.out (sqE hck);obtain ⟨cs,hcsl,hcs,pv,bv,rfl,rp,rb⟩:=hat a c hck;obtain ⟨pp,qp,rfl,-⟩:=rp;obtain ⟨pb,qb,rfl,hclb,hcmb,hxb⟩:=rb;have HXB:=hid hxb;have hnbb:c.2.length≤9223372036854775807:=(by unfold maxLen at hcmb;omega);have HA0:Hid (w.cell? ⟨g,off+a * 2,none⟩=some (.slice pp c.1.length qp)∧w.cell? ⟨g,off+a * 2+1,none⟩=some (.slice pb c.2.length qb)):=⟨by simpa using hcs 0 (by omega),by simpa using hcs 1 (by omega)⟩;have HGL:=hid hgl;have hki:(a:Int)<(nc:Int):=(by omega);have hk0:=sqI a;have HBO:=hid (bodiesOf_snoc cl a c hck)
       have HSB:Hid ((((bodiesOf (cl.take a) ++ c.2).map fun y=>1+wtEx d y).sum)≤16777216):=by
        have h1:=sumB d cl;have h2:=HWC.out
        have h3:((bodiesOf (cl.take (a+1))).map fun y=>1+wtEx d y).sum≤((bodiesOf cl).map fun y=>1+wtEx d y).sum:=by
         have e:bodiesOf cl=bodiesOf (cl.take (a+1)) ++ bodiesOf (cl.drop (a+1)):=by
          unfold bodiesOf;rw [← List.flatMap_append,List.take_append_drop]
         rw [e,List.map_append,List.sum_append];omega
        rw [HBO.out] at h3;show _≤_;omega
       generalize hnbo:c.2.length=nb at *;have HNB:=hid hnbo;clear hcs hat hcsl hxb hck hnbo hclb hcmb x2;have bFr:=bF.out.below hbx.out (by omega);have x2:=bFr.cell 2 _ rfl;clear bFr;go_wp2_with fail;clear x2
       go_loopw [7,10] (fun ov iv wx=>∃ j:Nat,j≤nb∧iv=.int .i64 j∧Hid (OwnS wx (w.heap.size+1+1) ov (foldC ms m d (bodiesOf (cl.take a) ++ c.2.take j) L0))∧Hid (Below (w.heap.size+1+1) W2 wx)) (fun _ iv _=>nb - (intOf iv).toNat)
       case atStart=>exact ⟨0,Nat.zero_le _,rfl,by show OwnS _ _ _ _;simpa using ho.out,hbx⟩
       case round =>
        obtain ⟨j,hj,rfl,ho2,hb2⟩:=hrel;clear ho hbx HB0 hsw;have HB0:=hid (B2.out.trans (hb2.out.mono (by omega)));have bFr:=bF.out.below hb2.out (by omega);have bMr:=bM.out.below hb2.out (by omega);have x2:=bFr.cell 2 _ rfl;obtain ⟨m0,m1,m2⟩:=sqB3 bMr;have a0:=(HB0.out.cell (p:=⟨g,off+a * 2,none⟩) HGL.out).trans HA0.out.1;have a1:=(HB0.out.cell (p:=⟨g,off+a * 2+1,none⟩) HGL.out).trans HA0.out.2;have hsw:w.heap.size+1+1≤wr.heap.size:=(by have:=hb2.out.size;rw [S2.out] at this;exact this);clear bFr bMr;by_cases hlj:j<nb
        · obtain ⟨y,hyk⟩:∃ y,c.2[j]?=some y:=⟨c.2[j]'(by rw [HNB.out];exact hlj),List.getElem?_eq_getElem _⟩
          obtain ⟨g5,o5,rfl,-,hgl5,hat5⟩:=HXB.out (sqE hyk);obtain ⟨cs5,hcsl5,hcs5,hy⟩:=hat5 j y hyk;have HY:Hid (∀ w',Bz w w'→HEx w' All d cs5 y):=fun w' hw=>hy.mono (sqO hw) (fun _ h=>h);obtain ⟨z0,z1,z2,z3,z4,z5,rfl⟩:=len6 hcsl5;obtain ⟨b0,b1,b2,b3,b4,b5⟩:=sqC6 hcs5 (by omega);rw [← HB0.out.cell (p:=⟨g5,_,none⟩) hgl5] at b0 b1 b2 b3 b4 b5;simp at b0 b1 b2 b3 b4 b5;have hji:(j:Int)<(nb:Int):=(by omega);have hj0:=sqI j
          have HJ:Hid (foldC ms m d (bodiesOf (cl.take a) ++ c.2.take (j+1)) L0=onceS (foldC ms m d (bodiesOf (cl.take a) ++ c.2.take j) L0) (codesX ms m d y)):=by
           show _=_;rw [List.take_add_one,hyk];simp [foldC,List.foldl_append]
          have HLK:Hid ((foldC ms m d (bodiesOf (cl.take a) ++ c.2.take j) L0).length+(codesX ms m d y).length≤134217728):=by
           have h1:=foldCC_len ms m d (bodiesOf (cl.take a) ++ c.2.take j) L0;have h2:=codesX_len ms m d y;have h3:=HSB.out
           have h4:((bodiesOf (cl.take a) ++ c.2.take (j+1)).map fun y=>1+wtEx d y).sum≤((bodiesOf (cl.take a) ++ c.2).map fun y=>1+wtEx d y).sum:=by
            rw [List.map_append,List.map_append,List.sum_append,List.sum_append];have:=sum_take_le (fun y=>1+wtEx d y) c.2 (j+1);omega
           rw [List.map_append,List.sum_append,sum_take_succ (fun y=>1+wtEx d y) c.2 j y hyk] at h4;have h5:(foldC ms m d (bodiesOf (cl.take a) ++ c.2.take j) L0).length≤L0.length+((bodiesOf (cl.take a) ++ c.2.take j).map fun y=>1+wtEx d y).sum:=h1;rw [List.map_append,List.sum_append] at h5;show _≤_;omega
          have HWY:Hid (wtEx d y≤16777216):=by
           have h3:=HSB.out;have h4:=sum_take_le (fun y=>1+wtEx d y) c.2 (j+1);rw [sum_take_succ (fun y=>1+wtEx d y) c.2 j y hyk] at h4;rw [List.map_append,List.sum_append] at h3;show _≤_;omega
          have OJ:Hid (∀ q ∈ foldC ms m d (bodiesOf (cl.take a) ++ c.2.take j) L0,okS q):=fun q hq=>by
           rcases foldCC_mem ms m d _ L0 q hq with h | h
           · exact OL0.out q h
           · exact okS_code h
          have CX:Hid (∀ w',Bz wr w'→Calls prog 147 #[.slice p n cap,.agg #[.string sv,.slice pe ne ce,.slice pf nf cf],.agg #[z0,z1,z2,z3,z4,z5]] w' fun e w''=>∃ u,e=.returned u∧OwnS w'' w'.heap.size u (codesX ms m d y)∧Below w'.heap.size w' w''):=fun w' hw'=>by
           have hb9:Bz w w':=HB0.out.trans (hw'.mono HB0.out.size);exact l05Exp_all d d w' _ ms _ m _ y (HMS.out w' hb9) (HMM.out w' hb9) (HY.out w' hb9) HWY.out
          generalize hJ0:foldC ms m d (bodiesOf (cl.take a) ++ c.2.take j) L0=J at *;generalize hY0:codesX ms m d y=Y at *;have OY:Hid (∀ c ∈ Y,okS c):=fun c hc=>okS_code (codesX_mem ms m d y c (by rw [hY0];exact hc));clear hcs5 hcsl5 hy hJ0 hY0 hat5;go_wp2_with fail
          go_region_law
           (first
            | (go_simp;go_at_call 147;refine (CX.out _ (by exact (Below.refl _ _).drew)).mono ?_;rintro e w6 ⟨u6,rfl,o6,hb6⟩;have K6:Hid (Bz wr w6):=⟨hb6.os,hb6.tape,hb6.output,hb6.size,hb6.block⟩;have R6:=hid (o6.strR OY.out);have V6:Hid (StrV w6 u7 J):=(ho2.out.next K6.out).strV OJ.out;clear hb6 o6;dsimp only)
            | (go_simp;go_at_call 58;refine (once_any _ _ _ J Y V6.out R6.out HLK.out).mono ?_;rintro e w9 ⟨u9,rfl,o9,hb9⟩;have K9:=hid hb9;have O9:=hid o9;clear o9 hb9;dsimp only))
          all_goals
           have HO9:Hid (OwnS w9 (w.heap.size+1+1) u9 (foldC ms m d (bodiesOf (cl.take a) ++ c.2.take (j+1)) L0)):=by
            show OwnS _ _ _ _;rw [HJ.out];exact O9.out.base (Nat.le_trans hsw K6.out.size)
           have HB9:Hid (Below (w.heap.size+1+1) W2 w9):=(hb2.out.trans (K6.out.mono hsw)).trans (K9.out.mono (Nat.le_trans hsw K6.out.size));go_wp2_with fail;exact ⟨⟨j+1,by omega,by go_num,HO9,HB9⟩,by simp [intOf];omega⟩
        · have HO9:Hid (OwnS wr (w.heap.size+1+1) u7 (foldC ms m d (bodiesOf (cl.take (a+1))) L0)):=by
           have:=ho2.out;rw [show c.2.take j=c.2 from List.take_of_length_le (by rw [HNB.out];omega),← HBO.out] at this;exact this
          clear ho2;go_wp2_with fail;exact ⟨⟨a+1,by omega,by go_num,HO9,hb2⟩,by simp [intOf];omega⟩
     · have HR:Hid (OwnS wr w.heap.size u7 (funC ms m d f)):=by
        have h1:=ho.out;rw [List.take_of_length_le (by rw [HNC.out];omega)] at h1;show OwnS _ _ _ _;rw [HFC.out];exact h1.base (B':=w.heap.size) (by omega)
       go_wp2_with fail;go_ret;exact ⟨_,rfl,HR.out,HB0.out⟩
def exportP (m:Md) (r:Rf):List Pb:=if hasF m r.name r.arity then [] else [⟨m.name,r.name,r.arity,cExport⟩]
def funP (ms:List Md) (m:Md) (d:Nat) (f:Fn'):List Pb:=(funC ms m d f).map fun c=>⟨m.name,f.name,f.arity,c⟩
def modP (ms:List Md) (d:Nat) (m:Md):List Pb:=m.exports.flatMap (exportP m) ++ m.funs.flatMap (funP ms m d)
def checkP (d:Nat) (ms:List Md):List Pb:=if pgOk d ms then ms.flatMap (modP ms d) else []
abbrev OwnP (w:World) (B:Nat) (v:Value) (l:List Pb):Prop:=OwnG 141 4 HPb w B v l
theorem info_pb:(prog.info? 141).map (fun i=>(i.zero,i.size,i.bytes))=some (some (.agg #[.string ⟨#[]⟩,.string ⟨#[]⟩,.int .i64 0,.string ⟨#[]⟩]),4,56):=by kernel_rfl
theorem flat_takeG {α β:Type} (f:α→List β) (l:List α) (k:Nat) (x:α) (h:l[k]?=some x):(l.take (k+1)).flatMap f=(l.take k).flatMap f ++ f x∧((l.take k).flatMap f).length+(f x).length≤(l.flatMap f).length:=by
 have e1:(l.take (k+1)).flatMap f=(l.take k).flatMap f ++ f x:=(by rw [List.take_add_one,h];simp);refine ⟨e1,?_⟩;have e2:l.flatMap f=(l.take (k+1)).flatMap f ++ (l.drop (k+1)).flatMap f:=(by rw [← List.flatMap_append,List.take_append_drop]);rw [e2,e1,List.length_append,List.length_append];omega
theorem funC_len (ms:List Md) (m:Md) (d:Nat) (f:Fn'):(funC ms m d f).length≤1+wtFn d f:=by
 have h1:=foldCC_len ms m d (bodiesOf f.clauses) (lsL (looseF d f));have h2:=sumB d f.clauses
 have h3:(lsL (looseF d f)).length≤1:=by unfold lsL;split <;> simp
 have h4:(funC ms m d f).length≤(lsL (looseF d f)).length+((bodiesOf f.clauses).map fun y=>1+wtEx d y).sum:=h1;unfold wtFn;omega
theorem modP_len (ms:List Md) (d:Nat) (m:Md):(modP ms d m).length≤wtMd d m:=by
 have h1:=flat_lenG (exportP m) (fun _=>1) m.exports (fun r _=>by
  unfold exportP
  split
  · exact Nat.zero_le _
  · exact Nat.le_refl _)
 have h2:=flat_lenG (funP ms m d) (fun f=>1+wtFn d f) m.funs (fun f _=>by unfold funP;rw [List.length_map];exact funC_len ms m d f)
 have h3:∀ l:List Rf,(l.map fun _=>1).sum=l.length:=fun l=>by
  induction l with
  | nil=>rfl
  | cons y l ih=>simp only [List.map_cons,List.sum_cons,List.length_cons,ih];omega
 have h4:∀ l:List Fn',(l.map fun f=>1+wtFn d f).sum=l.length+(l.map (wtFn d)).sum:=fun l=>by
  induction l with
  | nil=>rfl
  | cons y l ih=>simp only [List.map_cons,List.sum_cons,List.length_cons,ih];omega
 rw [h3] at h1;rw [h4] at h2;simp only [modP,List.length_append,wtMd,wtS];omega
theorem allP_len (ms ms':List Md) (d:Nat):(ms'.flatMap (modP ms d)).length≤wtS (wtMd d) ms':=by
 have h1:=flat_lenG (modP ms d) (wtMd d) ms' (fun m _=>modP_len ms d m);unfold wtS;omega
theorem funC_okS {ms:List Md} {m:Md} {d:Nat} {f:Fn'} {c:ByteArray} (h:c ∈ funC ms m d f):okS c:=by
 rcases foldCC_mem ms m d (bodiesOf f.clauses) (lsL (looseF d f)) c h with h | h
 · exact okS_loose h
 · exact okS_code h
theorem okS_export:okS cExport:=by unfold okS;decide
theorem specCheck_any (d:Nat) (w:World) (v:Value) (ms:List Md) (h:Rows w All 3 (HMd w All d) v ms) (hw:wtS (wtMd d) ms≤16777216) :
 Calls prog 57 #[v] w fun e w'=>∃ u,e=.returned u∧OwnP w' w.heap.size u (checkP d ms)∧Bz w w':=by
 have HMS:Hid (∀ w',Bz w w'→Rows w' All 3 (HMd w' All d) v ms):=fun w' hw=>h.mono (sqO hw) (fun _ h=>h) (fun _ _ _ h=>h.mono (sqO hw) (fun _ h=>h));obtain ⟨p,cap,rfl,hcl,hcm,hx⟩:=h;have HX:=hid hx;have HLEN:Hid ((ms.flatMap (modP ms d)).length≤16777216):=Nat.le_trans (allP_len ms ms d) hw
 have HWM:Hid (∀ k m,ms[k]?=some m→wtMd d m≤16777216):=fun k m hk=>Nat.le_trans (by
  have h2:=sum_take_succ (wtMd d) ms k m hk;have h3:=sum_take_le (wtMd d) ms (k+1);unfold wtS
  omega) hw
 have HV:Hid (checkP d ms=if pgOk d ms then ms.flatMap (modP ms d) else []):=rfl;have hnb:=sqM hcl hcm;generalize hn:ms.length=n at *;have HN:=hid hn;have O1:Hid (OwnP (w.alloc (.cells #[] 141)) w.heap.size (.slice (some ⟨w.heap.size,0,none⟩) 0 0) []):=OwnG.fresh;have B1:Hid (Bz w (w.alloc (.cells #[] 141))):=(sqN _ _);clear hx hn hw;go_enter func57,ntmps57;go_wp2_with fail;refine (specProgramOk_any d _ _ ms (HMS.out _ B1.out)).mono ?_;rintro e w1 ⟨rfl,hb⟩;have O2:Hid (OwnP w1 w.heap.size (.slice (some ⟨w.heap.size,0,none⟩) 0 0) []):=O1.out.next hb;have B2:Hid (Bz w w1):=B1.out.trans (hb.mono B1.out.size);clear hb O1 B1
 cases hc:pgOk d ms with
 | false =>
  have HV2:Hid (checkP d ms = []):=(by show _=_;rw [HV.out,hc];rfl);go_wp2_with fail;go_ret;exact ⟨_,rfl,by rw [HV2.out];exact O2.out,B2.out⟩
 | true =>
  have HV2:Hid (checkP d ms=ms.flatMap (modP ms d)):=(by show _=_;rw [HV.out,hc];rfl);clear hc HV;go_wp2_with fail
  go_loopw [3,4] (fun ov iv wx=>∃ a:Nat,a≤n∧iv=.int .i64 a∧Hid (OwnP wx w.heap.size ov ((ms.take a).flatMap (modP ms d)))∧Hid (Bz w wx)) (fun _ iv _=>n - (intOf iv).toNat)
  case atStart=>exact ⟨0,Nat.zero_le _,rfl,by show OwnP _ _ _ _;simpa using O2.out,B2⟩
  case round =>
   obtain ⟨a,ha,rfl,ho,hb⟩:=hrel;clear O2 B2;by_cases hlt:a<n
   · obtain ⟨m,hmk⟩:=sqA (l:=ms) (k:=a) HN.out hlt
     obtain ⟨g,off,rfl,-,hgl,hat⟩:=HX.out (sqE hmk);obtain ⟨cs,hcsl,hcs,hm⟩:=hat a m hmk;have HMM:Hid (∀ w',Bz w w'→HMd w' All d cs m):=fun w' hw=>hm.mono (sqO hw) (fun _ h=>h);obtain ⟨ev,fv,rfl,hms,he,hf⟩:=hm;obtain ⟨pe,ce,rfl,hce,hcme,hxe⟩:=he;obtain ⟨pf,cf,rfl,hcf,hcmf,hxf⟩:=hf;have HXE:=hid hxe;have HXF:=hid hxf
     have HWF:Hid (∀ k f,m.funs[k]?=some f→wtFn d f≤16777216):=fun k f hk=>Nat.le_trans (by
      have h2:=sum_take_succ (wtFn d) m.funs k f hk;have h3:=sum_take_le (wtFn d) m.funs (k+1);unfold wtMd wtS
      omega) (HWM.out a m hmk)
     obtain ⟨a0,a1,a2⟩:=sqC3 hcs (by omega);rw [← hb.out.cell (p:=⟨g,_,none⟩) hgl] at a0 a1 a2;simp at a0 a1 a2;have hki:(a:Int)<(n:Int):=(by omega);have hk0:=sqI a;have hne:m.exports.length≤9223372036854775807:=(by unfold maxLen at hcme;omega);have hnf:m.funs.length≤9223372036854775807:=(by unfold maxLen at hcmf;omega);obtain ⟨HJ,HL⟩:=flat_takeG (modP ms d) ms a m hmk;have HJJ:Hid ((ms.take (a+1)).flatMap (modP ms d)=(ms.take a).flatMap (modP ms d) ++ (m.exports.flatMap (exportP m) ++ m.funs.flatMap (funP ms m d))):=HJ
     have HLL:Hid (((ms.take a).flatMap (modP ms d)).length+((m.exports.flatMap (exportP m)).length+(m.funs.flatMap (funP ms m d)).length)≤16777216):=by
      have h1:=HLEN.out;have h2:(modP ms d m).length=(m.exports.flatMap (exportP m)).length+(m.funs.flatMap (funP ms m d)).length:=(by simp only [modP,List.length_append]);show _≤_;omega
     generalize hA0:(ms.take a).flatMap (modP ms d)=A0 at *;generalize hn1:m.exports.length=ne at *;have HN1:=hid hn1;generalize hn2:m.funs.length=nf at *;have HN2:=hid hn2;obtain ⟨W5,hW5⟩:∃ W5,W5=wr.alloc (.cells #[.string m.name,.slice pe ne ce,.slice pf nf cf] 63):=⟨_,rfl⟩;obtain ⟨bm,hbm⟩:∃ bm,bm=wr.heap.size:=⟨_,rfl⟩;have b5:Hid (Blk W5 bm #[.string m.name,.slice pe ne ce,.slice pf nf cf] 63):=(by show Blk _ _ _ _;rw [hW5,hbm];exact Blk.new);have HB5:Hid (Bz w W5):=(by show Below _ _ _;rw [hW5];exact hb.out.alloc hb.out.size _);have HO5:Hid (OwnP W5 w.heap.size u3 A0):=(by show OwnP _ _ _ _;rw [hW5];exact ho.out.next ((sqN _ _)));have HW5:=hid hW5;have HBM:Hid (wr.heap.size=bm):=hbm.symm;have HMSN:=hid hms;clear hxe hxf hcs hcsl hat HJ HL hA0 ho hb hW5 hbm hms hn1 hn2 hmk;go_wp2_with fail;rw [← HW5.out,HBM.out];clear a0 a1 a2 HW5 HBM
     -- the exports
     go_loopw [3,6] (fun ov iv wx=>∃ k:Nat,k≤ne∧iv=.int .i64 k∧Hid (OwnP wx w.heap.size ov (A0 ++ (m.exports.take k).flatMap (exportP m)))∧Hid (Bz w wx)∧Hid (Blk wx bm #[.string m.name,.slice pe ne ce,.slice pf nf cf] 63)) (fun _ iv _=>ne - (intOf iv).toNat)
     case atStart=>exact ⟨0,Nat.zero_le _,rfl,by show OwnP _ _ _ _;simpa using HO5.out,HB5,b5⟩
     case round =>
      obtain ⟨k,hk,rfl,ho,hb,bb⟩:=hrel;clear HO5 HB5 b5;obtain ⟨x0,x1,x2⟩:=sqB3 bb.out;by_cases hlk:k<ne
      · obtain ⟨r,hrk⟩:∃ r,m.exports[k]?=some r:=⟨m.exports[k]'(by rw [HN1.out];exact hlk),List.getElem?_eq_getElem _⟩
        obtain ⟨g6,o6,rfl,-,hgl6,hat6⟩:=HXE.out (sqE hrk);obtain ⟨cs6,hcsl6,hcs6,rfl,hrs,hri⟩:=hat6 k r hrk;obtain ⟨a0,a1⟩:=sqC2 hcs6 (by omega);rw [← hb.out.cell (p:=⟨g6,_,none⟩) hgl6] at a0 a1;simp at a0 a1;have hki6:(k:Int)<(ne:Int):=(by omega);have hk06:=sqI k;obtain ⟨HJ,HL⟩:=flat_takeG (exportP m) m.exports k r hrk;have HJ6:Hid ((m.exports.take (k+1)).flatMap (exportP m)=(m.exports.take k).flatMap (exportP m) ++ exportP m r):=HJ
        have HL6:Hid ((A0 ++ (m.exports.take k).flatMap (exportP m)).length+(exportP m r).length≤16777216):=by
         have h1:=HLL.out;show _≤_;rw [List.length_append];omega
        have HEP:Hid (exportP m r=if hasF m r.name r.arity then [] else [⟨m.name,r.name,r.arity,cExport⟩]):=rfl;obtain ⟨rs,rn⟩:=r;simp only at *;have HPB:Hid (HPb [.string m.name,.string rs,.int .i64 rn,.string ⟨#[101,120,112,111,114,116]⟩] ⟨m.name,rs,rn,cExport⟩):=⟨rfl,HMSN.out,hrs,hri,okS_export⟩;obtain ⟨W6,hW6⟩:∃ W6,W6=wr.alloc (.cells #[.string rs,.int .i64 rn] 84):=⟨_,rfl⟩;obtain ⟨br,hbr⟩:∃ br,br=wr.heap.size:=⟨_,rfl⟩;have hbl:Bz wr W6:=(by rw [hW6];exact (sqN _ _));have br6:Hid (Blk W6 br #[.string rs,.int .i64 rn] 84):=(by show Blk _ _ _ _;rw [hW6,hbr];exact Blk.new);have bm6:Hid (Blk W6 bm #[.string m.name,.slice (some ⟨g6,o6,none⟩) ne ce,.slice pf nf cf] 63):=bb.out.next hbl;have HB6:Hid (Bz w W6):=hb.out.trans (hbl.mono hb.out.size);have HO6:Hid (OwnP W6 w.heap.size u3 (A0 ++ (m.exports.take k).flatMap (exportP m))):=ho.out.next hbl;have HW6:=hid hW6;have HBR:Hid (wr.heap.size=br):=hbr.symm;obtain ⟨y0,y1,y2⟩:=sqB3 bm6.out;rw [hW6] at y0 y1 y2;generalize hJ0:A0 ++ (m.exports.take k).flatMap (exportP m)=J at *;have HJ0:=hid hJ0;clear hcs6 hcsl6 hat6 HJ HL hW6 hbr hbl hJ0 hrk hrs hri ho hb bb;go_wp2_with fail;rw [← HW6.out];clear y0 y1 y2 x0 x1 x2 a0 a1;refine (l02FindI_any d _ _ m rs rn (HMM.out _ HB6.out)).mono ?_;rintro e w7 ⟨rfl,hb7⟩;have K7:=hid hb7;have br7:Hid (Blk w7 br #[.string rs,.int .i64 rn] 84):=br6.out.next hb7;have bm7:Hid (Blk w7 bm #[.string m.name,.slice (some ⟨g6,o6,none⟩) ne ce,.slice pf nf cf] 63):=bm6.out.next hb7;have HB7:Hid (Bz w w7):=HB6.out.trans (hb7.mono HB6.out.size);have HO7:Hid (OwnP w7 w.heap.size u3 J):=HO6.out.next hb7;clear hb7;rw [HBR.out];have y0:=bm7.out.cell 0 _ rfl;obtain ⟨r0,r1⟩:=sqB2 br7.out
        rcases findI_cases (sameR ⟨rs,rn⟩) m.funs with ⟨hf,hfi⟩ | ⟨q,z,hf,-,-,hfi,-⟩
        · rw [hfi]
          have HE2:Hid (exportP m ⟨rs,rn⟩ = [⟨m.name,rs,rn,cExport⟩]):=(by show _=_;rw [HEP.out,show hasF m rs rn=false from hf];rfl);clear hf hfi;go_wp2_with (at_builtin;refine wpList_append_one rfl _ _ 98 rfl _ 56 underlying98 info_pb rfl (by decide) HO7.out #[.string m.name,.string rs,.int .i64 rn,.string ⟨#[101,120,112,111,114,116]⟩] ⟨m.name,rs,rn,cExport⟩ HPB.out rfl (pb_oneCell _ _ HPB.out) rfl rfl (by have:=HL6.out;rw [HE2.out] at this;exact this) (by decide) ?_;intro v9 w9 ho9 hb9 hap9);have HO9:Hid (OwnP w9 w.heap.size v9 (A0 ++ (m.exports.take (k+1)).flatMap (exportP m))):=(by show OwnP _ _ _ _;rw [HJ6.out,← List.append_assoc,HJ0.out,HE2.out];exact ho9);have HB9:Hid (Bz w w9):=HB7.out.trans hb9;have b9:Hid (Blk w9 bm #[.string m.name,.slice (some ⟨g6,o6,none⟩) ne ce,.slice pf nf cf] 63):=hap9.blk bm7.out (by decide);clear ho9 hb9 hap9;go_wp2_with fail;exact ⟨⟨k+1,by omega,by go_num,HO9,HB9,b9⟩,by simp [intOf];omega⟩
        · rw [hfi]
          have HO9:Hid (OwnP w7 w.heap.size u3 (A0 ++ (m.exports.take (k+1)).flatMap (exportP m))):=(by show OwnP _ _ _ _;rw [HJ6.out,← List.append_assoc,HJ0.out,HEP.out,show hasF m rs rn=true from hf];simpa using HO7.out);have hq0:¬ (q:Int)<0:=(by omega);clear hf hfi;go_wp2_with fail;exact ⟨⟨k+1,by omega,by go_num,HO9,HB7,bm7⟩,by simp [intOf];omega⟩
      · have HO5:Hid (OwnP wr w.heap.size u3 (A0 ++ m.exports.flatMap (exportP m))):=by
         have:=ho.out
         rwa [show m.exports.take k=m.exports from List.take_of_length_le (by rw [HN1.out];omega)] at this
        have HLF:Hid ((A0 ++ m.exports.flatMap (exportP m)).length+(m.funs.flatMap (funP ms m d)).length≤16777216):=by
         have h1:=HLL.out;show _≤_;rw [List.length_append];omega
        have HJF:Hid ((ms.take (a+1)).flatMap (modP ms d)=(A0 ++ m.exports.flatMap (exportP m)) ++ m.funs.flatMap (funP ms m d)):=(by show _=_;rw [HJJ.out,List.append_assoc]);generalize A0 ++ m.exports.flatMap (exportP m)=A1 at *;clear ho HJJ HLL HXE HN1;go_wp2_with fail;clear x0 x1 x2 hlk hk
        -- the functions
        go_loopw [3,8] (fun ov iv wx=>∃ k:Nat,k≤nf∧iv=.int .i64 k∧Hid (OwnP wx w.heap.size ov (A1 ++ (m.funs.take k).flatMap (funP ms m d)))∧Hid (Bz w wx)∧Hid (Blk wx bm #[.string m.name,.slice pe ne ce,.slice pf nf cf] 63)) (fun _ iv _=>nf - (intOf iv).toNat)
        case atStart=>exact ⟨0,Nat.zero_le _,rfl,by show OwnP _ _ _ _;simpa using HO5.out,hb,bb⟩
        case round =>
         obtain ⟨k,hk,rfl,ho,hb,bb⟩:=hrel;clear HO5;obtain ⟨x0,x1,x2⟩:=sqB3 bb.out;by_cases hlk:k<nf
         · obtain ⟨f,hfk⟩:∃ f,m.funs[k]?=some f:=⟨m.funs[k]'(by rw [HN2.out];exact hlk),List.getElem?_eq_getElem _⟩
           obtain ⟨g6,o6,rfl,-,hgl6,hat6⟩:=HXF.out (sqE hfk);obtain ⟨cs6,hcsl6,hcs6,hf⟩:=hat6 k f hfk;have HFF:Hid (∀ w',Bz w w'→HFn w' All d cs6 f):=fun w' hw=>hf.mono (sqO hw) (fun _ h=>h);have HCELL:Hid (∀ w',Bz w w'→∀ j,j<3→w'.cell? ⟨g6,o6+k * 3+j,none⟩=cs6[j]?):=fun w' hw j hj=>(hw.cell (p:=⟨g6,_,none⟩) hgl6).trans (hcs6 j hj);obtain ⟨fv6,rfl,hfs,hfi,p6,q6,rfl,-⟩:=hf;have a0:=HCELL.out _ hb.out 0 (by omega);have a1:=HCELL.out _ hb.out 1 (by omega);have a2:=HCELL.out _ hb.out 2 (by omega);simp at a0 a1 a2;have hki6:(k:Int)<(nf:Int):=(by omega);have hk06:=sqI k;obtain ⟨HJ,HL⟩:=flat_takeG (funP ms m d) m.funs k f hfk;have HJ6:Hid (A1 ++ (m.funs.take (k+1)).flatMap (funP ms m d)=(A1 ++ (m.funs.take k).flatMap (funP ms m d)) ++ funP ms m d f):=(by show _=_;rw [HJ,List.append_assoc])
           have HL6:Hid ((A1 ++ (m.funs.take k).flatMap (funP ms m d)).length+(funP ms m d f).length≤16777216):=by
            have h1:=HLF.out;show _≤_;rw [List.length_append];omega
           have HFP:Hid (funP ms m d f=(funC ms m d f).map fun c=>⟨m.name,f.name,f.arity,c⟩):=rfl;have HPB:Hid (∀ c,c ∈ funC ms m d f→HPb [.string m.name,.string f.name,.int .i64 f.arity,.string c] ⟨m.name,f.name,f.arity,c⟩):=fun c hc=>⟨rfl,HMSN.out,hfs,hfi,funC_okS hc⟩
           have CF:Hid (∀ w',Bz wr w'→Calls prog 102 #[.slice (some ⟨g,off,none⟩) n cap,.agg #[.string m.name,.slice pe ne ce,.slice (some ⟨g6,o6,none⟩) nf cf],.agg #[.string f.name,.int .i64 f.arity,.slice p6 f.clauses.length q6]] w' fun e w''=>∃ u,e=.returned u∧OwnS w'' w'.heap.size u (funC ms m d f)∧Below w'.heap.size w' w''):=fun w' hw'=>by
            have hb9:Bz w w':=hb.out.trans (hw'.mono hb.out.size);exact l05Fun_any d w' _ ms _ m _ f (HMS.out w' hb9) (HMM.out w' hb9) (HFF.out w' hb9) (HWF.out k f hfk)
           generalize hJ0:A1 ++ (m.funs.take k).flatMap (funP ms m d)=J at *;clear hcs6 hcsl6 hat6 HJ HL hJ0 hfs hfi;go_wp2_with fail
           go_region_law
            (first
             | (go_simp;go_at_call 102;refine (CF.out _ (by exact (Below.refl _ _).drew)).mono ?_;rintro e w7 ⟨u7,rfl,o7,hb7⟩;have K7:Hid (Bz wr w7):=⟨hb7.os,hb7.tape,hb7.output,hb7.size,hb7.block⟩;have O7:Hid (w7.ownsRow 0 9 1 u7 (funC ms m d f).length (strs (funC ms m d f))):=owns_base o7.1;clear hb7 o7;dsimp only))
           all_goals
            obtain ⟨p7,q7,rfl,hcm7⟩:=owns_slice O7.out;have hn7:(funC ms m d f).length≤9223372036854775807:=(by unfold maxLen at hcm7;omega);generalize hC0:funC ms m d f=C at *;generalize hnC:C.length=nC at *;have HNC:=hid hnC;have HO7:Hid (OwnP w7 w.heap.size u3 J):=ho.out.next K7.out;have HB7:Hid (Bz w w7):=hb.out.trans (K7.out.mono hb.out.size);have b7:Hid (Blk w7 bm #[.string m.name,.slice pe ne ce,.slice (some ⟨g6,o6,none⟩) nf cf] 63):=bb.out.next K7.out;clear x0 x1 x2 a0 a1 a2 ho hb bb K7 hC0 hnC CF hcm7;go_wp2_with fail
            -- the codes
            go_loopw [3,10] (fun ov iv wx=>∃ j:Nat,j≤nC∧iv=.int .i64 j∧Hid (OwnP wx w.heap.size ov (J ++ (C.take j).map fun c=>⟨m.name,f.name,f.arity,c⟩))∧Hid (Bz w wx)∧Hid (Blk wx bm #[.string m.name,.slice pe ne ce,.slice (some ⟨g6,o6,none⟩) nf cf] 63)∧Hid (wx.ownsRow 0 9 1 (.slice p7 nC q7) nC (strs C))) (fun _ iv _=>nC - (intOf iv).toNat)
            case atStart=>exact ⟨0,Nat.zero_le _,rfl,by show OwnP _ _ _ _;simpa using HO7.out,HB7,b7,O7⟩
            case round =>
             obtain ⟨j,hj,rfl,ho,hb,bb,oc⟩:=hrel;clear HO7 HB7 b7 O7;by_cases hlj:j<nC
             · obtain ⟨c,hcj⟩:∃ c,C[j]?=some c:=⟨C[j]'(by rw [HNC.out];exact hlj),List.getElem?_eq_getElem _⟩
               obtain ⟨g8,rfl⟩:=owns_some oc.out (by omega);have a8':(strs C)[j]?=some (.string c):=(by simp [strs,hcj]);have a8:=(oc.out.cellAt j (by omega)).trans a8';obtain ⟨x0,x1,x2⟩:=sqB3 bb.out;have a0:=HCELL.out _ hb.out 0 (by omega);have a1:=HCELL.out _ hb.out 1 (by omega);simp at a0 a1;have hji:(j:Int)<(nC:Int):=(by omega);have hj0:=sqI j;have HPC:=HPB.out c (List.mem_of_getElem? hcj);have HPC2:Hid (HPb [.string m.name,.string f.name,.int .i64 f.arity,.string c] ⟨m.name,f.name,f.arity,c⟩):=HPC
               have HJ9:Hid (J ++ ((C.take (j+1)).map fun c=>(⟨m.name,f.name,f.arity,c⟩:Pb))=(J ++ (C.take j).map fun c=>⟨m.name,f.name,f.arity,c⟩) ++ [⟨m.name,f.name,f.arity,c⟩]):=by
                show _=_;rw [List.take_add_one,hcj];simp
               have HL9:Hid ((J ++ ((C.take j).map fun c=>(⟨m.name,f.name,f.arity,c⟩:Pb))).length+1≤16777216):=by
                have h1:=HL6.out;rw [HFP.out,List.length_map,HNC.out] at h1;show _≤_;rw [List.length_append,List.length_map,List.length_take];omega
               generalize (J ++ ((C.take j).map fun c=>(⟨m.name,f.name,f.arity,c⟩:Pb)))=J9 at *;clear HPC hcj;have HOA:Hid (OwnP (wr.alloc (.cells #[.string m.name,.string f.name,.int .i64 f.arity,.string c] 141)).drew w.heap.size u3 J9):=ho.out.next ((sqN _ _)).drew;have HGA:Hid ((wr.alloc (.cells #[.string m.name,.string f.name,.int .i64 f.arity,.string c] 141)).drew.heap[wr.heap.size]?=some (Obj.cells #[.string m.name,.string f.name,.int .i64 f.arity,.string c] 141 (0,0))):=heap_alloc_new wr _;have HBA:Hid (Bz w (wr.alloc (.cells #[.string m.name,.string f.name,.int .i64 f.arity,.string c] 141)).drew):=(hb.out.alloc hb.out.size _).drew;have HAA:Hid (ApartE 141 wr (wr.alloc (.cells #[.string m.name,.string f.name,.int .i64 f.arity,.string c] 141)).drew):=ApartE.of_below ((sqN _ _)).drew
               have NXT:Hid (∀ w9,Below w.heap.size (wr.alloc (.cells #[.string m.name,.string f.name,.int .i64 f.arity,.string c] 141)).drew w9→ApartE 141 (wr.alloc (.cells #[.string m.name,.string f.name,.int .i64 f.arity,.string c] 141)).drew w9→w9.cell? ⟨bm,0,none⟩=some (.string m.name)∧w9.cell? ⟨bm,2,none⟩=some (.slice (some ⟨g6,o6,none⟩) nf cf)∧w9.cell? ⟨g6,o6+k * 3,none⟩=some (.string f.name)∧w9.cell? ⟨g6,o6+k * 3+1,none⟩=some (.int .i64 f.arity)∧w9.cell? ⟨g8,j,none⟩=some (.string c)):=fun w9 hb9 hap9=>by
                have q0:=(HAA.out.trans hap9).blk bb.out (by decide);have q1:=HCELL.out w9 (HBA.out.trans hb9);have q2:=(HAA.out.trans hap9).owns oc.out (by decide);exact ⟨q0.cell 0 _ rfl,q0.cell 2 _ rfl,by simpa using q1 0 (by omega),by simpa using q1 1 (by omega),(q2.cellAt j (by omega)).trans a8'⟩
               clear x1;go_wp2_with fail
               go_region_held3 (fun w'=>w'.cell? ⟨bm,0,none⟩=some (.string m.name)∧w'.cell? ⟨bm,2,none⟩=some (.slice (some ⟨g6,o6,none⟩) nf cf)∧w'.cell? ⟨g6,o6+k * 3,none⟩=some (.string f.name)∧w'.cell? ⟨g6,o6+k * 3+1,none⟩=some (.int .i64 f.arity)∧w'.cell? ⟨g8,j,none⟩=some (.string c))
                (first | go_keep | (go_split_ands;refine ⟨?_,?_,?_,?_,?_⟩ <;> exact cell_next ((sqN _ _)) (by assumption)) | exact nx9)
                (first
                 | (refine step_append_blk (by rfl) _ _ _ (by rfl) _ 56 underlying98 info_pb rfl (by decide) HOA.out wr.heap.size #[.string m.name,.string f.name,.int .i64 f.arity,.string c] HGA.out ⟨m.name,f.name,f.arity,c⟩ HPC2.out rfl (pb_oneCell _ _ HPC2.out) (by rfl) (by rfl) HL9.out (by decide) ?_;intro v9 w9 ho9 hb9 hap9;have nx9:=NXT.out w9 hb9 hap9))
               all_goals
                have HO9:Hid (OwnP w9 w.heap.size v9 (J ++ (C.take (j+1)).map fun c=>⟨m.name,f.name,f.arity,c⟩)):=(by show OwnP _ _ _ _;rw [HJ9.out];exact ho9);have HB9:Hid (Bz w w9):=HBA.out.trans hb9;have b9:Hid (Blk w9 bm #[.string m.name,.slice pe ne ce,.slice (some ⟨g6,o6,none⟩) nf cf] 63):=(HAA.out.trans hap9).blk bb.out (by decide);have oc9:Hid (w9.ownsRow 0 9 1 (.slice (some ⟨g8,0,none⟩) nC q7) nC (strs C)):=(HAA.out.trans hap9).owns oc.out (by decide);clear ho9 hb9 hap9;go_wp2_with fail;exact ⟨⟨j+1,by omega,by go_num,HO9,HB9,b9,oc9⟩,by simp [intOf];omega⟩
             · have HO9:Hid (OwnP wr w.heap.size u3 (A1 ++ (m.funs.take (k+1)).flatMap (funP ms m d))):=by
                have h1:=ho.out;rw [show C.take j=C from List.take_of_length_le (by rw [HNC.out];omega)] at h1;show OwnP _ _ _ _;rw [HJ6.out,HFP.out];exact h1
               clear ho;go_wp2_with fail;exact ⟨⟨k+1,by omega,by go_num,HO9,hb,bb⟩,by simp [intOf];omega⟩
         · have HO9:Hid (OwnP wr w.heap.size u3 ((ms.take (a+1)).flatMap (modP ms d))):=by
            have h1:=ho.out;rw [show m.funs.take k=m.funs from List.take_of_length_le (by rw [HN2.out];omega)] at h1;show OwnP _ _ _ _;rw [HJF.out];exact h1
           clear ho;go_wp2_with fail;exact ⟨⟨a+1,by omega,by go_num,HO9,hb⟩,by simp [intOf];omega⟩
   · have HR:Hid (OwnP wr w.heap.size u3 (checkP d ms)):=by
      have h1:=ho.out;rw [show ms.take a=ms from List.take_of_length_le (by rw [HN.out];omega)] at h1;show OwnP _ _ _ _;rw [HV2.out];exact h1
     clear ho;go_wp2_with fail;go_ret;exact ⟨_,rfl,HR.out,hb.out⟩
end Go.Proofs.YtdhlonogmnkemaaGreatDoor
namespace Go.Proofs.YtdhlonogmnkemaaGreatDoor
open Go.ChangeShapes Go.WideShapes Go.ChangeAt Go.RowKit
set_option linter.unusedVariables false
set_option maxRecDepth 100000
def preX:Nat→Ex→List Ex
 | 0,_=>[]
 | d+1,x=>x :: (x.kids.flatMap (preX d) ++ x.clauses.flatMap fun c=>c.1.flatMap (preX d) ++ c.2.flatMap (preX d))
structure Mv (M M':Nat→Prop) (w w':World):Prop where
 os:w'.os=w.os
 tape:w'.tape=w.tape
 output:w'.output=w.output
 size:w.heap.size≤w'.heap.size
 block:∀ g,g<w.heap.size→¬ M g→w'.heap[g]?=w.heap[g]?
 more:∀ g,M' g→M g∨w.heap.size≤g
theorem Mv.refl (M:Nat→Prop) (w:World):Mv M M w w:=⟨rfl,rfl,rfl,Nat.le_refl _,fun _ _ _=>rfl,fun _ h=>Or.inl h⟩
theorem Mv.trans {M M' M'':Nat→Prop} {a b c:World} (h:Mv M M' a b) (k:Mv M' M'' b c):Mv M M'' a c :=
 ⟨k.os.trans h.os,k.tape.trans h.tape,k.output.trans h.output,Nat.le_trans h.size k.size,fun g hg hm=>by
  refine (k.block g (Nat.lt_of_lt_of_le hg h.size) (fun e=>?_)).trans (h.block g hg hm)
  rcases h.more g e with e | e
  · exact hm e
  · omega,fun g hg=>by
  rcases k.more g hg with e | e
  · exact h.more g e
  · exact Or.inr (Nat.le_trans h.size e)⟩
theorem Mv.of_below {M:Nat→Prop} {a b:World} (h:Bz a b):Mv M M a b:=⟨h.os,h.tape,h.output,h.size,fun g hg _=>h.block g hg,fun _ h=>Or.inl h⟩
theorem Mv.below {M M':Nat→Prop} {a b:World} {N:Nat} (h:Mv M M' a b) (hM:∀ g,M g→N≤g) (hN:N≤a.heap.size):Below N a b :=
 ⟨h.os,h.tape,h.output,h.size,fun g hg=>h.block g (by omega) (fun e=>by have:=hM g e;omega)⟩
theorem Mv.sameOn {M M' S:Nat→Prop} {a b:World} (h:Mv M M' a b) (hS:∀ g,S g→¬ M g):SameOn S a b:=⟨h.size,fun g hs hg=>h.block g hg (hS g hs)⟩
theorem Mv.blk {M M':Nat→Prop} {a b:World} {g:Nat} {cs:Array Value} {t:TypeId} (h:Mv M M' a b) (hb:Blk a g cs t) (hM:¬ M g):Blk b g cs t:=(h.block g hb.lt hM).trans hb
section
variable {σ:Type}
def Runs (ok:σ→Ex→Prop) (st:σ→Ex→σ):σ→List Ex→Prop
 | _,[]=>True
 | s,x :: l=>ok s x∧Runs ok st (st s x) l
theorem Runs.append {ok:σ→Ex→Prop} {st:σ→Ex→σ}:∀ {s:σ} {a b:List Ex},Runs ok st s (a ++ b) ↔ Runs ok st s a∧Runs ok st (a.foldl st s) b
 | s,[],b=>by simp [Runs]
 | s,x :: a,b=>by simp [Runs,Runs.append (s:=st s x) (a:=a) (b:=b),and_assoc]
theorem Runs.take {ok:σ→Ex→Prop} {st:σ→Ex→σ} {s:σ} {α:Type} {f:α→List Ex} {l:List α} (k:Nat) (x:α) (h:Runs ok st s (l.flatMap f)) (hk:l[k]?=some x) :
 Runs ok st (((l.take k).flatMap f).foldl st s) (f x)∧(((l.take (k+1)).flatMap f).foldl st s)=(f x).foldl st (((l.take k).flatMap f).foldl st s):=by
 have e1:(l.take (k+1)).flatMap f=(l.take k).flatMap f ++ f x:=(by rw [List.take_add_one,hk];simp);have e2:l.flatMap f=(l.take (k+1)).flatMap f ++ (l.drop (k+1)).flatMap f:=(by rw [← List.flatMap_append,List.take_append_drop]);rw [e2,e1,List.append_assoc,Runs.append,Runs.append] at h;exact ⟨h.2.1,by rw [e1,List.foldl_append]⟩
structure Tells (F:FuncId) (tb:Nat) (I:World→(Nat→Prop)→σ→Prop) (ok:σ→Ex→Prop) (st:σ→Ex→σ) (S:Nat→Prop):Prop where
 off:∀ w M s,I w M s→(∀ g,S g→¬ M g)∧(∀ g,M g→g<w.heap.size)∧(∀ g,S g→g<w.heap.size)
 next:∀ w w' M s,I w M s→Bz w w'→I w' M s
 call:∀ w M s d cs x,I w M s→HEx w S d cs x→ok s x→Calls Tryz.prog F #[.agg cs.toArray,.pointer (some ⟨tb,0,none⟩)] w fun e w'=>e=.returned (.tuple #[])∧∃ M',I w' M' (st s x)∧Mv M M' w w'
end
end Go.Proofs.YtdhlonogmnkemaaGreatDoor
namespace Go.Proofs.YtdhlonogmnkemaaGreatDoor
open Go.ChangeShapes Go.WideShapes Go.ChangeAt Go.RowKit Go.Proofs.Tryz
set_option linter.unusedVariables false
set_option maxRecDepth 100000
section
variable {σ:Type} {tb:Nat} {I:World→(Nat→Prop)→σ→Prop} {ok:σ→Ex→Prop} {st:σ→Ex→σ} {S:Nat→Prop}
abbrev FVC (tb:Nat):Value:=.func (.func 213) #[] #[.pointer (some ⟨tb,0,none⟩)]
theorem shapeC {w:World} {S:Nat→Prop} {d:Nat} {cs:List Value} {x:Ex} (h:HEx w S d cs x):∃ sk sn st se p1 n1 q1 p2 n2 q2,cs = [.int .i64 sk,.int .i64 sn,.string st,.string se,.slice p1 n1 q1,.slice p2 n2 q2]:=by
 cases d with
 | zero=>exact h.elim
 | succ d =>
  obtain ⟨kv,cv,rfl,_,_,_,_,⟨p1,c1,rfl,_⟩,⟨p2,c2,rfl,_⟩⟩:=h;exact ⟨_,_,_,_,_,_,_,_,_,_,rfl⟩
def EeTC (tb:Nat) (I:World→(Nat→Prop)→σ→Prop) (ok:σ→Ex→Prop) (st:σ→Ex→σ) (S:Nat→Prop) (d:Nat):Prop:=∀ (w:World) (M:Nat→Prop) (s:σ) (cs:List Value) (x:Ex),HEx w S d cs x→I w M s→Runs ok st s (preX d x) →
 Calls prog 157 #[.agg cs.toArray,FVC tb] w fun e w'=>e=.returned (.tuple #[])∧∃ M',I w' M' ((preX d x).foldl st s)∧Mv M M' w w'
def EoTC (tb:Nat) (I:World→(Nat→Prop)→σ→Prop) (ok:σ→Ex→Prop) (st:σ→Ex→σ) (S:Nat→Prop) (d:Nat):Prop:=∀ (w:World) (M:Nat→Prop) (s:σ) (v:Value) (es:List Ex),Rows w S 6 (HEx w S d) v es→I w M s→Runs ok st s (es.flatMap (preX d)) →
 Calls prog 193 #[v,FVC tb] w fun e w'=>e=.returned (.tuple #[])∧∃ M',I w' M' ((es.flatMap (preX d)).foldl st s)∧Mv M M' w w'
theorem eachOfC_of (T:Tells 213 tb I ok st S) {d:Nat} (hE:EeTC tb I ok st S d):EoTC tb I ok st S d:=by
 intro w M s v es hr hv hK;obtain ⟨p,cap,rfl,hcl,hcm,hx⟩:=hr;have hnb:=sqM hcl hcm;have HX:=hid hx;have HV:=hid hv;have HK:=hid hK;have HOF:Hid (∀ g,S g→¬ M g):=(T.off w M s hv).1;generalize hn:es.length=n at *;have HN:=hid hn;clear hx hv hK hn;go_enter func193,ntmps193;go_wp2_with fail
 go_loopw [8] (fun iv wr=>∃ k:Nat,k≤n∧iv=.int .i64 k∧Hid (∃ M',I wr M' (((es.take k).flatMap (preX d)).foldl st s)∧Mv M M' w wr)) (fun iv _=>n - (intOf iv).toNat)
 case atStart=>exact ⟨0,Nat.zero_le _,rfl,⟨M,by simpa using HV.out,Mv.refl _ _⟩⟩
 case round =>
  obtain ⟨k,hk,rfl,HVk⟩:=hrel;obtain ⟨Mk,ik,mk⟩:=HVk.out;have IK:=hid ik;have MK:=hid mk;clear HVk ik mk;by_cases hlt:k<n
  · obtain ⟨x,hxk⟩:=sqA (l:=es) (k:=k) HN.out hlt
    obtain ⟨g,off,rfl,hgm,hgl,hat⟩:=HX.out (sqE hxk);obtain ⟨cs,hcsl,hcs,r1⟩:=hat k x hxk;have SK:=hid (MK.out.sameOn HOF.out);have E1:=hid (r1.mono SK.out (fun _ h=>h));obtain ⟨c0,c1,c2,c3,c4,c5,rfl⟩:=len6 hcsl;have hge:wr.heap[g]?=w.heap[g]?:=SK.out.2 g hgm hgl;have a0:=(sqK (a:=⟨g,off+k * 6+0,none⟩) hge).trans (hcs 0 (by omega));have a1:=(sqK (a:=⟨g,off+k * 6+1,none⟩) hge).trans (hcs 1 (by omega));have a2:=(sqK (a:=⟨g,off+k * 6+2,none⟩) hge).trans (hcs 2 (by omega));have a3:=(sqK (a:=⟨g,off+k * 6+3,none⟩) hge).trans (hcs 3 (by omega));have a4:=(sqK (a:=⟨g,off+k * 6+4,none⟩) hge).trans (hcs 4 (by omega));have a5:=(sqK (a:=⟨g,off+k * 6+5,none⟩) hge).trans (hcs 5 (by omega));simp at a0 a1 a2 a3 a4 a5;obtain ⟨hr1,hj1⟩:=Runs.take k x HK.out hxk;have HR1:=hid hr1;have HJ1:=hid hj1;generalize ((es.take k).flatMap (preX d)).foldl st s=sk at *;have hki:(k:Int)<(n:Int):=(by omega);have hk0:=sqI k;clear hat hcs hcsl r1 hge hr1 hj1;obtain ⟨sk',sn,st0,se,p1,n1,q1,p2,n2,q2,hsh⟩:=shapeC E1.out;simp only [List.cons.injEq,and_true] at hsh;obtain ⟨rfl,rfl,rfl,rfl,rfl,rfl⟩:=hsh;have HBA:Hid (Bz wr (wr.alloc (.cells #[.int .i64 sk',.int .i64 sn,.string st0,.string se,.slice p1 n1 q1,.slice p2 n2 q2] 76))):=(sqN _ _);go_wp2_with fail;refine (hE _ Mk sk _ x (E1.out.mono (sqO HBA.out) (fun _ h=>h)) (T.next _ _ _ _ IK.out HBA.out) HR1.out).mono ?_;rintro e w1 ⟨rfl,M1,i1,m1⟩;have HI1:Hid (∃ M',I w1 M' (((es.take (k+1)).flatMap (preX d)).foldl st s)∧Mv M M' w w1):=⟨M1,by rw [HJ1.out];exact i1,(MK.out.trans (Mv.of_below HBA.out)).trans m1⟩;clear i1 m1;go_wp2_with fail;exact ⟨⟨k+1,by omega,by go_num,HI1⟩,by simp [intOf];omega⟩
  · have HS:Hid (∃ M',I wr M' ((es.flatMap (preX d)).foldl st s)∧Mv M M' w wr):=⟨Mk,by
     have:=IK.out
     rwa [show es.take k=es from List.take_of_length_le (by rw [HN.out];omega)] at this,MK.out⟩
    go_wp2_with fail;go_end0;exact ⟨rfl,HS.out⟩
theorem eachExpC_of (T:Tells 213 tb I ok st S) {d:Nat} (hO:EoTC tb I ok st S d):EeTC tb I ok st S (d+1):=by
 intro w M s cs x h hv hK;have HEX:=hid h;obtain ⟨kv,cv,rfl,-,-,-,-,f0,f1⟩:=h;have hpre:preX (d+1) x=x :: (x.kids.flatMap (preX d) ++ x.clauses.flatMap fun c=>c.1.flatMap (preX d) ++ c.2.flatMap (preX d)):=rfl;rw [hpre] at hK ⊢;simp only [List.foldl_cons,List.foldl_append];obtain ⟨hk0,hK⟩:=hK;rw [Runs.append] at hK;have HK0:=hid hk0;have HK1:=hid hK.1;have HK2:=hid hK.2;have HX0:Hid (∀ w' d',HEx w' S d' [.int .i64 x.kind,.int .i64 x.n,.string x.text,.string x.mod,kv,cv] x→True):=fun _ _ _=>trivial;have HOF:Hid ((∀ g,S g→¬ M g)∧(∀ g,M g→g<w.heap.size)):=⟨(T.off w M s hv).1,(T.off w M s hv).2.1⟩;have F0:=hid f0;obtain ⟨p,cap,rfl,-⟩:=id f0;obtain ⟨pc,capc,rfl,hcl',hcm',hxc⟩:=f1;have hnc:=sqM hcl' hcm';have HXC:=hid hxc;generalize hx1:x.kind=kx at *;generalize hx2:x.n=nx at *;generalize hx3:x.text=tx at *;generalize hx4:x.mod=mx at *;generalize hx5:x.kids=ks at *;generalize hx6:x.clauses=cl at *;clear hx1 hx2 hx3 hx4 hx5 hx6 HX0;generalize hm:cl.length=nc at *;have HNC:=hid hm;have HBA:Hid (Bz w (w.alloc (.cells #[.int .i64 kx,.int .i64 nx,.string tx,.string mx,.slice p ks.length cap,.slice pc nc capc] 76))):=(sqN _ _);have HV:=hid (T.next _ _ _ _ hv HBA.out);have bA:Hid (Blk (w.alloc (.cells #[.int .i64 kx,.int .i64 nx,.string tx,.string mx,.slice p ks.length cap,.slice pc nc capc] 76)) w.heap.size #[.int .i64 kx,.int .i64 nx,.string tx,.string mx,.slice p ks.length cap,.slice pc nc capc] 76):=Blk.new
 have nA:Hid (¬ M w.heap.size):=fun e=>by have:=HOF.out.2 _ e;omega
 clear f0 hxc hm hpre hv hK hk0;go_enter func157,ntmps157;go_wp2_with fail;refine (T.call _ M s (d+1) _ x HV.out (HEX.out.mono (sqO HBA.out) (fun _ h=>h)) HK0.out).mono ?_;rintro e w1 ⟨rfl,M1,i1,m1⟩;have HV1:=hid i1;have HM1:Hid (Mv M M1 w w1):=(Mv.of_below HBA.out).trans m1;have b1:=hid (m1.blk bA.out nA.out)
 have n1':Hid (¬ M1 w.heap.size):=fun e=>by
  rcases m1.more _ e with e | e
  · exact nA.out e
  · rw [alloc_hs] at e;omega
 have x4:=b1.out.cell 4 _ rfl;clear i1 m1 HV bA;go_wp2_with fail;refine (hO _ M1 (st s x) _ ks (Rows.mono F0.out (HM1.out.sameOn HOF.out.1) (fun _ h=>h) (fun _ _ _ h=>h.mono (HM1.out.sameOn HOF.out.1) (fun _ h=>h))) HV1.out HK1.out).mono ?_;rintro e w2 ⟨rfl,M2,i2,m2⟩;have HV2:=hid i2;have HM2:=hid (HM1.out.trans m2);have b2:=hid (m2.blk b1.out n1'.out);have x5:=b2.out.cell 5 _ rfl;clear i2 m2 x4 b1 HV1 HM1 n1';generalize hs2:(ks.flatMap (preX d)).foldl st (st s x)=s2 at *;have HS2:=hid hs2;clear hs2;go_wp2_with fail
 go_loopw [16] (fun iv wr=>∃ k:Nat,k≤nc∧iv=.int .i64 k∧Hid (∃ M',I wr M' (((cl.take k).flatMap fun c=>c.1.flatMap (preX d) ++ c.2.flatMap (preX d)).foldl st s2)∧Mv M M' w wr)) (fun iv _=>nc - (intOf iv).toNat)
 case atStart=>exact ⟨0,Nat.zero_le _,rfl,⟨M2,by simpa using HV2.out,HM2.out⟩⟩
 case round =>
  obtain ⟨k,hk,rfl,HVk⟩:=hrel;obtain ⟨Mk,ik,mk⟩:=HVk.out;have IK:=hid ik;have MK:=hid mk;clear x5 HV2 HM2 b2 HVk ik mk;by_cases hlt:k<nc
  · obtain ⟨c,hck⟩:∃ c,cl[k]?=some c:=⟨cl[k]'(by rw [HNC.out];exact hlt),List.getElem?_eq_getElem _⟩
    obtain ⟨g,off,rfl,hgm,hgl,hat⟩:=HXC.out (sqE hck);obtain ⟨cs,hcsl,hcs,pv,bv,rfl,rp,rb⟩:=hat k c hck;have SK:=hid (MK.out.sameOn HOF.out.1);have RP:=hid (Rows.mono rp SK.out (fun _ h=>h) (fun _ _ _ h=>h.mono SK.out (fun _ h=>h)));have RB:=hid (Rows.mono rb SK.out (fun _ h=>h) (fun _ _ _ h=>h.mono SK.out (fun _ h=>h)));obtain ⟨pp,capp,rfl,-⟩:=rp;obtain ⟨pb,capb,rfl,-⟩:=rb;have hge:wr.heap[g]?=w.heap[g]?:=SK.out.2 g hgm hgl;have a0:=(sqK (a:=⟨g,off+k * 2+0,none⟩) hge).trans (hcs 0 (by omega));have a1:=(sqK (a:=⟨g,off+k * 2+1,none⟩) hge).trans (hcs 1 (by omega));simp at a0 a1;obtain ⟨hr1,hj1⟩:=Runs.take k c HK2.out hck;rw [Runs.append] at hr1;rw [List.foldl_append] at hj1;generalize ((cl.take k).flatMap fun c=>c.1.flatMap (preX d) ++ c.2.flatMap (preX d)).foldl st s2=sk at *;have HR1:=hid hr1.1;have HR2:=hid hr1.2;have HJ1:=hid hj1;have hki:(k:Int)<(nc:Int):=(by omega);have hk0:=sqI k;have HOK:Hid ((∀ g,S g→¬ Mk g)∧¬ Mk wr.heap.size):=⟨(T.off wr Mk sk IK.out).1,fun e=>by have:=(T.off wr Mk sk IK.out).2.1 _ e;omega⟩;have HBC:Hid (Bz wr (wr.alloc (.cells #[.slice pp c.1.length capp,.slice pb c.2.length capb] 46))):=(sqN _ _);have bC:Hid (Blk (wr.alloc (.cells #[.slice pp c.1.length capp,.slice pb c.2.length capb] 46)) wr.heap.size #[.slice pp c.1.length capp,.slice pb c.2.length capb] 46):=Blk.new;clear hat hcs hcsl hge hr1 hj1;go_wp2_with fail;refine (hO _ Mk sk _ c.1 (Rows.mono RP.out (sqO HBC.out) (fun _ h=>h) (fun _ _ _ h=>h.mono (sqO HBC.out) (fun _ h=>h))) (T.next _ _ _ _ IK.out HBC.out) HR1.out).mono ?_;rintro e w3 ⟨rfl,M3,i3,m3⟩;have HV3:=hid i3;have HM3:Hid (Mv Mk M3 wr w3):=(Mv.of_below HBC.out).trans m3;have b3:Blk w3 wr.heap.size #[.slice pp c.1.length capp,.slice pb c.2.length capb] 46:=m3.blk bC.out HOK.out.2;have y1:=b3.cell 1 _ rfl;clear i3 m3 bC b3 a0 a1;go_wp2_with fail;refine (hO _ M3 ((c.1.flatMap (preX d)).foldl st sk) _ c.2 (Rows.mono RB.out (HM3.out.sameOn HOK.out.1) (fun _ h=>h) (fun _ _ _ h=>h.mono (HM3.out.sameOn HOK.out.1) (fun _ h=>h))) HV3.out HR2.out).mono ?_;rintro e w4 ⟨rfl,M4,i4,m4⟩;have HI4:Hid (∃ M',I w4 M' (((cl.take (k+1)).flatMap fun c=>c.1.flatMap (preX d) ++ c.2.flatMap (preX d)).foldl st s2)∧Mv M M' w w4):=⟨M4,by rw [HJ1.out];exact i4,(MK.out.trans HM3.out).trans m4⟩;clear i4 m4;go_wp2_with fail;exact ⟨⟨k+1,by omega,by go_num,HI4⟩,by simp [intOf];omega⟩
  · have HS:Hid (∃ M',I wr M' ((cl.flatMap fun c=>c.1.flatMap (preX d) ++ c.2.flatMap (preX d)).foldl st s2)∧Mv M M' w wr):=⟨Mk,by
     have:=IK.out
     rwa [show cl.take k=cl from List.take_of_length_le (by rw [HNC.out];omega)] at this,MK.out⟩
    go_wp2_with fail;go_end0;exact ⟨rfl,by rw [HS2.out];exact HS.out⟩
theorem eachExpC_all (T:Tells 213 tb I ok st S):∀ d,EeTC tb I ok st S d
 | 0=>fun w M s cs x h _ _=>h.elim
 | d+1=>eachExpC_of T (eachOfC_of T (eachExpC_all T d))
theorem eachOfC_all (T:Tells 213 tb I ok st S) (d:Nat):EoTC tb I ok st S d:=eachOfC_of T (eachExpC_all T d)
end
structure CbI (d b0:Nat) (pv:Value) (mc fc:Array Value) (ms:List Md) (m:Md) (w:World) (v:Value) (s:List Pb):Prop where
 p:Blk w b0 #[pv] 148
 mb:Blk w (b0+1) mc 63
 f:Blk w (b0+1+1) fc 59
 l:Blk w (b0+1+1+1+1) #[v] 98
 own:OwnP w (b0+1+1+1) v s
 rows:Rows w (fun g=>g<b0) 3 (HMd w (fun g=>g<b0) d) pv ms
 mod:HMd w (fun g=>g<b0) d mc.toList m
def MvB (b0:Nat) (v:Value) (g:Nat):Prop:=g=b0+1+1+1+1∨v.ownBlock=some g
theorem CbI.next {d b0:Nat} {pv:Value} {mc fc:Array Value} {ms:List Md} {m:Md} {w w':World} {v:Value} {s:List Pb} (h:CbI d b0 pv mc fc ms m w v s) (hb:Bz w w'):CbI d b0 pv mc fc ms m w' v s :=
 ⟨h.p.next hb,h.mb.next hb,h.f.next hb,h.l.next hb,h.own.next hb,h.rows.mono (sqO hb) (fun _ h=>h) (fun _ _ _ h=>h.mono (sqO hb) (fun _ h=>h)),h.mod.mono (sqO hb) (fun _ h=>h)⟩
def stC (ms:List Md) (m:Md) (fs:ByteArray) (fn:Int) (s:List Pb) (x:Ex):List Pb:=if wrongB ms m x && !(s.any (samePb ⟨m.name,fs,fn,codeOf x⟩)) then s ++ [⟨m.name,fs,fn,codeOf x⟩] else s
theorem viaDraw {w V:World} {o:Obj} (h:Below (w.alloc o).drew.heap.size (w.alloc o).drew V):Bz w V∧Below (w.alloc o).heap.size (w.alloc o) V:=by
 have k:Below (w.alloc o).heap.size (w.alloc o) V:=⟨h.os,h.tape,h.output,h.size,h.block⟩;exact ⟨((sqN _ _)).trans (k.mono (by rw [alloc_hs];omega)),k⟩
theorem pbSet {w:World} {b:Nat} {a0 a1 a2 a3 c0 c1 c2 c3:Value} {t:TypeId} (h:Blk w b #[a0,a1,a2,a3] t):Blk ((((w.setCell ⟨b,0,none⟩ c0).setCell ⟨b,1,none⟩ c1).setCell ⟨b,2,none⟩ c2).setCell ⟨b,3,none⟩ c3) b #[c0,c1,c2,c3] t :=
 (((h.same rfl).same rfl).same rfl).same rfl
theorem pbSetB {w v:World} {N b:Nat} {c0 c1 c2 c3:Value} (h:Below N v w) (hb:N≤b):Below N v ((((w.setCell ⟨b,0,none⟩ c0).setCell ⟨b,1,none⟩ c1).setCell ⟨b,2,none⟩ c2).setCell ⟨b,3,none⟩ c3) :=
 (((h.setCell hb _).setCell hb _).setCell hb _).setCell hb _
theorem okS_codeOf (x:Ex):okS (codeOf x):=by unfold codeOf;split <;> (unfold okS;decide)
theorem cb_any (d dx b0:Nat) (pv:Value) (pe:Option Addr) (ne ce:Nat) (pf:Option Addr) (nf cf:Nat) (fs:ByteArray) (fn:Int) (pc:Option Addr) (nc cc:Nat) (ms:List Md) (m:Md) (w:World) (v:Value) (s:List Pb) (cs:List Value) (x:Ex)
 (h:CbI d b0 pv #[.string m.name,.slice pe ne ce,.slice pf nf cf] #[.string fs,.int .i64 fn,.slice pc nc cc] ms m w v s) (hx:HEx w All dx cs x) (hok:okS m.name∧okS fs∧okI fn) (hl:s.length+1≤16777216) :
 Calls prog 188 #[.agg cs.toArray,.pointer (some ⟨b0,0,none⟩),.pointer (some ⟨b0+1,0,none⟩),.pointer (some ⟨b0+1+1,0,none⟩),.pointer (some ⟨b0+1+1+1+1,0,none⟩)] w fun e w'=>e=.returned (.tuple #[])∧∃ v',CbI d b0 pv #[.string m.name,.slice pe ne ce,.slice pf nf cf] #[.string fs,.int .i64 fn,.slice pc nc cc] ms m w' v' (stC ms m fs fn s x)∧Mv (MvB b0 v) (MvB b0 v') w w':=by
 cases dx with
 | zero=>exact hx.elim
 | succ dx =>
 have HXX:Hid (∀ w',Bz w w'→HEx w' All (dx+1) cs x):=fun w' hw=>hx.mono (sqO hw) (fun _ h=>h);have HI:=hid h;have HST:Hid (stC ms m fs fn s x=if wrongB ms m x && !(s.any (samePb ⟨m.name,fs,fn,codeOf x⟩)) then s ++ [⟨m.name,fs,fn,codeOf x⟩] else s):=rfl;have HPB:Hid (HPb [.string m.name,.string fs,.int .i64 fn,.string (codeOf x)] ⟨m.name,fs,fn,codeOf x⟩):=⟨rfl,hok.1,hok.2.1,hok.2.2,okS_codeOf x⟩
 have CC:Hid (∀ w',Bz w w'→Calls prog 189 #[.agg #[pv],.agg #[.string m.name,.slice pe ne ce,.slice pf nf cf],.agg cs.toArray] w' fun e w''=>e=.returned (.tuple #[.string (codeOf x),.bool (wrongB ms m x)])∧Below w'.heap.size w' w''):=fun w' hw=>by
  have h1:=h.next hw;exact callProblem_any d (dx+1) w' pv ms _ m cs x (h1.rows.mono ⟨Nat.le_refl _,fun _ _ _=>rfl⟩ (fun _ _=>trivial) (fun _ _ _ h=>h.mono ⟨Nat.le_refl _,fun _ _ _=>rfl⟩ (fun _ _=>trivial))) (h1.mod.mono ⟨Nat.le_refl _,fun _ _ _=>rfl⟩ (fun _ _=>trivial)) (HXX.out w' hw)
 obtain ⟨kx,nx,tx,mx,ks,cl⟩:=x;obtain ⟨kv,cv,rfl,-,-,-,-,⟨p1,q1,rfl,-⟩,⟨p2,q2,rfl,-⟩⟩:=hx;simp only [Ex.kind,Ex.n,Ex.text,Ex.mod,Ex.kids,Ex.clauses] at *;generalize hX:Ex.mk kx nx tx mx ks cl=X at *;generalize codeOf X=CO at *;generalize wrongB ms m X=WB at *;generalize ks.length=nk at *;generalize cl.length=nd at *;obtain ⟨W1,hW1⟩:∃ W1,W1=w.alloc (.cells #[.int .i64 kx,.int .i64 nx,.string tx,.string mx,.slice p1 nk q1,.slice p2 nd q2] 76):=⟨_,rfl⟩;have B1:Hid (Bz w W1):=(by show Below _ _ _;rw [hW1];exact (sqN _ _));have bE:Hid (Blk W1 w.heap.size #[.int .i64 kx,.int .i64 nx,.string tx,.string mx,.slice p1 nk q1,.slice p2 nd q2] 76):=(by show Blk _ _ _ _;rw [hW1];exact Blk.new);have I1:=hid (h.next B1.out);have HW1:=hid hW1;have y0:=I1.out.p.cell 0 _ rfl;obtain ⟨y1,y2,y3⟩:=sqB3 I1.out.mb;rw [hW1] at y0 y1 y2 y3;clear h hX hW1 hok;go_enter func188,ntmps188;go_wp2_with fail;rw [← HW1.out];clear y0 y1 y2 y3;refine (CC.out _ B1.out).mono ?_;rintro e w2 ⟨rfl,hb⟩;have B2:=hid (B1.out.trans (hb.mono B1.out.size));have I2:=hid (I1.out.next hb);clear hb;obtain ⟨y1,y2,y3⟩:=sqB3 I2.out.mb;obtain ⟨z1,z2,z3⟩:=sqB3 I2.out.f;obtain ⟨TM,hTM⟩:∃ TM:Nat→Array Value,TM=fun bx=>#[.agg #[.int .i64 kx,.int .i64 nx,.string tx,.string mx,.slice p1 nk q1,.slice p2 nd q2],.pointer (some ⟨b0,0,none⟩),.pointer (some ⟨b0+1,0,none⟩),.pointer (some ⟨b0+1+1,0,none⟩),.pointer (some ⟨b0+1+1+1+1,0,none⟩),.pointer (some ⟨w.heap.size,0,none⟩),.string CO,.bool WB,.pointer (some ⟨bx,0,none⟩),.tuple #[.string CO,.bool WB],.agg #[pv],.agg #[.string m.name,.slice pe ne ce,.slice pf nf cf],.agg #[.int .i64 kx,.int .i64 nx,.string tx,.string mx,.slice p1 nk q1,.slice p2 nd q2],.tuple #[.string CO,.bool WB],.string CO,.bool WB,.agg #[.string m.name,.slice pe ne ce,.slice pf nf cf],.agg #[.string fs,.int .i64 fn,.slice pc nc cc],.agg #[.string fs,.int .i64 fn],.string CO,.agg #[.string m.name,.string fs,.int .i64 fn,.string CO],undef,undef,undef,undef,undef,undef,undef,undef,undef,undef,undef]:=⟨_,rfl⟩;have HTM:=hid hTM;clear hTM;have IA:Hid (CbI d b0 pv #[.string m.name,.slice pe ne ce,.slice pf nf cf] #[.string fs,.int .i64 fn,.slice pc nc cc] ms m (w2.alloc (.cells #[.string ⟨#[]⟩,.string ⟨#[]⟩,.int .i64 0,.string ⟨#[]⟩] 141)) v s):=I2.out.next ((sqN _ _));obtain ⟨ya1,ya2,ya3⟩:=sqB3 IA.out.mb;obtain ⟨za1,za2,za3⟩:=sqB3 IA.out.f;go_wp2_with fail;refine Code.wp_mono (Q:=Exit.then (fun a' w'=>Hid (∃ bx,Blk w' bx #[.string m.name,.string fs,.int .i64 fn,.string CO] 141∧Bz w2 w'∧a'=⟨TM bx,[]⟩)) (fun _ _ _=>False)) ?rest ?reg
 case reg =>
  go_region_law
   (first
    | (go_simp;go_at_call 93;refine (refOf_any _ _ _ _ _ _).mono ?_;rintro e w5 ⟨rfl,hb5⟩;have mark5:True:=trivial;(first | (have h1:Below (w2.alloc (.cells #[.string ⟨#[]⟩,.string ⟨#[]⟩,.int .i64 0,.string ⟨#[]⟩] 141)).drew.heap.size (w2.alloc (.cells #[.string ⟨#[]⟩,.string ⟨#[]⟩,.int .i64 0,.string ⟨#[]⟩] 141)).drew w5:=(by with_reducible exact hb5);have K5:Hid (Bz w2 w5):=(viaDraw h1).1;have BX5:=hid (Blk.next Blk.new (viaDraw h1).2);clear h1) | (have h1:Below w2.drew.heap.size w2.drew w5:=(by with_reducible exact hb5);have K5:Hid (Bz w2 w5):=⟨h1.os,h1.tape,h1.output,h1.size,h1.block⟩;clear h1));have m1:=cell_next K5.out y1;have m2:=cell_next K5.out y2;have m3:=cell_next K5.out y3;have ma1:(w5.alloc (.cells #[.string ⟨#[]⟩,.string ⟨#[]⟩,.int .i64 0,.string ⟨#[]⟩] 141)).cell? ⟨b0+1,0,none⟩=_:=cell_next ((sqN _ _)) m1;have ma2:(w5.alloc (.cells #[.string ⟨#[]⟩,.string ⟨#[]⟩,.int .i64 0,.string ⟨#[]⟩] 141)).cell? ⟨b0+1,1,none⟩=_:=cell_next ((sqN _ _)) m2;have ma3:(w5.alloc (.cells #[.string ⟨#[]⟩,.string ⟨#[]⟩,.int .i64 0,.string ⟨#[]⟩] 141)).cell? ⟨b0+1,2,none⟩=_:=cell_next ((sqN _ _)) m3;clear hb5;dsimp only)
    | (go_simp;go_at_call 153;have _:=mark5;refine (problemOf_any _ m.name pe pf ne ce nf cf fs fn CO).mono ?_;rintro e w6 ⟨rfl,hb6⟩;(first | (have h1:Bz w5 w6:=(by with_reducible exact hb6);have K6:=hid (K5.out.trans (h1.mono K5.out.size));(first | (have BX6:=hid (BX5.out.next h1)) | skip);clear h1) | (have h1:Below (w5.alloc (.cells #[.string ⟨#[]⟩,.string ⟨#[]⟩,.int .i64 0,.string ⟨#[]⟩] 141)).heap.size (w5.alloc (.cells #[.string ⟨#[]⟩,.string ⟨#[]⟩,.int .i64 0,.string ⟨#[]⟩] 141)) w6:=(by with_reducible exact hb6);have K6:Hid (Bz w2 w6):=(K5.out.alloc K5.out.size _).trans (h1.mono (by rw [alloc_hs];have:=K5.out.size;omega));have BX6:=hid (Blk.next Blk.new h1);clear h1));(try (have x0:=BX6.out.cell 0 _ rfl;have g0:=BX6.out.frozen 0;have x1:=BX6.out.cell 1 _ rfl;have g1:=BX6.out.frozen 1;have x2:=BX6.out.cell 2 _ rfl;have g2:=BX6.out.frozen 2;have x3:=BX6.out.cell 3 _ rfl;have g3:=BX6.out.frozen 3));clear hb6;dsimp only))
  all_goals
   first
    | (refine ⟨w6.heap.size,by with_reducible exact Blk.new,K6.out.alloc K6.out.size _,?_⟩;rw [HTM.out])
    | (refine ⟨w5.heap.size,by with_reducible exact pbSet BX6.out,by with_reducible exact pbSetB K6.out K5.out.size,?_⟩;rw [HTM.out])
    | (refine ⟨w2.heap.size,by with_reducible exact pbSet BX6.out,by with_reducible exact pbSetB K6.out (sqR _),?_⟩;rw [HTM.out])
 case rest =>
  rintro e a' V hp
  cases e with
  | normal =>
   obtain ⟨bx,hbF,hKF,rfl⟩:=hp.out;have bF:=hid hbF;have KF:=hid hKF;clear hp hbF hKF y1 y2 y3 z1 z2 z3 ya1 ya2 ya3 za1 za2 za3;rw [HTM.out];dsimp only;have B3:=hid (B2.out.trans (KF.out.mono B2.out.size));have I3:=hid (I2.out.next KF.out);have l0:=I3.out.l.cell 0 _ rfl;obtain ⟨f0,f1,f2,f3⟩:=sqB4 bF.out
   cases hWB:WB with
   | false =>
    have HS2:Hid (stC ms m fs fn s X=s):=(by show _=_;rw [HST.out,hWB];rfl);go_wp2_with fail;go_end0;exact ⟨rfl,v,by rw [HS2.out];exact I3.out,Mv.of_below B3.out⟩
   | true =>
    go_wp2_with fail;refine (containsP_any _ _ s ⟨m.name,fs,fn,CO⟩ I3.out.own.rows).mono ?_;rintro e w7 ⟨rfl,hb⟩;have B7:=hid (B3.out.trans (hb.mono B3.out.size));have I7:=hid (I3.out.next hb);have bF7:=hid (bF.out.next hb);clear l0 f0 f1 f2 f3 hb
    cases hSP:s.any (samePb ⟨m.name,fs,fn,CO⟩) with
    | true =>
     have HS2:Hid (stC ms m fs fn s X=s):=(by show _=_;rw [HST.out,hWB,hSP];rfl);go_wp2_with fail;go_end0;exact ⟨rfl,v,by rw [HS2.out];exact I7.out,Mv.of_below B7.out⟩
    | false =>
     have HS2:Hid (stC ms m fs fn s X=s ++ [⟨m.name,fs,fn,CO⟩]):=(by show _=_;rw [HST.out,hWB,hSP];rfl);have l0:=I7.out.l.cell 0 _ rfl;obtain ⟨f0,f1,f2,f3⟩:=sqB4 bF7.out;have F9:Hid (∀ w9,ApartE 141 w7 w9→Blk w9 (b0+1+1+1+1) #[v] 98):=fun w9 hap=>hap.blk I7.out.l (by decide);go_wp2_with (at_builtin;refine wpList_append_lies rfl _ _ 98 rfl _ 56 underlying98 info_pb rfl (by decide) I7.out.own #[.string m.name,.string fs,.int .i64 fn,.string CO] ⟨m.name,fs,fn,CO⟩ HPB.out rfl (pb_oneCell _ _ HPB.out) rfl rfl hl (by decide) ?_;intro g9 q9 w9 ho9 hb9 hap9 hg9 hk9;have c9:w9.cell? ⟨b0+1+1+1+1,0,none⟩=some v:=(F9.out w9 hap9).cell 0 _ rfl;have z9:w9.frozen? ⟨b0+1+1+1+1,0,none⟩=false:=(F9.out w9 hap9).frozen 0);have hl9:Blk w9 (b0+1+1+1+1) #[v] 98:=F9.out w9 hap9;have hsz7:b0+1+1+1≤w7.heap.size:=I7.out.own.2;have hbz:Below (b0+1+1+1) w7 (w9.setCell ⟨b0+1+1+1+1,0,none⟩ (.slice (some ⟨g9,0,none⟩) (s.length+1) q9)):=hb9.setCell (by show _≤b0+1+1+1+1;omega) _;have hsm:SameOn (fun g=>g<b0) w7 (w9.setCell ⟨b0+1+1+1+1,0,none⟩ (.slice (some ⟨g9,0,none⟩) (s.length+1) q9)):=⟨hbz.size,fun g hg _=>hbz.block g (by omega)⟩
     have HIZ:CbI d b0 pv #[.string m.name,.slice pe ne ce,.slice pf nf cf] #[.string fs,.int .i64 fn,.slice pc nc cc] ms m (w9.setCell ⟨b0+1+1+1+1,0,none⟩ (.slice (some ⟨g9,0,none⟩) (s.length+1) q9)) (.slice (some ⟨g9,0,none⟩) (s.length+1) q9) (s ++ [⟨m.name,fs,fn,CO⟩]) :=
      ⟨(hap9.blk I7.out.p (by decide)).other (by show b0≠b0+1+1+1+1;omega),(hap9.blk I7.out.mb (by decide)).other (by show b0+1≠b0+1+1+1+1;omega),(hap9.blk I7.out.f (by decide)).other (by show b0+1+1≠b0+1+1+1+1;omega),hl9.same rfl,ho9.setCell hl9 (by decide),I7.out.rows.mono hsm (fun _ h=>h) (fun _ _ _ h=>h.mono hsm (fun _ h=>h)),I7.out.mod.mono hsm (fun _ h=>h)⟩
     have HMZ:Mv (MvB b0 v) (MvB b0 (.slice (some ⟨g9,0,none⟩) (s.length+1) q9)) w (w9.setCell ⟨b0+1+1+1+1,0,none⟩ (.slice (some ⟨g9,0,none⟩) (s.length+1) q9)):=by
      have hs7:=B7.out.size;refine ⟨hbz.os.trans B7.out.os,hbz.tape.trans B7.out.tape,hbz.output.trans B7.out.output,Nat.le_trans hs7 hbz.size,fun g hg hm=>?_,fun g hg=>?_⟩
      · refine (Below.heap_setCell _ _ _ _ (fun e1=>hm (Or.inl e1))).trans ((hk9 g (by omega) (fun e1=>hm (Or.inr e1.symm))).trans (B7.out.block g hg))
      · rcases hg with hg | hg
        · exact Or.inl (Or.inl hg)
        · simp [Value.ownBlock] at hg
          subst hg
          rcases hg9 with h9 | h9
          · exact Or.inl (Or.inr h9)
          · exact Or.inr (by omega)
     go_end0;exact ⟨rfl,_,by rw [HS2.out];exact HIZ,HMZ⟩
  | _=>exact hp.elim
section
variable (d b0 tb:Nat) (pv:Value) (pe:Option Addr) (ne ce:Nat) (pf:Option Addr) (nf cf:Nat) (fs:ByteArray) (fn:Int) (pc:Option Addr) (nc cc:Nat) (ms:List Md) (m:Md)
def CallI (w:World) (M:Nat→Prop) (s:List Pb):Prop :=
 ∃ v,M=MvB b0 v∧CbI d b0 pv #[.string m.name,.slice pe ne ce,.slice pf nf cf] #[.string fs,.int .i64 fn,.slice pc nc cc] ms m w v s∧Blk w tb #[(.func (.func 188) #[] #[.pointer (some ⟨b0,0,none⟩),.pointer (some ⟨b0+1,0,none⟩),.pointer (some ⟨b0+1+1,0,none⟩),.pointer (some ⟨b0+1+1+1+1,0,none⟩)])] 195∧b0+1+1+1+1<tb
def stK (s:List Pb) (x:Ex):List Pb:=if x.kind=8 then stC ms m fs fn s x else s
theorem tells_call (hok:okS m.name∧okS fs∧okI fn) (w:World) (s:List Pb) (dx:Nat) (cs:List Value) (x:Ex) (v:Value) (h:CbI d b0 pv #[.string m.name,.slice pe ne ce,.slice pf nf cf] #[.string fs,.int .i64 fn,.slice pc nc cc] ms m w v s) (hb:Blk w tb #[(.func (.func 188) #[] #[.pointer (some ⟨b0,0,none⟩),.pointer (some ⟨b0+1,0,none⟩),.pointer (some ⟨b0+1+1,0,none⟩),.pointer (some ⟨b0+1+1+1+1,0,none⟩)])] 195) (hlt:b0+1+1+1+1<tb) (hx:HEx w (fun g=>g<b0) dx cs x) (hl:s.length+1≤16777216) :
 Calls prog 213 #[.agg cs.toArray,.pointer (some ⟨tb,0,none⟩)] w fun e w'=>e=.returned (.tuple #[])∧∃ M',CallI d b0 tb pv pe ne ce pf nf cf fs fn pc nc cc ms m w' M' (stK fs fn ms m s x)∧Mv (MvB b0 v) M' w w':=by
 have hxA:HEx w All dx cs x:=hx.mono ⟨Nat.le_refl _,fun _ _ _=>rfl⟩ (fun _ _=>trivial)
 cases dx with
 | zero=>exact hx.elim
 | succ dx =>
 have HXX:Hid (∀ w',Bz w w'→HEx w' All (dx+1) cs x):=fun w' hw=>hxA.mono (sqO hw) (fun _ h=>h);obtain ⟨kx,nx,tx,mx,ks,cl⟩:=x;obtain ⟨kv,cv,rfl,-,-,-,-,⟨p1,q1,rfl,-⟩,⟨p2,q2,rfl,-⟩⟩:=hxA;have HSa:Hid (kx=8→stK fs fn ms m s (.mk kx nx tx mx ks cl)=stC ms m fs fn s (.mk kx nx tx mx ks cl)):=fun h=>if_pos h;have HSb:Hid (¬ kx=8→stK fs fn ms m s (.mk kx nx tx mx ks cl)=s):=fun h=>if_neg h;simp only [Ex.kind,Ex.n,Ex.text,Ex.mod,Ex.kids,Ex.clauses] at *;clear hx;have hl':s.length+1≤16777216:=hl;clear hl;generalize hX:Ex.mk kx nx tx mx ks cl=X at *;generalize ks.length=nk at *;generalize cl.length=nd at *;obtain ⟨W1,hW1⟩:∃ W1,W1=w.alloc (.cells #[.int .i64 kx,.int .i64 nx,.string tx,.string mx,.slice p1 nk q1,.slice p2 nd q2] 76):=⟨_,rfl⟩;have B1:Hid (Bz w W1):=(by show Below _ _ _;rw [hW1];exact (sqN _ _));have I1:=hid (h.next B1.out);have T1:=hid (hb.next B1.out);have HW1:=hid hW1;have HOK:=hid hok;have HLT:=hid hlt;have t0:W1.cell? ⟨tb,0,none⟩=some (.func (.func 188) #[] #[.pointer (some ⟨b0,0,none⟩),.pointer (some ⟨b0+1,0,none⟩),.pointer (some ⟨b0+1+1,0,none⟩),.pointer (some ⟨b0+1+1+1+1,0,none⟩)]):=T1.out.cell 0 _ rfl
 have HOW:Hid (∀ g,v.ownBlock=some g→w.heap[tb]?≠w.heap[g]?):=fun g hg e=>by
  obtain ⟨⟨cells,g1,g2⟩,g3⟩:=h.own
  rcases g1.2 with ⟨rfl,_⟩ | ⟨g2',cap2,cur2,rfl,_,hh2,_⟩
  · simp [Value.ownBlock] at hg
  · simp [Value.ownBlock] at hg
    subst hg;rw [hh2,show w.heap[tb]?=_ from hb] at e;simp at e
 have HNT:Hid (¬ MvB b0 v tb):=fun e=>by
  rcases e with e | e
  · omega
  · exact HOW.out tb e rfl
 have HHB:=hid hb;rw [hW1] at t0;clear h hb hX hW1;by_cases hk:kx=8
 · subst hk
   have hkb:((8:Int) == 8)=true:=(by simp);have HS2:=hid (HSa.out rfl);go_enter func213,ntmps213;go_wp2_with fail;rw [← HW1.out];refine (cb_any d (dx+1) b0 pv pe ne ce pf nf cf fs fn pc nc cc ms m W1 v s _ X I1.out (HXX.out _ B1.out) HOK.out hl').mono ?_;rintro e w2 ⟨rfl,v2,i2,m2⟩;have HR:Hid (∃ M',CallI d b0 tb pv pe ne ce pf nf cf fs fn pc nc cc ms m w2 M' (stK fs fn ms m s X)∧Mv (MvB b0 v) M' w w2):=⟨_,⟨v2,rfl,by rw [HS2.out];exact i2,m2.blk T1.out HNT.out,HLT.out⟩,(Mv.of_below B1.out).trans m2⟩;clear i2 m2 t0;go_wp2_with fail;go_end0;exact ⟨rfl,HR.out⟩
 · have hkb:(kx == 8)=false:=by simpa using hk
   have HS2:=hid (HSb.out hk);clear t0;go_enter func213,ntmps213;go_wp2_with fail;rw [← HW1.out];go_end0;exact ⟨rfl,_,⟨v,rfl,by rw [HS2.out];exact I1.out,T1.out,HLT.out⟩,Mv.of_below B1.out⟩
theorem tells (hok:okS m.name∧okS fs∧okI fn):Tells 213 tb (CallI d b0 tb pv pe ne ce pf nf cf fs fn pc nc cc ms m) (fun s _=>s.length+1≤16777216) (stK fs fn ms m) (fun g=>g<b0) where
 off:=by
  rintro w M s ⟨v,rfl,h,hb,hlt⟩;refine ⟨fun g hg e=>?_,fun g e=>?_,fun g hg=>?_⟩
  · have hg':g<b0:=hg
    rcases e with e | e
    · omega
    · obtain ⟨⟨cells,g1,g2⟩,g3⟩:=h.own
      have:=(owns_own_lt g1 e).1;omega
  · rcases e with e | e
    · have:=h.l.lt;omega
    · obtain ⟨⟨cells,g1,g2⟩,g3⟩:=h.own
      exact (owns_own_lt g1 e).2
  · have hg':g<b0:=hg
    have:=h.p.lt;omega
 next:=by
  rintro w w' M s ⟨v,rfl,h,hb,hlt⟩ hbel;exact ⟨v,rfl,h.next hbel,hb.next hbel,hlt⟩
 call:=by
  rintro w M s dx cs x ⟨v,rfl,h,hb,hlt⟩ hx hl;exact tells_call d b0 tb pv pe ne ce pf nf cf fs fn pc nc cc ms m hok w s dx cs x v h hb hlt hx hl
end
section
variable (d b0:Nat) (pv:Value) (pe:Option Addr) (ne ce:Nat) (pf:Option Addr) (nf cf:Nat) (fs:ByteArray) (fn:Int) (pc:Option Addr) (nc cc:Nat) (ms:List Md) (m:Md)
theorem eachCall_any (hok:okS m.name∧okS fs∧okI fn) (w:World) (s:List Pb) (v:Value) (cl:List Cl) (h:CbI d b0 pv #[.string m.name,.slice pe ne ce,.slice pf nf cf] #[.string fs,.int .i64 fn,.slice pc nc cc] ms m w v s) (hr:Rows w (fun g=>g<b0) 2 (HCl w (fun g=>g<b0) (HEx w (fun g=>g<b0) d)) (.slice pc nc cc) cl)
 (hR:Runs (fun (s:List Pb) _=>s.length+1≤16777216) (stK fs fn ms m) s (cl.flatMap fun c=>c.2.flatMap (preX d))) :
 Calls prog 187 #[.agg #[.string fs,.int .i64 fn,.slice pc nc cc],(.func (.func 188) #[] #[.pointer (some ⟨b0,0,none⟩),.pointer (some ⟨b0+1,0,none⟩),.pointer (some ⟨b0+1+1,0,none⟩),.pointer (some ⟨b0+1+1+1+1,0,none⟩)])] w fun e w'=>e=.returned (.tuple #[])∧∃ v',CbI d b0 pv #[.string m.name,.slice pe ne ce,.slice pf nf cf] #[.string fs,.int .i64 fn,.slice pc nc cc] ms m w' v' ((cl.flatMap fun c=>c.2.flatMap (preX d)).foldl (stK fs fn ms m) s)∧Mv (MvB b0 v) (MvB b0 v') w w':=by
 obtain ⟨W2,hW2⟩:∃ W2,W2=((w.alloc (.cells #[.string fs,.int .i64 fn,.slice pc nc cc] 59)).alloc (.cells #[(.func (.func 188) #[] #[.pointer (some ⟨b0,0,none⟩),.pointer (some ⟨b0+1,0,none⟩),.pointer (some ⟨b0+1+1,0,none⟩),.pointer (some ⟨b0+1+1+1+1,0,none⟩)])] 195)):=⟨_,rfl⟩;have B2:Hid (Bz w W2):=(by show Below _ _ _;rw [hW2];exact ((sqN _ _)).alloc (by simp only [alloc_hs];omega) _);have TT:=tells d b0 (w.heap.size+1) pv pe ne ce pf nf cf fs fn pc nc cc ms m hok;have HT:=hid TT
 have bT:Blk W2 (w.heap.size+1) #[(.func (.func 188) #[] #[.pointer (some ⟨b0,0,none⟩),.pointer (some ⟨b0+1,0,none⟩),.pointer (some ⟨b0+1+1,0,none⟩),.pointer (some ⟨b0+1+1+1+1,0,none⟩)])] 195:=by
  rw [hW2];have:=Blk.new (w:=w.alloc (.cells #[.string fs,.int .i64 fn,.slice pc nc cc] 59)) (cs:=#[(.func (.func 188) #[] #[.pointer (some ⟨b0,0,none⟩),.pointer (some ⟨b0+1,0,none⟩),.pointer (some ⟨b0+1+1,0,none⟩),.pointer (some ⟨b0+1+1+1+1,0,none⟩)])]) (t:=195);rw [alloc_hs] at this;exact this
 have I2:Hid (CallI d b0 (w.heap.size+1) pv pe ne ce pf nf cf fs fn pc nc cc ms m W2 (MvB b0 v) s):=⟨v,rfl,h.next B2.out,bT,by have:=h.l.lt;omega⟩;have HOF:Hid (∀ g,g<b0→¬ MvB b0 v g):=(TT.off _ _ _ I2.out).1;obtain ⟨p,cap,hv,hcl,hcm,hx⟩:=hr;simp only [Value.slice.injEq] at hv;obtain ⟨rfl,hnc,rfl⟩:=hv;have hnb:nc≤9223372036854775807:=(by unfold maxLen at hcm;omega);have HN:=hid hnc.symm;have HX:=hid hx;have HR:=hid hR;have HW2:=hid hW2;clear hx hR hW2 bT TT h hnc hcl;go_enter func187,ntmps187;go_wp2_with fail;rw [← HW2.out]
 go_loopw [9] (fun iv wr=>∃ k:Nat,k≤nc∧iv=.int .i64 k∧Hid (∃ M',CallI d b0 (w.heap.size+1) pv pe ne ce pf nf cf fs fn pc nc cc ms m wr M' (((cl.take k).flatMap fun c=>c.2.flatMap (preX d)).foldl (stK fs fn ms m) s)∧Mv (MvB b0 v) M' w wr)) (fun iv _=>nc - (intOf iv).toNat)
 case atStart=>exact ⟨0,Nat.zero_le _,rfl,⟨_,by simpa using I2.out,Mv.of_below B2.out⟩⟩
 case round =>
  obtain ⟨k,hk,rfl,HVk⟩:=hrel;obtain ⟨Mk,ik,mk⟩:=HVk.out;have IK:=hid ik;have MK:=hid mk;clear HVk ik mk;by_cases hlt:k<nc
  · obtain ⟨c,hck⟩:=sqA (l:=cl) (k:=k) HN.out hlt
    obtain ⟨g,off,rfl,hgm,hgl,hat⟩:=HX.out (by intro h;rw [h] at hck;simp at hck);obtain ⟨cs,hcsl,hcs,pv',bv,rfl,rp,rb⟩:=hat k c hck;have SK:=hid (MK.out.sameOn HOF.out);have RB:=hid (Rows.mono rb SK.out (fun _ h=>h) (fun _ _ _ h=>h.mono SK.out (fun _ h=>h)));obtain ⟨pp,capp,rfl,-⟩:=rp;obtain ⟨pb,capb,rfl,-⟩:=rb;have hge:wr.heap[g]?=w.heap[g]?:=SK.out.2 g hgm hgl;have a0:=(World.cell?_of_block (a:=⟨g,off+k * 2+0,none⟩) hge).trans (hcs 0 (by omega));have a1:=(World.cell?_of_block (a:=⟨g,off+k * 2+1,none⟩) hge).trans (hcs 1 (by omega));simp at a0 a1;obtain ⟨hr1,hj1⟩:=Runs.take k c HR.out hck;generalize ((cl.take k).flatMap fun c=>c.2.flatMap (preX d)).foldl (stK fs fn ms m) s=sk at *;have HR1:=hid hr1;have HJ1:=hid hj1;have hki:(k:Int)<(nc:Int):=(by omega);have hk0:=sqI k;have HBC:Hid (Bz wr (wr.alloc (.cells #[.slice pp c.1.length capp,.slice pb c.2.length capb] 46))):=(sqN _ _);clear hat hcs hcsl hge hr1 hj1;go_wp2_with fail;refine (eachOfC_all HT.out d _ Mk sk _ c.2 (Rows.mono RB.out (SameOn.of_below HBC.out) (fun _ h=>h) (fun _ _ _ h=>h.mono (SameOn.of_below HBC.out) (fun _ h=>h))) (HT.out.next _ _ _ _ IK.out HBC.out) HR1.out).mono ?_;rintro e w3 ⟨rfl,M3,i3,m3⟩;have HI4:Hid (∃ M',CallI d b0 (w.heap.size+1) pv pe ne ce pf nf cf fs fn (some ⟨g,off,none⟩) nc cc ms m w3 M' (((cl.take (k+1)).flatMap fun c=>c.2.flatMap (preX d)).foldl (stK fs fn ms m) s)∧Mv (MvB b0 v) M' w w3):=⟨M3,by rw [HJ1.out];exact i3,(MK.out.trans (Mv.of_below HBC.out)).trans m3⟩;clear i3 m3 a0 a1;go_wp2_with fail;exact ⟨⟨k+1,by omega,by go_num,HI4⟩,by simp [intOf];omega⟩
  · have HS:Hid (∃ v',CbI d b0 pv #[.string m.name,.slice pe ne ce,.slice pf nf cf] #[.string fs,.int .i64 fn,.slice pc nc cc] ms m wr v' ((cl.flatMap fun c=>c.2.flatMap (preX d)).foldl (stK fs fn ms m) s)∧Mv (MvB b0 v) (MvB b0 v') w wr):=by
     have h1:=IK.out;rw [show cl.take k=cl from List.take_of_length_le (by rw [HN.out];omega)] at h1;obtain ⟨v',rfl,h2,-,-⟩:=h1;exact ⟨v',h2,MK.out⟩
    go_wp2_with fail;go_end0;exact ⟨rfl,HS.out⟩
end
theorem fn_tight {w:World} {S:Nat→Prop} {d:Nat} {cs:List Value} {f:Fn'} (h:HFn w S d cs f):HFn w (fun g=>g<w.heap.size) d cs f:=by
 obtain ⟨cv,rfl,h1,h2,hc⟩:=h;refine ⟨cv,rfl,h1,h2,hc.tight (fun _ _ h=>?_)⟩;obtain ⟨p,b,rfl,g1,g2⟩:=h;exact ⟨p,b,rfl,g1.tight (fun _ _ h=>h.tight),g2.tight (fun _ _ h=>h.tight)⟩
theorem md_tight {w:World} {S:Nat→Prop} {d:Nat} {cs:List Value} {m:Md} (h:HMd w S d cs m):HMd w (fun g=>g<w.heap.size) d cs m:=by
 obtain ⟨ev,fv,rfl,h1,he,hf⟩:=h;exact ⟨ev,fv,rfl,h1,he.tight (fun _ _ h=>h),hf.tight (fun _ _ h=>fn_tight h)⟩
theorem callProblems_any (d:Nat) (w:World) (pv:Value) (ms:List Md) (mc:List Value) (m:Md) (cs:List Value) (f:Fn') (h:Rows w All 3 (HMd w All d) pv ms) (hm:HMd w All d mc m) (hf:HFn w All d cs f)
 (hR:Runs (fun (s:List Pb) _=>s.length+1≤16777216) (stK f.name f.arity ms m) [] (f.clauses.flatMap fun c=>c.2.flatMap (preX d))) :
 Calls prog 154 #[.agg #[pv],.agg mc.toArray,.agg cs.toArray] w fun e w'=>∃ u,e=.returned u∧OwnP w' w.heap.size u ((f.clauses.flatMap fun c=>c.2.flatMap (preX d)).foldl (stK f.name f.arity ms m) [])∧Bz w w':=by
 have hmT:HMd w (fun g=>g<w.heap.size) d mc m:=md_tight hm;have hrT:Rows w (fun g=>g<w.heap.size) 3 (HMd w (fun g=>g<w.heap.size) d) pv ms:=Rows.tight h (fun _ _ h=>md_tight h);have hfT:HFn w (fun g=>g<w.heap.size) d cs f:=fn_tight hf;obtain ⟨p,cap,rfl,-⟩:=id h;obtain ⟨ev,fv,rfl,hms,⟨pe,ce,rfl,-⟩,⟨pf,cf,rfl,-⟩⟩:=id hm;obtain ⟨cv,rfl,hfs,hfn,hcl⟩:=hfT;obtain ⟨pc,cc,rfl,-⟩:=id hcl;generalize ms.length=n at *;generalize m.exports.length=ne at *;generalize m.funs.length=nf at *;generalize f.clauses=cl at *;generalize cl.length=nc at *;generalize f.name=fs at *;generalize f.arity=fn at *;obtain ⟨W5,hW5⟩:∃ W5,W5=(((((w.alloc (.cells #[.slice p n cap] 148)).alloc (.cells #[.string m.name,.slice pe ne ce,.slice pf nf cf] 63)).alloc (.cells #[.string fs,.int .i64 fn,.slice pc nc cc] 59)).alloc (.cells #[] 141)).alloc (.cells #[(.slice (some ⟨w.heap.size+1+1+1,0,none⟩) 0 0)] 98)):=⟨_,rfl⟩
 have B5:Hid (Bz w W5):=by
  show Below _ _ _;rw [hW5];exact (((((sqN _ _)).alloc (by simp only [alloc_hs];omega) _).alloc (by simp only [alloc_hs];omega) _).alloc (by simp only [alloc_hs];omega) _).alloc (by simp only [alloc_hs];omega) _
 have hsm:SameOn (fun g=>g<w.heap.size) w W5:=SameOn.of_low B5.out;have b2:=Blk.new (w:=(w.alloc (.cells #[.slice p n cap] 148))) (cs:=#[.string m.name,.slice pe ne ce,.slice pf nf cf]) (t:=63);have b3:=Blk.new (w:=((w.alloc (.cells #[.slice p n cap] 148)).alloc (.cells #[.string m.name,.slice pe ne ce,.slice pf nf cf] 63))) (cs:=#[.string fs,.int .i64 fn,.slice pc nc cc]) (t:=59);have b5:=Blk.new (w:=((((w.alloc (.cells #[.slice p n cap] 148)).alloc (.cells #[.string m.name,.slice pe ne ce,.slice pf nf cf] 63)).alloc (.cells #[.string fs,.int .i64 fn,.slice pc nc cc] 59)).alloc (.cells #[] 141))) (cs:=#[(.slice (some ⟨w.heap.size+1+1+1,0,none⟩) 0 0)]) (t:=98);have o4:=(OwnG.fresh (w:=(((w.alloc (.cells #[.slice p n cap] 148)).alloc (.cells #[.string m.name,.slice pe ne ce,.slice pf nf cf] 63)).alloc (.cells #[.string fs,.int .i64 fn,.slice pc nc cc] 59))) (e:=141) (c:=4) (R:=HPb)).next ((Below.refl _ _).alloc (sqR _) (.cells #[(.slice (some ⟨w.heap.size+1+1+1,0,none⟩) 0 0)] 98));simp only [alloc_hs] at b2 b3 b5 o4
 have HI:Hid (CbI d w.heap.size (.slice p n cap) #[.string m.name,.slice pe ne ce,.slice pf nf cf] #[.string fs,.int .i64 fn,.slice pc nc cc] ms m W5 (.slice (some ⟨w.heap.size+1+1+1,0,none⟩) 0 0) []):=by
  refine ⟨?_,?_,?_,?_,?_,hrT.mono hsm (fun _ h=>h) (fun _ _ _ h=>h.mono hsm (fun _ h=>h)),hmT.mono hsm (fun _ h=>h)⟩
  · rw [hW5];exact Blk.new.alloc.alloc.alloc.alloc
  · rw [hW5];exact b2.alloc.alloc.alloc
  · rw [hW5];exact b3.alloc.alloc
  · rw [hW5];exact b5
  · rw [hW5];exact o4
 have HCL:=hid (hcl.mono hsm (fun _ h=>h) (fun _ _ _ h=>h.mono hsm (fun _ h=>h) (fun _ _=>HEx.mono hsm (fun _ h=>h))));have HOK:Hid (okS m.name∧okS fs∧okI fn):=⟨hms,hfs,hfn⟩;have HR:=hid hR;have HW5:=hid hW5;clear hR hcl hrT hmT h hm hf hsm b2 b3 b5 o4 hW5 hms hfs hfn;go_enter func154,ntmps154;go_wp2_with fail;rw [← HW5.out];refine (eachCall_any d w.heap.size (.slice p n cap) pe ne ce pf nf cf fs fn pc nc cc ms m HOK.out W5 [] (.slice (some ⟨w.heap.size+1+1+1,0,none⟩) 0 0) cl HI.out HCL.out HR.out).mono ?_;rintro e w6 ⟨rfl,v6,i6,m6⟩
 have B6:Hid (Bz w w6):=B5.out.trans (m6.below (fun g hg=>by
  rcases hg with hg | hg
  · omega
  · simp [Value.ownBlock] at hg;omega) B5.out.size)
 have O6:Hid (OwnP w6 w.heap.size v6 ((cl.flatMap fun c=>c.2.flatMap (preX d)).foldl (stK fs fn ms m) [])):=i6.own.base (by omega);have l6:=i6.l.cell 0 _ rfl;clear i6 m6;go_wp2_with fail;go_ret;exact ⟨_,rfl,O6.out,B6.out⟩
theorem exportProblems_any (d:Nat) (w:World) (cs:List Value) (m:Md) (h:HMd w All d cs m) (hw:m.exports.length≤16777216) :
 Calls prog 151 #[.agg cs.toArray] w fun e w'=>∃ u,e=.returned u∧OwnP w' w.heap.size u (m.exports.flatMap (exportP m))∧Bz w w':=by
 have HMM:Hid (∀ w',Bz w w'→HMd w' All d cs m):=fun w' hw=>h.mono (sqO hw) (fun _ h=>h);obtain ⟨ev,fv,rfl,hms,he,hf⟩:=h;have HFS:Hid (∀ w',Bz w w'→Rows w' All 3 (HFn w' All d) fv m.funs):=fun w' hw=>hf.mono (sqO hw) (fun _ h=>h) (fun _ _ _ h=>h.mono (sqO hw) (fun _ h=>h));obtain ⟨pf,cf,rfl,-⟩:=hf;obtain ⟨pe,ce,rfl,hce,hcme,hxe⟩:=he;have HXE:=hid hxe
 have HLL:Hid ((m.exports.flatMap (exportP m)).length≤16777216):=by
  have h1:=flat_lenG (exportP m) (fun _=>1) m.exports (fun r _=>by
   unfold exportP
   split
   · exact Nat.zero_le _
   · exact Nat.le_refl _)
  have h3:∀ l:List Rf,(l.map fun _=>1).sum=l.length:=fun l=>by
   induction l with
   | nil=>rfl
   | cons y l ih=>simp only [List.map_cons,List.sum_cons,List.length_cons,ih];omega
  rw [h3] at h1;exact Nat.le_trans h1 hw
 have hne:m.exports.length≤9223372036854775807:=(by omega);have HMSN:=hid hms;generalize hn1:m.exports.length=ne at *;have HN1:=hid hn1;generalize m.funs.length=nf at *;obtain ⟨W1,hW1⟩:∃ W1,W1=w.alloc (.cells #[.string m.name,.slice pe ne ce,.slice pf nf cf] 63):=⟨_,rfl⟩;have b1:Blk W1 w.heap.size #[.string m.name,.slice pe ne ce,.slice pf nf cf] 63:=(by rw [hW1];exact Blk.new);have hs1:W1.heap.size=w.heap.size+1:=(by rw [hW1,alloc_hs]);have hb1:Bz w W1:=(by rw [hW1];exact (sqN _ _));have hal:Bz W1 (W1.alloc (.cells #[] 141)):=(sqN _ _);have B2:=hid (hb1.trans (hal.mono hb1.size));have b2:=hid (b1.next hal)
 have O2:Hid (OwnP (W1.alloc (.cells #[] 141)) w.heap.size (.slice (some ⟨w.heap.size+1,0,none⟩) 0 0) []):=by
  have:=(OwnG.fresh (w:=W1) (e:=141) (c:=4) (R:=HPb)).base (B':=w.heap.size) (by omega);rw [hs1] at this;exact this
 have HW1:=hid hW1;clear hxe hn1 b1 hb1 hal hs1 hms hce hcme hw hW1;go_enter func151,ntmps151;go_wp2_with fail;rw [← HW1.out]
 go_loopw [3,10] (fun ov iv wx=>∃ k:Nat,k≤ne∧iv=.int .i64 k∧Hid (OwnP wx w.heap.size ov ((m.exports.take k).flatMap (exportP m)))∧Hid (Bz w wx)∧Hid (Blk wx w.heap.size #[.string m.name,.slice pe ne ce,.slice pf nf cf] 63)) (fun _ iv _=>ne - (intOf iv).toNat)
 case atStart=>exact ⟨0,Nat.zero_le _,rfl,by show OwnP _ _ _ _;simpa using O2.out,B2,b2⟩
 case round =>
  obtain ⟨k,hk,rfl,ho,hb,bb⟩:=hrel;clear O2 B2 b2;by_cases hlk:k<ne
  · obtain ⟨r,hrk⟩:∃ r,m.exports[k]?=some r:=⟨m.exports[k]'(by rw [HN1.out];exact hlk),List.getElem?_eq_getElem _⟩
    obtain ⟨g6,o6,rfl,-,hgl6,hat6⟩:=HXE.out (sqE hrk);obtain ⟨cs6,hcsl6,hcs6,rfl,hrs,hri⟩:=hat6 k r hrk;obtain ⟨a0,a1⟩:=sqC2 hcs6 (by omega);rw [← hb.out.cell (p:=⟨g6,_,none⟩) hgl6] at a0 a1;simp at a0 a1;have hki6:(k:Int)<(ne:Int):=(by omega);have hk06:=sqI k;obtain ⟨HJ,HL⟩:=flat_takeG (exportP m) m.exports k r hrk;have HJ6:=hid HJ;have HL6:=hid (Nat.le_trans HL HLL.out);have HEP:Hid (exportP m r=if hasF m r.name r.arity then [] else [⟨m.name,r.name,r.arity,cExport⟩]):=rfl;have HHF:Hid (hasF m r.name r.arity=m.funs.any (sameR ⟨r.name,r.arity⟩)):=rfl;obtain ⟨rs,rn⟩:=r;simp only at *;have HPB:Hid (HPb [.string m.name,.string rs,.int .i64 rn,.string ⟨#[101,120,112,111,114,116]⟩] ⟨m.name,rs,rn,cExport⟩):=⟨rfl,HMSN.out,hrs,hri,okS_export⟩;obtain ⟨W6,hW6⟩:∃ W6,W6=wr.alloc (.cells #[.string rs,.int .i64 rn] 84):=⟨_,rfl⟩;obtain ⟨br,hbr⟩:∃ br,br=wr.heap.size:=⟨_,rfl⟩;have hbl:Bz wr W6:=(by rw [hW6];exact (sqN _ _));have br6:Hid (Blk W6 br #[.string rs,.int .i64 rn] 84):=(by show Blk _ _ _ _;rw [hW6,hbr];exact Blk.new);have bm6:=hid (bb.out.next hbl);have HB6:=hid (hb.out.trans (hbl.mono hb.out.size));have HO6:=hid (ho.out.next hbl);have HW6:=hid hW6;have HBR:=hid hbr.symm;have y2:=bm6.out.cell 2 _ rfl;rw [hW6] at y2;generalize hJ0:(m.exports.take k).flatMap (exportP m)=J at *;clear hcs6 hcsl6 hat6 HJ HL hW6 hbr hbl hJ0 hrk hrs hri ho hb bb;go_wp2_with fail;rw [← HW6.out];clear y2 a0 a1;refine (hasFun_any d _ _ m.funs ⟨rs,rn⟩ (HFS.out _ HB6.out)).mono ?_;rintro e w7 ⟨rfl,hb7⟩;rw [← HHF.out];have br7:=hid (br6.out.next hb7);have bm7:=hid (bm6.out.next hb7);have HB7:=hid (HB6.out.trans (hb7.mono HB6.out.size));have HO7:=hid (HO6.out.next hb7);clear hb7;rw [HBR.out];obtain ⟨y0,y1,y2⟩:=sqB3 bm7.out;obtain ⟨r0,r1⟩:=sqB2 br7.out
    cases hF:hasF m rs rn with
    | true =>
     have HO9:Hid (OwnP w7 w.heap.size u3 ((m.exports.take (k+1)).flatMap (exportP m))):=(by show OwnP _ _ _ _;rw [HJ6.out,HEP.out,hF];simpa using HO7.out);go_wp2_with fail;exact ⟨⟨k+1,by omega,by go_num,HO9,HB7,bm7⟩,by simp [intOf];omega⟩
    | false =>
     have HE2:Hid (exportP m ⟨rs,rn⟩ = [⟨m.name,rs,rn,cExport⟩]):=(by show _=_;rw [HEP.out,hF];rfl);go_wp2_with fail;refine (problemOf_any _ m.name (some ⟨g6,o6,none⟩) pf ne ce nf cf rs rn ⟨#[101,120,112,111,114,116]⟩).mono ?_;rintro e w8 ⟨rfl,hb8⟩;have bm8:=hid (bm7.out.next hb8);have HB8:=hid (HB7.out.trans (hb8.mono HB7.out.size));have HO8:=hid (HO7.out.next hb8);clear hb8 y0 y1 y2 r0 r1;go_wp2_with (at_builtin;refine wpList_append_one rfl _ _ 98 rfl _ 56 underlying98 info_pb rfl (by decide) HO8.out #[.string m.name,.string rs,.int .i64 rn,.string ⟨#[101,120,112,111,114,116]⟩] ⟨m.name,rs,rn,cExport⟩ HPB.out rfl (pb_oneCell _ _ HPB.out) rfl rfl (by have:=HL6.out;rw [HE2.out] at this;exact this) (by decide) ?_;intro v9 w9 ho9 hb9 hap9);have HO9:Hid (OwnP w9 w.heap.size v9 ((m.exports.take (k+1)).flatMap (exportP m))):=(by show OwnP _ _ _ _;rw [HJ6.out,HE2.out];exact ho9);have HB9:=hid (HB8.out.trans hb9);have b9:=hid (hap9.blk bm8.out (by decide));clear ho9 hb9 hap9;go_wp2_with fail;exact ⟨⟨k+1,by omega,by go_num,HO9,HB9,b9⟩,by simp [intOf];omega⟩
  · have HR:Hid (OwnP wr w.heap.size u3 (m.exports.flatMap (exportP m))):=by
     have:=ho.out
     rwa [show m.exports.take k=m.exports from List.take_of_length_le (by rw [HN1.out];omega)] at this
    clear ho;go_wp2_with fail;go_ret;exact ⟨_,rfl,HR.out,hb.out⟩
end Go.Proofs.YtdhlonogmnkemaaGreatDoor
namespace Go.Proofs.YtdhlonogmnkemaaGreatDoor
open Go.ChangeShapes Go.WideShapes Go.ChangeAt Go.RowKit Go.Maps Go.WideMaps Go.Shelf
set_option linter.unusedVariables false
set_option maxRecDepth 100000
attribute [local go_sem] Oper.semAt_some
def KeepN (n₀ mb:Nat) (W W':World):Prop:=W.heap.size≤W'.heap.size∧∀ g,g<n₀→g≠mb→W'.heap[g]?=W.heap[g]?
theorem KeepN.cell {n₀ mb:Nat} {W W':World} (h:KeepN n₀ mb W W') {g j:Nat} (hg:g<n₀) (hm:g≠mb):W'.cell? ⟨g,j,none⟩=W.cell? ⟨g,j,none⟩:=sqK (h.2 g hg hm)
end Go.Proofs.YtdhlonogmnkemaaGreatDoor
namespace Go.Proofs.YtdhlonogmnkemaaGreatDoor
open Go.ChangeShapes Go.WideShapes Go.ChangeAt Go.RowKit Go.Maps Go.WideMaps Go.Shelf Go.Proofs.Tryz
set_option linter.unusedVariables false
set_option maxRecDepth 100000
attribute [local go_sem] Oper.semAt_some
theorem below_put {N:Nat} {W:World} {l:Nat} (o':Obj) (h:N≤l):Below N W (W.putObj l o'):=by
 have g:=grownBy_putObj' W l o';refine ⟨g.os,g.tape,g.output,g.size,fun k hk=>World.putObj_heap_other (by omega)⟩
theorem range_idx {F:Fence} {n:Nat} {P:Program} {g:Operand} {ps:Array Tmp} {assign body:Code} {Q:Exit→Act→World→Prop} {a:Act} {w:World}
 (hro:F.round=none) (h1:1≤n) {gf:Nat} {lb:Array Value} (hg:a.eval g=.func (.func gf) #[] lb) (hFg:F.fn gf) (eg:∀ args w,(callFunc gf args).run P w=.ok (.enter gf args) w)
 {encs:Nat→Array Value} (hps:∀ k,(encs k).size=ps.size) (N mb:Nat) (hmb:mb<w.heap.size)
 (hseq:∀ (l:Nat) (J:Nat→World→Prop) (W:World),Bz w W →
  (∀ k W1,J k W1→k<N→YieldAt F (n - 1 - 1) P l (encs k) W1 fun e W'=>e=.returned (.bool true)∧J (k+1) W'∧KeepN w.heap.size mb W1 W') →
  J 0 W→CallsIn F (n - 1) P gf (#[.func (.yield l) #[] #[]] ++ lb) W fun e W'=>(∃ v,e=.returned v)∧J N W')
 (I:Nat→World→Prop) (hI:∀ k A B,I k A→w.heap.size≤A.heap.size→Below w.heap.size A B→I k B) (h0:I 0 w)
 (hround:∀ (l k:Nat) (W:World),I k W→w.heap.size≤W.heap.size→k<N→w.heap.size≤l →
  assign.wpIn (F.inRound l) (n - 1 - 1) P (Exit.then (fun a' W'=>Off [mb] W W'∧∀ r o',W'.heap[l]?=some (.loop r)→body.wpIn (F.inRound l) (n - 1 - 1) P (fun e _ W3=>e=.normal∧I (k+1) W3∧Off [mb] (W'.putObj l o') W3) a' (W'.putObj l o')) (fun _ _ _=>False))
   { tmps:=(ps.zip (encs k)).foldl (fun t (p,v)=>t.setIfInBounds p v) a.tmps,defers:=[] } W)
 (hdone:∀ (D:Nat) (W:World),w.heap.size≤D→I N W→W.heap[D]?=some (.deferred (some []))→Q .normal { a with defers:={ target:=.collected D,args:=#[] } :: a.defers } W) :
 (Code.rangeFunc g ps assign body).wpIn F n P Q a w:=by
 refine wpIn_rangeFunc fun fn hfn=>?_;rw [hro];obtain ⟨R,hR⟩:∃ R:LoopState→Loop,R=fun st=>{ state:=st,pending:=none,fn:=fn,tmps:=a.tmps,params:=ps,assign:=assign,body:=body,defers:=w.heap.size }:=⟨_,rfl⟩;obtain ⟨L,hL⟩:∃ L,L=w.heap.size+1:=⟨_,rfl⟩;obtain ⟨W1,hW1⟩:∃ W1,W1=(w.alloc (.deferred (some []))).alloc (.loop (R .ready)):=⟨_,rfl⟩;have b1:Bz w W1:=(by rw [hW1];exact ((Below.refl _ w).alloc (sqR _) _).alloc (by simp) _)
 have l1:W1.heap[L]?=some (.loop (R .ready)):=by
  have:=World.alloc_heap_new (w.alloc (.deferred (some []))) (.loop (R .ready));rw [World.size_alloc] at this;rw [hW1,hL];exact this
 have k1:W1.heap[w.heap.size]?=some (.deferred (some [])):=(by rw [hW1];exact (Below.heap_alloc _ _ _ (by simp)).trans (World.alloc_heap_new w _));have hLw:w.heap.size≤L:=(by omega);have hLn:w.heap.size≠L:=(by omega);refine ⟨L,[{ target:=.collected w.heap.size,args:=#[] }],W1,{ target:=.fn (.func gf) lb,args:=#[.func (.yield L) #[] #[]] },W1,gf,#[.func (.yield L) #[] #[]] ++ lb,W1,?_,?_,?_,?_,fun _=>h1,?_⟩
 · rw [hW1,hR,hL];exact run_enterLoop_outer _ _ _ _ _
 · simp only [resolve,hg]
   simp [go_sem]
 · intro f' hf';simp [Target.leads] at hf';subst hf';exact hFg
 · simp [invoke,go_sem,eg]
 · refine (hseq L (fun k W=>I k W∧W.heap[L]?=some (.loop (R .ready))∧W.heap[w.heap.size]?=some (.deferred (some []))∧w.heap.size≤W.heap.size) W1 b1 ?_ ⟨hI 0 w W1 h0 (sqR _) b1,l1,k1,b1.size⟩).mono ?_
   · rintro k W ⟨hi,hl,hk,hs⟩ hlen
     have hlt:L<W.heap.size:=(Array.getElem?_eq_some_iff.1 hl).1;have hdlt:w.heap.size<W.heap.size:=(Array.getElem?_eq_some_iff.1 hk).1;have hy:=run_yield (P:=P) (args:=encs k) hl (by rw [hR];exact hps k);rw [hR] at hy;refine ⟨fn,_,assign,body,hy,roundIn_of_wpIn hfn (wpIn_mono (hround L k W hi hs hlen hLw) ?_)⟩;rintro e a' W' hp
     cases e with
     | normal =>
      obtain ⟨ho,hb⟩:=hp;have hmL:L ∉ [mb]:=(by simp;omega);have hmD:w.heap.size ∉ [mb]:=(by simp;omega);have hl':W'.heap[L]?=some (.loop (R .ready)):=(ho.block L hlt hmL).trans hl;have hk':W'.heap[w.heap.size]?=some (.deferred (some [])):=(ho.block _ hdlt hmD).trans hk;have hlt':L<W'.heap.size:=(Array.getElem?_eq_some_iff.1 hl').1;refine ⟨_,run_beginRound hl' (by rw [hR]),wpIn_mono (hb _ _ hl') ?_⟩;rintro e a3 W3 ⟨rfl,hi3,ho3⟩;have hlp:=World.putObj_heap_same (o:=.loop { R .ready with state:=.busy }) hlt';have hl2:=(ho3.block L (by simpa using hlt') hmL).trans hlp;have hk2:=(ho3.block w.heap.size (by have:=ho.size;simp;omega) hmD).trans ((World.putObj_heap_other hLn).trans hk');have hr:=run_endRound (P:=P) none hl2;have hsz3:W.heap.size≤W3.heap.size:=Nat.le_trans ho.size (by have:=ho3.size;simpa using this);refine ⟨_,_,hr,rfl,⟨hI _ W3 _ hi3 (Nat.le_trans hs hsz3) (below_put _ hLw),?_,(World.putObj_heap_other hLn).trans hk2,by simp;omega⟩,?_⟩
      · rw [World.putObj_heap_same (Array.getElem?_eq_some_iff.1 hl2).1,hR];rfl
      · refine ⟨by simp;omega,fun b hb hm=>?_⟩
        have hbL:b≠L:=(by omega);have hbm:b ∉ [mb]:=(by simpa using hm);rw [World.putObj_heap_other hbL,ho3.block b (by have:=ho.size;simp;omega) hbm,World.putObj_heap_other hbL];exact ho.block b (by omega) hbm
     | _=>exact hp.elim
   · rintro e W2 ⟨⟨v,rfl⟩,hi,hl,hk,hs⟩
     have he:=run_endLoop (P:=P) hl (by rw [hR];simp);refine ⟨none,_,by rw [hR] at he;exact he,hdone _ _ (sqR _) (hI _ W2 _ hi hs (below_put _ hLw)) ((World.putObj_heap_other hLn).trans hk)⟩
theorem back_idx (m:Nat) (l Bn n₀ mb n cap:Nat) (p:Option Addr) (L:List (List Value)) (hn:L.length=n) (hnb:n≤9223372036854775807) (hB:Bn<n₀) (hBm:Bn≠mb) (J:Nat→World→Prop)
 (hY:∀ k W,J k W→k<n→YieldAt Fence.wide m prog l #[.int .i64 ((n - 1 - k:Nat):Nat),.agg (L.getD (n - 1 - k) []).toArray] W fun e W'=>e=.returned (.bool true)∧J (k+1) W'∧KeepN n₀ mb W W')
 (W:World) (hc:W.cell? ⟨Bn,0,none⟩=some (.slice p n cap))
 (hL:∀ i cs,L[i]?=some cs→cs.length=6∧∃ g off,p=some ⟨g,off,none⟩∧g<n₀∧g≠mb∧∀ j,j<6→W.cell? ⟨g,off+i * 6+j,none⟩=cs[j]?) (h0:J 0 W) :
 CallsIn Fence.wide (m+1) prog 242 #[.func (.yield l) #[] #[],.pointer (some ⟨Bn,0,none⟩)] W fun e W'=>(∃ v,e=.returned v)∧J n W':=by
 have HL:=hid hL;have HN:=hid hn;have HY:=hid hY;clear hL hn hY;refine callsIn_of_wp func242 rfl trivial ?_ rfl;simp only [ntmps242,List.size_toArray,List.length_cons,List.length_nil,Nat.reduceAdd,Nat.reduceSub,Array.replicate_succ,Array.replicate_zero,List.push_toArray,List.append_toArray,List.nil_append,List.cons_append]
 gi_wp2
 gi_loopw [3] (fun iv wr=>∃ k:Nat,k≤n∧iv=.int .i64 ((n:Int) - 1 - k)∧Hid (J k wr)∧Hid (KeepN n₀ mb W wr)) (fun iv _=>(intOf iv+1).toNat)
 case atStart=>exact ⟨0,Nat.zero_le _,by go_num,h0,Nat.le_refl _,fun _ _ _=>rfl⟩
 case round =>
  obtain ⟨k,hk,rfl,HJ,HK⟩:=hrel;have xb:=(HK.out.cell (j:=0) hB hBm).trans hc;by_cases hlt:k<n
  · obtain ⟨i,hi⟩:∃ i,i=n - 1 - k:=⟨_,rfl⟩
    have hin:i<n:=(by omega);have hii:(n:Int) - 1 - k=(i:Int):=(by omega);obtain ⟨cs,hcs⟩:=sqA (l:=L) (k:=i) HN.out hin;obtain ⟨hl6,g,off,rfl,hg,hgm,hat⟩:=HL.out i cs hcs;obtain ⟨c0,c1,c2,c3,c4,c5,rfl⟩:=len6 hl6;have a0:=(HK.out.cell hg hgm).trans (hat 0 (by omega));have a1:=(HK.out.cell hg hgm).trans (hat 1 (by omega));have a2:=(HK.out.cell hg hgm).trans (hat 2 (by omega));have a3:=(HK.out.cell hg hgm).trans (hat 3 (by omega));have a4:=(HK.out.cell hg hgm).trans (hat 4 (by omega));have a5:=(HK.out.cell hg hgm).trans (hat 5 (by omega));simp at a0 a1 a2 a3 a4 a5;have hgd:L.getD i [] = [c0,c1,c2,c3,c4,c5]:=(by rw [List.getD_eq_getElem?_getD,hcs];rfl);have hyy:=HY.out k wr HJ.out hlt;rw [← hi,hgd] at hyy;obtain ⟨fn,tmps,assign,body,hy,hR⟩:=hyy;have hi0:=sqI i;have hi1:(i:Int)<(n:Int):=(by omega);have HII:=hid hii;rw [hii];clear hat hl6 hi hii hgd
    gi_wp2
    refine hR.mono ?_;rintro e W3 ⟨rfl,hJ3,hk3⟩
    gi_wp2
    go_roundw
    case rel=>exact ⟨k+1,by omega,by have:=HII.out;go_num,hJ3,Nat.le_trans HK.out.1 hk3.1,fun g hg hm=>(hk3.2 g hg hm).trans (HK.out.2 g hg hm)⟩
    case measure=>simp [intOf]
  · have HS:J n wr:=by
     have:=HJ.out
     rwa [show k=n by omega] at this
    have hneg:((n:Int) - 1 - k) = -1:=(by omega);rw [hneg]
    gi_wp2
    go_end0;exact ⟨⟨_,rfl⟩,HS⟩
theorem back_any (p:Option Addr) (n cap:Nat) (w:World):Calls prog 230 #[.slice p n cap] w fun e w'=>e=.returned (.func (.func 242) #[] #[.pointer (some ⟨w.heap.size,0,none⟩)])∧w'=w.alloc (.cells #[.slice p n cap] 44):=by
 go_enter func230,ntmps230;go_wp2;go_ret;exact ⟨rfl,rfl⟩
end Go.Proofs.YtdhlonogmnkemaaGreatDoor
namespace Go.Proofs.YtdhlonogmnkemaaGreatDoor
open Go.ChangeShapes Go.WideShapes Go.ChangeAt Go.RowKit Go.Maps Go.WideMaps
set_option linter.unusedVariables false
set_option maxRecDepth 100000
theorem lawN:Keyed Tryz.prog 9:=string_keyed Tryz.underlying9
structure SetOkN (D:DataW Unit):Prop where
 tidy:Tidy D
 keys:∀ es,D=.map es→∀ p ∈ es,(∃ x,p.1=.string x)∧p.2=.agg []
theorem SetOkN.put {D:DataW Unit} (h:SetOkN D) (x:List UInt8):SetOkN (D.put (.string x) (.agg [])):=by
 refine ⟨h.tidy.put (k:=.string x) trivial _,fun es he p hp=>?_⟩;obtain ⟨es0,rfl,hp0⟩:=h.tidy;have he':DataW.insert (Lit.string x,DataW.agg []) (es0.filter fun p=>!p.1.sameKey (.string x))=es:=(by simpa [DataW.put] using he);rw [← he'] at hp;have hp2:=((insert_perm (Lit.string x,(DataW.agg []:DataW Unit)) (es0.filter fun p=>!p.1.sameKey (.string x))).mem_iff).1 hp
 rcases List.mem_cons.1 hp2 with rfl | hp2
 · exact ⟨⟨x,rfl⟩,rfl⟩
 · exact h.keys es0 rfl p (List.mem_filter.1 hp2).1
theorem SetOkN.del {D:DataW Unit} (h:SetOkN D) (x:List UInt8):SetOkN (D.del (.string x)):=by
 refine ⟨h.tidy.del _,fun es he p hp=>?_⟩;obtain ⟨es0,rfl,hp0⟩:=h.tidy;have he':(es0.filter fun p=>!p.1.sameKey (.string x))=es:=(by simpa [DataW.del] using he);rw [← he'] at hp;exact h.keys es0 rfl p (List.mem_filter.1 hp).1
def SetAt (w:World) (mb n:Nat) (S:List UInt8→Prop):Prop :=
 ∃ D,w.ownsMap Tryz.prog 9 unitElem mb n D∧SetOkN D∧∀ z,has D (.string z)=true ↔ S z
theorem SetAt.keep {w w':World} {mb n:Nat} {S:List UInt8→Prop} (h:SetAt w mb n S) (he:w'.heap[mb]?=w.heap[mb]?):SetAt w' mb n S:=by
 obtain ⟨D,⟨es,clock,h1,h2⟩,h3⟩:=h;exact ⟨D,⟨es,clock,he.trans h1,h2⟩,h3⟩
theorem SetAt.lt {w:World} {mb n:Nat} {S:List UInt8→Prop} (h:SetAt w mb n S):mb<w.heap.size:=by
 obtain ⟨D,⟨es,clock,h1,h2⟩,h3⟩:=h;exact (Array.getElem?_eq_some_iff.1 h1).1
theorem SetAt.iff {w:World} {mb n:Nat} {S S':List UInt8→Prop} (h:SetAt w mb n S) (hS:∀ z,S z ↔ S' z):SetAt w mb n S':=by
 obtain ⟨D,h1,h2,h3⟩:=h;exact ⟨D,h1,h2,fun z=>(h3 z).trans (hS z)⟩
theorem SetAt.more {w:World} {mb n n':Nat} {S:List UInt8→Prop} (h:SetAt w mb n S) (hn:n≤n'):SetAt w mb n' S:=by
 obtain ⟨D,h1,h2⟩:=h;exact ⟨D,h1.mono hn,h2⟩
theorem SetAt.made (w:World):SetAt (w.alloc (.map #[] 0)) w.heap.size 0 (fun _=>False) :=
 ⟨.map [],World.ownsMap_made w _ _ _,⟨⟨[],rfl,List.Pairwise.nil⟩,fun es he p hp=>by cases he;cases hp⟩,fun z=>by simp [has_eq]⟩
end Go.Proofs.YtdhlonogmnkemaaGreatDoor
namespace Go.Proofs.YtdhlonogmnkemaaGreatDoor
open Go.ChangeShapes Go.WideShapes Go.ChangeAt Go.RowKit Go.Maps Go.WideMaps Go.Proofs.Tryz
set_option linter.unusedVariables false
set_option maxRecDepth 100000
theorem addN_any (w:World) (mb n:Nat) (S:List UInt8→Prop) (s:ByteArray) (h:SetAt w mb n S) (hs:okS s) (hn:n<maxLen) :
 Calls prog 113 #[.map (some mb),.string s] w fun e w'=>e=.returned (.tuple #[])∧SetAt w' mb (n+1) (fun z=>S z∨z=s.data.toList)∧Off [mb] w w':=by
 obtain ⟨D,hm,hD,hh⟩:=h;have H:=hid hm;have hk:keyOf prog 9 (.string s)=some (.string s.data.toList):=keyOf_string_mk underlying9 hs;clear hm;go_enter func113,ntmps113;go_wp2_with (at_mapUpdate;refine wpList_mapUpdate_own _ rfl _ _ _ 151 rfl 9 _ lawN underlying151 unitElem mb n D rfl H.out hn _ _ _ rfl rfl hk (.agg []) [] unitElem_mk ?_;intro w1 hm1 hg1);go_end0;refine ⟨rfl,⟨_,hm1,hD.put _,fun z=>?_⟩,Off.of_grown hg1 (by simp)⟩;by_cases hz:z=s.data.toList
 · subst hz
   have hM:IsMap D:=(by obtain ⟨es,rfl,_⟩:=hD.tidy;exact ⟨es,rfl⟩);simp [has_put_same hM (k:=Lit.string s.data.toList) trivial]
 · rw [has_put_other (by intro e;cases e;exact hz rfl),hh z]
   simp [hz]
theorem removeN_any (w:World) (mb n:Nat) (S:List UInt8→Prop) (s:ByteArray) (h:SetAt w mb n S) (hs:okS s) :
 Calls prog 225 #[.map (some mb),.string s] w fun e w'=>e=.returned (.tuple #[])∧SetAt w' mb n (fun z=>S z∧z≠s.data.toList)∧Off [mb] w w':=by
 obtain ⟨D,hm,hD,hh⟩:=h;have H:=hid hm;have hk:keyOf prog 9 (.string s)=some (.string s.data.toList):=keyOf_string_mk underlying9 hs;clear hm;go_enter func225,ntmps225;go_wp2_with (at_delete;refine wpList_delete_own _ rfl _ _ 151 9 rfl _ lawN underlying151 unitElem mb n D rfl H.out _ _ rfl hk ?_;intro w1 hm1 hg1);go_end0;refine ⟨rfl,⟨_,hm1,hD.del _,fun z=>?_⟩,Off.of_grown hg1.grown (by simp)⟩;by_cases hz:z=s.data.toList
 · subst hz
   simp [has_del_same]
 · rw [has_del_other (by intro e;cases e;exact hz rfl),hh z]
   simp [hz]
variable {n0:Nat} {S0:List UInt8→Prop}
def RemAt (n0:Nat) (S0:List UInt8→Prop) (w:World) (mb:Nat) (K:List (List UInt8)):Prop:=SetAt w mb n0 (fun z=>S0 z∧z ∉ K)
theorem RemAt.keep {w w':World} {mb:Nat} {K:List (List UInt8)} (h:RemAt n0 S0 w mb K) (he:w'.heap[mb]?=w.heap[mb]?):RemAt n0 S0 w' mb K:=SetAt.keep h he
theorem RemAt.lt {w:World} {mb:Nat} {K:List (List UInt8)} (h:RemAt n0 S0 w mb K):mb<w.heap.size:=SetAt.lt h
theorem rem_any (w:World) (mb:Nat) (K:List (List UInt8)) (s:ByteArray) (h:RemAt n0 S0 w mb K) (hs:okS s) (hK:K.length<maxLen) :
 Calls prog 225 #[.map (some mb),.string s] w fun e w'=>e=.returned (.tuple #[])∧RemAt n0 S0 w' mb (K ++ [s.data.toList])∧Off [mb] w w':=by
 refine (removeN_any w mb n0 _ s h hs).mono ?_;rintro e w' ⟨rfl,h1,ho⟩;refine ⟨rfl,h1.iff (fun z=>?_),ho⟩;simp only [List.mem_append,List.mem_singleton,not_or,and_assoc]
structure EvR (n0:Nat) (S0:List UInt8→Prop) (w:World) (mb tb:Nat) (K:List (List UInt8)):Prop where
 m:RemAt n0 S0 w mb K
 b:Blk w tb #[.func (.func 225) #[.map (some mb)] #[]] 155
 ne:tb≠mb
theorem EvR.next {w w':World} {mb tb:Nat} {K:List (List UInt8)} (h:EvR n0 S0 w mb tb K) (hb:Bz w w'):EvR n0 S0 w' mb tb K :=
 ⟨h.m.keep (hb.block mb h.m.lt),h.b.next hb,h.ne⟩
theorem cbkR_any (w:World) (mb tb d:Nat) (cs:List Value) (x:Ex) (K:List (List UInt8)) (h:HEx w (fun g=>g≠mb) (d+1) cs x) (hv:EvR n0 S0 w mb tb K) (hK:K.length<67108864) (A:List (List UInt8)) (hA:(if x.kind=2 then [keyS x.text] else [])=A) :
 Calls prog 158 #[.agg cs.toArray,.pointer (some ⟨tb,0,none⟩)] w fun e w'=>e=.returned (.tuple #[])∧EvR n0 S0 w' mb tb (K ++ A)∧Off [mb] w w':=by
 obtain ⟨kv,cv,rfl,-,-,hts,-,f0,f1⟩:=h;obtain ⟨p,cap,rfl,-⟩:=f0;obtain ⟨pc,capc,rfl,-⟩:=f1;have BA:Bz w (w.alloc (.cells #[.int .i64 x.kind,.int .i64 x.n,.string x.text,.string x.mod,.slice p x.kids.length cap,.slice pc x.clauses.length capc] 76)):=(sqN _ _);have HV:=hid (hv.next BA);have HBA:=hid BA;have ct:=HV.out.b.cell 0 _ rfl;by_cases hk:x.kind=2
 · rw [if_pos hk] at hA
   subst hA;clear hv BA;rw [hk] at HV HBA ct ⊢;go_enter func158,ntmps158;go_wp2_with fail;refine (rem_any _ mb K x.text HV.out.m hts (by unfold maxLen;omega)).mono ?_;rintro e w1 ⟨rfl,hm1,ho1⟩;have h1:EvR n0 S0 w1 mb tb (K ++ [keyS x.text]):=⟨by unfold keyS;rw [ByteArray.toList_eq];exact hm1,(ho1.block tb HV.out.b.lt (by simpa using HV.out.ne)).trans HV.out.b,HV.out.ne⟩;go_wp2_with fail;go_end0;exact ⟨rfl,h1,(Off.of_below HBA.out).trans ho1⟩
 · rw [if_neg hk] at hA
   subst hA;rw [List.append_nil];have hkb:(x.kind == 2)=false:=(by simpa using hk);clear hv BA;go_enter func158,ntmps158;go_wp2_with fail;go_end0;exact ⟨rfl,HV.out,Off.of_below HBA.out⟩
def EeR (n0:Nat) (S0:List UInt8→Prop) (d:Nat):Prop:=∀ (w:World) (mb tb:Nat) (cs:List Value) (x:Ex) (K:List (List UInt8)),HEx w (fun g=>g≠mb) d cs x→EvR n0 S0 w mb tb K→K.length+(varL d x).length≤33554432 →
 Calls prog 157 #[.agg cs.toArray,FV tb] w fun e w'=>e=.returned (.tuple #[])∧EvR n0 S0 w' mb tb (K ++ varL d x)∧Off [mb] w w'
def EoR (n0:Nat) (S0:List UInt8→Prop) (d:Nat):Prop:=∀ (w:World) (mb tb:Nat) (v:Value) (es:List Ex) (K:List (List UInt8)),Rows w (fun g=>g≠mb) 6 (HEx w (fun g=>g≠mb) d) v es→EvR n0 S0 w mb tb K→K.length+(es.flatMap (varL d)).length≤33554432 →
 Calls prog 193 #[v,FV tb] w fun e w'=>e=.returned (.tuple #[])∧EvR n0 S0 w' mb tb (K ++ es.flatMap (varL d))∧Off [mb] w w'
theorem eachOfR_of {d:Nat} (hE:EeR n0 S0 d):EoR n0 S0 d:=by
 intro w mb tb v es K hr hv hK;obtain ⟨p,cap,rfl,hcl,hcm,hx⟩:=hr;have hnb:=sqM hcl hcm;have HX:=hid hx;have HV:=hid hv;have HK:=hid hK;generalize hn:es.length=n at *;have HN:=hid hn;clear hx hv hK hn;go_enter func193,ntmps193;go_wp2_with fail
 go_loopw [8] (fun iv wr=>∃ k:Nat,k≤n∧iv=.int .i64 k∧Hid (EvR n0 S0 wr mb tb (K ++ (es.take k).flatMap (varL d)))∧Hid (Off [mb] w wr)) (fun iv _=>n - (intOf iv).toNat)
 case atStart=>exact ⟨0,Nat.zero_le _,rfl,by show EvR n0 S0 _ _ _ _;simpa using HV.out,Off.refl _ _⟩
 case round =>
  obtain ⟨k,hk,rfl,HVk,HOk⟩:=hrel;by_cases hlt:k<n
  · obtain ⟨x,hxk⟩:=sqA (l:=es) (k:=k) HN.out hlt
    obtain ⟨g,off,rfl,hgm,hgl,hat⟩:=HX.out (sqE hxk);obtain ⟨cs,hcsl,hcs,r1⟩:=hat k x hxk;have E1:=hid (r1.offN HOk.out);obtain ⟨c0,c1,c2,c3,c4,c5,rfl⟩:=len6 hcsl;have hge:wr.heap[g]?=w.heap[g]?:=HOk.out.block g hgl (by simpa using hgm);have a0:=(sqK (a:=⟨g,off+k * 6+0,none⟩) hge).trans (hcs 0 (by omega));have a1:=(sqK (a:=⟨g,off+k * 6+1,none⟩) hge).trans (hcs 1 (by omega));have a2:=(sqK (a:=⟨g,off+k * 6+2,none⟩) hge).trans (hcs 2 (by omega));have a3:=(sqK (a:=⟨g,off+k * 6+3,none⟩) hge).trans (hcs 3 (by omega));have a4:=(sqK (a:=⟨g,off+k * 6+4,none⟩) hge).trans (hcs 4 (by omega));have a5:=(sqK (a:=⟨g,off+k * 6+5,none⟩) hge).trans (hcs 5 (by omega));simp at a0 a1 a2 a3 a4 a5
    have HJ:Hid (K ++ (es.take (k+1)).flatMap (varL d)=K ++ (es.take k).flatMap (varL d) ++ varL d x):=by
     show _=_;rw [List.take_add_one,hxk];simp
    have HKk:Hid ((K ++ (es.take k).flatMap (varL d)).length+(varL d x).length≤33554432):=by
     have h1:=HK.out
     have h2:(es.flatMap (varL d))=(es.take k).flatMap (varL d) ++ (varL d x ++ (es.drop (k+1)).flatMap (varL d)):=by
      have h3:es=es.take k ++ x :: es.drop (k+1):=by
       have h4:=List.take_append_drop k es;rw [List.drop_eq_getElem_cons (by rw [HN.out];exact hlt)] at h4;have h5:es[k]'(by rw [HN.out];exact hlt)=x:=(List.getElem?_eq_some_iff.1 hxk).2;rw [h5] at h4;exact h4.symm
      conv=>lhs;rw [h3]
      simp
     rw [h2] at h1;show _≤_;simp only [List.length_append] at h1 ⊢;omega
    generalize K ++ (es.take k).flatMap (varL d)=Kk at *;have hki:(k:Int)<(n:Int):=(by omega);have hk0:=sqI k;clear hat hcs hcsl r1 hge;obtain ⟨sk,sn,st,se,p1,n1,q1,p2,n2,q2,hsh⟩:=HEx.shapeN E1.out;simp only [List.cons.injEq,and_true] at hsh;obtain ⟨rfl,rfl,rfl,rfl,rfl,rfl⟩:=hsh;have HBA:Hid (Bz wr (wr.alloc (.cells #[.int .i64 sk,.int .i64 sn,.string st,.string se,.slice p1 n1 q1,.slice p2 n2 q2] 76))):=(sqN _ _);go_wp2_with fail;refine (hE _ mb tb _ x Kk (E1.out.offN (Off.of_below HBA.out)) (HVk.out.next HBA.out) HKk.out).mono ?_;rintro e w1 ⟨rfl,hv1,ho1⟩;go_wp2_with fail;exact ⟨⟨k+1,by omega,by go_num,by show EvR n0 S0 _ _ _ _;rw [HJ.out];exact hv1,(HOk.out.trans (Off.of_below HBA.out)).trans ho1⟩,by simp [intOf];omega⟩
  · have HS:Hid (EvR n0 S0 wr mb tb (K ++ es.flatMap (varL d))):=by
     have:=HVk.out
     rwa [List.take_of_length_le (by rw [HN.out];omega)] at this
    go_wp2_with fail;go_end0;exact ⟨rfl,HS.out,HOk.out⟩
theorem eachExpR_of {d:Nat} (hO:EoR n0 S0 d):EeR n0 S0 (d+1):=by
 intro w mb tb cs x K h hv hK;have HEX:=hid h;obtain ⟨kv,cv,rfl,-,-,hts,-,f0,f1⟩:=h;obtain ⟨kx,nx,tx,mx,ks,cl⟩:=x;simp only [Ex.kind,Ex.n,Ex.text,Ex.mod,Ex.kids,Ex.clauses] at *;have hvl:varL (d+1) (.mk kx nx tx mx ks cl)=(if kx=2 then [keyS tx] else []) ++ (ks.flatMap (varL d) ++ cl.flatMap fun c=>c.1.flatMap (varL d) ++ c.2.flatMap (varL d)):=rfl;rw [hvl] at hK ⊢;generalize hA:(if kx=2 then [keyS tx] else ([]:List (List UInt8)))=A at hK ⊢;have HA:=hid hA;simp only [List.length_append] at hK;have F0:=hid f0;obtain ⟨p,cap,rfl,-⟩:=id f0;obtain ⟨pc,capc,rfl,hcl',hcm',hxc⟩:=f1;have hnc:=sqM hcl' hcm';have HXC:=hid hxc;have HKK:=hid hK;generalize hm:cl.length=nc at *;have HNC:=hid hm;have HBA:Hid (Bz w (w.alloc (.cells #[.int .i64 kx,.int .i64 nx,.string tx,.string mx,.slice p ks.length cap,.slice pc nc capc] 76))):=(sqN _ _);have HV:=hid (hv.next HBA.out);have bA:Hid (Blk (w.alloc (.cells #[.int .i64 kx,.int .i64 nx,.string tx,.string mx,.slice p ks.length cap,.slice pc nc capc] 76)) w.heap.size #[.int .i64 kx,.int .i64 nx,.string tx,.string mx,.slice p ks.length cap,.slice pc nc capc] 76):=Blk.new;have hmb:mb≠w.heap.size:=(by have:=hv.m.lt;omega);clear f0 hxc hA hm hvl hv hK;go_enter func157,ntmps157;go_wp2_with fail;refine (cbkR_any _ mb tb d _ _ K (HEX.out.offN (Off.of_below HBA.out)) HV.out (by have:=HKK.out;omega) A HA.out).mono ?_;rintro e w1 ⟨rfl,hv1,ho1⟩;have HV1:=hid hv1;have HO1:Hid (Off [mb] w w1):=(Off.of_below HBA.out).trans ho1;have b1:Hid (Blk w1 w.heap.size #[.int .i64 kx,.int .i64 nx,.string tx,.string mx,.slice p ks.length cap,.slice pc nc capc] 76):=(ho1.block w.heap.size bA.out.lt (by simpa using fun e=>hmb e.symm)).trans bA.out;have x4:=b1.out.cell 4 _ rfl;clear hv1 ho1 HV bA;go_wp2_with fail;refine (hO _ mb tb _ ks (K ++ A) (Rows.mono F0.out ⟨HO1.out.size,fun g hg hl=>HO1.out.block g hl (by simpa using hg)⟩ (fun _ h=>h) (fun _ _ _ h=>HEx.offN h HO1.out)) HV1.out (by have:=HKK.out;simp only [List.length_append];omega)).mono ?_;rintro e w2 ⟨rfl,hv2,ho2⟩;have HV2:=hid hv2;have HO2:=hid (HO1.out.trans ho2);have b2:Hid (Blk w2 w.heap.size #[.int .i64 kx,.int .i64 nx,.string tx,.string mx,.slice p ks.length cap,.slice pc nc capc] 76):=(ho2.block w.heap.size b1.out.lt (by simpa using fun e=>hmb e.symm)).trans b1.out;have x5:=b2.out.cell 5 _ rfl;clear hv2 ho2 x4 b1 HV1 HO1;go_wp2_with fail
 go_loopw [16] (fun iv wr=>∃ k:Nat,k≤nc∧iv=.int .i64 k∧Hid (EvR n0 S0 wr mb tb (K ++ A ++ ks.flatMap (varL d) ++ (cl.take k).flatMap fun c=>c.1.flatMap (varL d) ++ c.2.flatMap (varL d)))∧Hid (Off [mb] w wr)) (fun iv _=>nc - (intOf iv).toNat)
 case atStart=>exact ⟨0,Nat.zero_le _,rfl,by show EvR n0 S0 _ _ _ _;simpa using HV2.out,HO2.out⟩
 case round =>
  obtain ⟨k,hk,rfl,HVk,HOk⟩:=hrel;clear x5 HV2 HO2 b2;by_cases hlt:k<nc
  · obtain ⟨c,hck⟩:∃ c,cl[k]?=some c:=⟨cl[k]'(by rw [HNC.out];exact hlt),List.getElem?_eq_getElem _⟩
    obtain ⟨g,off,rfl,hgm,hgl,hat⟩:=HXC.out (sqE hck);obtain ⟨cs,hcsl,hcs,pv,bv,rfl,rp,rb⟩:=hat k c hck;have SK:Hid (SameOn (fun g=>g≠mb) w wr):=⟨HOk.out.size,fun g hg hl=>HOk.out.block g hl (by simpa using hg)⟩;have RP:=hid (Rows.mono rp SK.out (fun _ h=>h) (fun _ _ _ h=>HEx.offN h HOk.out));have RB:=hid (Rows.mono rb SK.out (fun _ h=>h) (fun _ _ _ h=>HEx.offN h HOk.out));obtain ⟨pp,capp,rfl,-⟩:=rp;obtain ⟨pb,capb,rfl,-⟩:=rb;have hge:wr.heap[g]?=w.heap[g]?:=HOk.out.block g hgl (by simpa using hgm);have a0:=(sqK (a:=⟨g,off+k * 2+0,none⟩) hge).trans (hcs 0 (by omega));have a1:=(sqK (a:=⟨g,off+k * 2+1,none⟩) hge).trans (hcs 1 (by omega));simp at a0 a1
    have HJ:Hid ((K ++ A ++ ks.flatMap (varL d) ++ (cl.take (k+1)).flatMap fun c=>c.1.flatMap (varL d) ++ c.2.flatMap (varL d))=(K ++ A ++ ks.flatMap (varL d) ++ (cl.take k).flatMap fun c=>c.1.flatMap (varL d) ++ c.2.flatMap (varL d)) ++ c.1.flatMap (varL d) ++ c.2.flatMap (varL d)):=by
     show _=_;rw [List.take_add_one,hck];simp
    have HKk:Hid ((K ++ A ++ ks.flatMap (varL d) ++ (cl.take k).flatMap fun c=>c.1.flatMap (varL d) ++ c.2.flatMap (varL d)).length+(c.1.flatMap (varL d)).length+(c.2.flatMap (varL d)).length≤33554432):=by
     have h1:=HKK.out
     have h2:(cl.flatMap fun c=>c.1.flatMap (varL d) ++ c.2.flatMap (varL d))=((cl.take k).flatMap fun c=>c.1.flatMap (varL d) ++ c.2.flatMap (varL d)) ++ ((c.1.flatMap (varL d) ++ c.2.flatMap (varL d)) ++ (cl.drop (k+1)).flatMap fun c=>c.1.flatMap (varL d) ++ c.2.flatMap (varL d)):=by
      have h3:cl=cl.take k ++ c :: cl.drop (k+1):=by
       have h4:=List.take_append_drop k cl;rw [List.drop_eq_getElem_cons (by rw [HNC.out];exact hlt)] at h4;have h5:cl[k]'(by rw [HNC.out];exact hlt)=c:=(List.getElem?_eq_some_iff.1 hck).2;rw [h5] at h4;exact h4.symm
      conv=>lhs;rw [h3]
      simp
     rw [h2] at h1;show _≤_;simp only [List.length_append] at h1 ⊢;omega
    generalize (K ++ A ++ ks.flatMap (varL d) ++ (cl.take k).flatMap fun c=>c.1.flatMap (varL d) ++ c.2.flatMap (varL d))=Kk at *;have hki:(k:Int)<(nc:Int):=(by omega);have hk0:=sqI k;have hmw:mb≠wr.heap.size:=(by have:=HVk.out.m.lt;omega);have HBC:Hid (Bz wr (wr.alloc (.cells #[.slice pp c.1.length capp,.slice pb c.2.length capb] 46))):=(sqN _ _);have bC:Hid (Blk (wr.alloc (.cells #[.slice pp c.1.length capp,.slice pb c.2.length capb] 46)) wr.heap.size #[.slice pp c.1.length capp,.slice pb c.2.length capb] 46):=Blk.new;clear hat hcs hcsl hge;go_wp2_with fail;refine (hO _ mb tb _ c.1 Kk (Rows.mono RP.out ⟨HBC.out.size,fun g _ hl=>HBC.out.block g hl⟩ (fun _ h=>h) (fun _ _ _ h=>HEx.offN h (Off.of_below HBC.out))) (HVk.out.next HBC.out) (by have:=HKk.out;omega)).mono ?_;rintro e w3 ⟨rfl,hv3,ho3⟩;have HV3:=hid hv3;have HO3:Hid (Off [mb] wr w3):=(Off.of_below HBC.out).trans ho3;have b3:Blk w3 wr.heap.size #[.slice pp c.1.length capp,.slice pb c.2.length capb] 46:=(ho3.block wr.heap.size bC.out.lt (by simpa using fun e=>hmw e.symm)).trans bC.out;have y1:=b3.cell 1 _ rfl;clear hv3 ho3 bC b3 a0 a1;go_wp2_with fail;refine (hO _ mb tb _ c.2 (Kk ++ c.1.flatMap (varL d)) (Rows.mono RB.out ⟨HO3.out.size,fun g hg hl=>HO3.out.block g hl (by simpa using hg)⟩ (fun _ h=>h) (fun _ _ _ h=>HEx.offN h HO3.out)) HV3.out (by have:=HKk.out;simp only [List.length_append];omega)).mono ?_;rintro e w4 ⟨rfl,hv4,ho4⟩;go_wp2_with fail;exact ⟨⟨k+1,by omega,by go_num,by show EvR n0 S0 _ _ _ _;rw [HJ.out];exact hv4,(HOk.out.trans HO3.out).trans ho4⟩,by simp [intOf];omega⟩
  · have HS:Hid (EvR n0 S0 wr mb tb (K ++ (A ++ (ks.flatMap (varL d) ++ cl.flatMap fun c=>c.1.flatMap (varL d) ++ c.2.flatMap (varL d))))):=by
     have:=HVk.out;rw [List.take_of_length_le (by rw [HNC.out];omega)] at this;show EvR n0 S0 _ _ _ _
     simpa only [List.append_assoc] using this
    go_wp2_with fail;go_end0;exact ⟨rfl,HS.out,HOk.out⟩
theorem eachExpR_all:∀ d,EeR n0 S0 d
 | 0=>fun w mb tb cs x K h _ _=>h.elim
 | d+1=>eachExpR_of (eachOfR_of (eachExpR_all d))
theorem eachVarR_any (w:World) (mb d:Nat) (cs:List Value) (x:Ex) (K:List (List UInt8)) (h:HEx w (fun g=>g≠mb) d cs x) (hm:RemAt n0 S0 w mb K) (hK:K.length+(varL d x).length≤33554432) :
 Calls prog 112 #[.agg cs.toArray,.func (.func 225) #[.map (some mb)] #[]] w fun e w'=>e=.returned (.tuple #[])∧RemAt n0 S0 w' mb (K ++ varL d x)∧Off [mb] w w':=by
 obtain ⟨sk,sn,st,se,p1,n1,q1,p2,n2,q2,rfl⟩:=HEx.shapeN h;have HH:=hid h;have HM:=hid hm;have hlt:=hm.lt;clear h hm;go_enter func112,ntmps112;go_wp2_with fail;have hB:Bz w ((w.alloc (.cells #[.int .i64 sk,.int .i64 sn,.string st,.string se,.slice p1 n1 q1,.slice p2 n2 q2] 76)).alloc (.cells #[.func (.func 225) #[.map (some mb)] #[]] 155)):=((sqN _ _)).alloc (by simp) _
 have hE:EvR n0 S0 ((w.alloc (.cells #[.int .i64 sk,.int .i64 sn,.string st,.string se,.slice p1 n1 q1,.slice p2 n2 q2] 76)).alloc (.cells #[.func (.func 225) #[.map (some mb)] #[]] 155)) mb (w.heap.size+1) K:=⟨HM.out.keep (hB.block mb hlt),by
  have:=Blk.new (w:=w.alloc (.cells #[.int .i64 sk,.int .i64 sn,.string st,.string se,.slice p1 n1 q1,.slice p2 n2 q2] 76)) (cs:=#[.func (.func 225) #[.map (some mb)] #[]]) (t:=155)
  rwa [alloc_hs] at this,by omega⟩
 refine (eachExpR_all d _ mb (w.heap.size+1) _ x K (HH.out.offN (Off.of_below hB)) hE hK).mono ?_;rintro e w1 ⟨rfl,hv1,ho1⟩;go_wp2_with fail;go_end0;exact ⟨rfl,hv1.m,(Off.of_below hB).trans ho1⟩
theorem copyD_any (bd bs nd ns:Nat) (Dd Ds:DataW Unit) (w:World) (hd:w.ownsMap prog 9 unitElem bd nd Dd) (hs:w.ownsMap prog 9 unitElem bs ns Ds) (hne:bd≠bs) (hroom:nd+Maps.size Ds≤maxLen) :
 Calls prog 254 #[.map (some bd),.map (some bs)] w fun e w'=>e=.returned (.tuple #[])∧w'.ownsMap prog 9 unitElem bd (nd+Maps.size Ds) (Lib.mergeD Dd Ds)∧w.grownBy w' (some bd):=by
 have hbd:=hd.lt;have hbs:=hs.lt;go_enter func254,ntmps254;go_wp2_with (at_range;refine wpList_range_own _ rfl _ 151 rfl 9 _ lawN underlying151 unitElem bs ns _ rfl hs ?_;intro w0 hrg0 hg0 hs0)
 go_frame
 go_loopw [8] (fun _ wr=>∃ (left:Lit→Bool) (cnt:Nat) (Dout:DataW Unit),wr.ranges prog 9 unitElem bs w.heap.size ns Ds left cnt∧cnt≤Maps.size Ds∧wr.ownsMap prog 9 unitElem bd (nd+(Maps.size Ds - cnt)) Dout∧Merged Dout Dd Ds left∧w.grownBy wr (some bd)) (fun _ wr=>wr.rangeLeft bs w.heap.size)
 case atStart=>exact ⟨_,_,Dd,hrg0,Nat.le_refl _,(hd.kept hg0 (by simp)).mono (by omega),merged_start Dd Ds,hg0.but _⟩
 case round =>
  obtain ⟨left,cnt,Dout,hrg,hcs,hout,hM,hgw⟩:=hrel;go_wp2_with (at_next;refine wpList_next_ranges _ rfl _ rfl 9 lawN unitElem id id (fun key _ _=>⟨key,rfl⟩) (fun v _ _=>⟨v,rfl⟩) bs w.heap.size ns _ _ _ rfl hrg ?_ ?_)
  · intro hc0 hl0
    go_wp2_with fail;go_end0;subst hc0;have e:=merged_eq lawN.one hM hl0 (hout.canon lawN) (hd.canonK lawN) (hs.canonK lawN);subst e;exact ⟨rfl,by simpa using hout,hgw⟩
  · intro x c kl yd yp w1 cnt1 hkey hlx hv hat hrg1 hlt hg1 hs1 hen
    obtain ⟨rfl,hyd⟩:=unitElem_inv hv;have hout1:=hout.kept hg1 (fun e=>by have:=Option.some.inj e;omega);have ga:w1.grownBy (w1.alloc (.cells #[] 196)) none:=World.grownBy_alloc _ _ _;have hout3:=hout1.kept ga (by simp);have hrg3:=hrg1.kept ga (by simp) (by simp);go_wp2_with (at_mapUpdate;refine wpList_mapUpdate_own _ rfl _ _ _ 151 rfl 9 _ lawN underlying151 unitElem bd _ _ rfl hout3 (by omega) _ _ _ rfl rfl hkey yd yp hv ?_;intro w2 hout2 hg2;go_frame);have hrg2:=hrg3.kept hg2 (fun e=>hne (Option.some.inj e).symm) (fun e=>by have:=Option.some.inj e;omega)
    go_roundw
    case rel=>exact ⟨_,cnt1,_,hrg2,by omega,hout2.mono (by omega),merged_step hM hout.isMap (lawN.key hkey) hat,((hgw.andThen hg1 (fun j hj=>.inl (by cases hj;exact Nat.le_refl _))).andThen ga (fun j hj=>by cases hj)).andThen hg2 (fun j hj=>.inr hj)⟩
    case measure=>rw [hrg2.left_eq,hrg.left_eq];exact hlt
theorem has_merge {D:DataW Unit} (hD:SetOkN D):∀ (es:List (Lit × DataW Unit)),(∀ p ∈ es,(∃ x,p.1=.string x)∧p.2=.agg [])→SetOkN (es.foldl (fun D p=>D.put p.1 p.2) D)∧∀ z,has (es.foldl (fun D p=>D.put p.1 p.2) D) (.string z)=true ↔ has D (.string z)=true∨∃ p ∈ es,p.1=.string z
 | [],_=>⟨hD,fun z=>by simp⟩
 | q :: qs,h=>by
  obtain ⟨⟨x,hx⟩,hq⟩:=h q (by simp);have hD':SetOkN (D.put q.1 q.2):=(by rw [hx,hq];exact hD.put x);obtain ⟨h1,h2⟩:=has_merge hD' qs (fun p hp=>h p (by simp [hp]));refine ⟨h1,fun z=>?_⟩;rw [List.foldl_cons,h2 z];have hM:IsMap D:=(by obtain ⟨es,rfl,_⟩:=hD.tidy;exact ⟨es,rfl⟩);by_cases hz:z=x
  · subst hz
    rw [hx];simp [has_put_same hM (k:=Lit.string z) trivial,hx]
  · rw [hx,has_put_other (by intro e;cases e;exact hz rfl)]
    have:¬ Lit.string x=Lit.string z:=(by intro e;cases e;exact hz rfl);simp [hx,this]
theorem SetAt.size {w:World} {mb n:Nat} {D:DataW Unit} (hm:w.ownsMap prog 9 unitElem mb n D):Maps.size D≤n:=by
 obtain ⟨es,clock,-,-,h1,rfl⟩:=hm
 have h2:∀ (q:List (Lit × DataW Unit)),(q.foldr DataW.insert []).length=q.length:=fun q=>by
  induction q with
  | nil=>rfl
  | cons x xs ih=>rw [List.foldr_cons,DataW.length_insert,ih];rfl
 show (List.foldr DataW.insert [] _).length≤_;rw [h2,List.length_map,Array.length_toList];exact h1
theorem copyN_any (w:World) (bd bs nd ns:Nat) (S T:List UInt8→Prop) (hd:SetAt w bd nd S) (hs:SetAt w bs ns T) (hne:bd≠bs) (hroom:nd+ns≤maxLen) :
 Calls prog 254 #[.map (some bd),.map (some bs)] w fun e w'=>e=.returned (.tuple #[])∧SetAt w' bd (nd+ns) (fun z=>S z∨T z)∧Off [bd] w w':=by
 obtain ⟨Dd,hmd,hDd,hhd⟩:=hd;obtain ⟨Ds,hms,hDs,hhs⟩:=hs;have hsz:=SetAt.size hms;refine (copyD_any bd bs nd ns Dd Ds w hmd hms hne (by omega)).mono ?_;rintro e w' ⟨rfl,ho,hg⟩;obtain ⟨es,rfl,hp⟩:=hDs.tidy;obtain ⟨h1,h2⟩:=has_merge hDd es (hDs.keys es rfl);refine ⟨rfl,⟨_,ho.mono (by omega),h1,fun z=>(h2 z).trans ?_⟩,Off.of_grown hg (by simp)⟩;show _ ↔ S z∨T z;rw [hhd z,← hhs z,has_eq,List.any_eq_true]
 constructor
 · rintro (h | ⟨p,hp',e⟩)
   · exact .inl h
   · exact .inr ⟨p,hp',by rw [e];exact WideAt.sameKey_self trivial⟩
 · rintro (h | ⟨p,hp',e⟩)
   · exact .inl h
   · exact .inr ⟨p,hp',WideAt.sameKey_eq e⟩
end Go.Proofs.YtdhlonogmnkemaaGreatDoor
