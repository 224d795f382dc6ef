/-
  CheckImplA CheckImplB CheckSpecC ContS
-/
import Derived.Test.YtbdhpganbbandaaGreatDoorP30
import Derived.Test.YtbdhpganbbandaaGreatDoorP19
set_option maxHeartbeats 16000000
set_option linter.unusedVariables false
set_option maxRecDepth 100000
namespace Go.Proofs.YtbdhpganbbandaaGreatDoor
open Go.ChangeShapes Go.WideShapes Go.ChangeAt Go.RowKit
section
open Go.Proofs.Tryz
theorem isPut_any (w:World) (s:ByteArray) (n:Int) :
 Calls prog 174 #[.agg #[.string s,.int .i64 n]] w λe w'=>e=.returned (.bool (isPutB s n))/\Bz w w':=by
 have BL:Hid (∀ (cs:Array Value) (t:TypeId),Bz w (w.alloc (.cells cs t))):=λcs t=>(sqN _ _);have HV:Hid (isPutB s n=(s.toList == [112,117,116] && n == 1)):=rfl
 cases hp:(s.toList == [112,117,116]) with
 | false =>
  have hp2:¬ s.toList = [112,117,116]:=(by simpa using hp);go_enter func174,ntmps174;go_wp2;go_ret;exact ⟨by rw [HV.out,hp];rfl,BL.out _ _⟩
 | true =>
  have hp2:s.toList = [112,117,116]:=(by simpa using hp);go_enter func174,ntmps174;go_wp2;go_ret;exact ⟨by rw [HV.out,hp];rfl,BL.out _ _⟩
theorem calledRef_any (w:World) (k n:Int) (t m:ByteArray) (p1 p2:Option Addr) (n1 q1 n2 q2:Nat) (h1:n1<=9223372036854775807) :
 Calls prog 173 #[.agg #[.int .i64 k,.int .i64 n,.string t,.string m,.slice p1 n1 q1,.slice p2 n2 q2]] w λe w'=>e=.returned (.agg #[.string t,.int .i64 (n1:Int)])/\Bz w w':=by
 have BL:Hid (∀ (cs:Array Value) (t:TypeId),Bz w (w.alloc (.cells cs t))):=λcs t=>(sqN _ _);have BL2:Hid (∀ (cs cs':Array Value) (t t':TypeId),Bz w ((w.alloc (.cells cs t)).alloc (.cells cs' t'))):=λcs cs' t t'=>((sqN _ _)).alloc (by simp) _
 have RB:Hid (∀ (cs:Array Value) (ty:TypeId),Blk ((w.alloc (.cells cs ty)).alloc (.cells #[.string t,.int .i64 (n1:Int)] 110)) (w.heap.size+1) #[.string t,.int .i64 (n1:Int)] 110):=λcs ty=>by
  have:=Blk.new (w:=w.alloc (.cells cs ty)) (cs:=#[.string t,.int .i64 (n1:Int)]) (t:=110)
  rwa [alloc_hs] at this
 go_enter func173,ntmps173;go_wp2_with fail;have b:=RB.out #[.int .i64 k,.int .i64 n,.string t,.string m,.slice p1 n1 q1,.slice p2 n2 q2] 74;obtain ⟨y0,y1⟩:=sqB2 b;exact bodyPost_ret (v:=.agg #[.string t,.int .i64 (n1:Int)]) (by simp [results,results173,go_sem,y0,y1]) rfl ⟨rfl,BL2.out _ _ _ _⟩
theorem problemOf_any (w:World) (s:ByteArray) (p1 p2:Option Addr) (n1 q1 n2 q2:Nat) (rs:ByteArray) (rn:Int) (c:ByteArray) :
 Calls prog 115 #[.agg #[.string s,.slice p1 n1 q1,.slice p2 n2 q2],.agg #[.string rs,.int .i64 rn],.string c] w λe w'=>e=.returned (.agg #[.string s,.string rs,.int .i64 rn,.string c])/\Bz w w':=by
 have BL3:Hid (∀ (cs cs' cs'':Array Value) (t t' t'':TypeId),Bz w (((w.alloc (.cells cs t)).alloc (.cells cs' t')).alloc (.cells cs'' t''))):=λcs cs' cs'' t t' t''=>(((sqN _ _)).alloc (by simp only [alloc_hs];omega) _).alloc (by simp only [alloc_hs];omega) _
 have RB:Hid (∀ (cs cs':Array Value) (ty ty':TypeId),Blk (((w.alloc (.cells cs ty)).alloc (.cells cs' ty')).alloc (.cells #[.string s,.string rs,.int .i64 rn,.string c] 121)) (w.heap.size+1+1) #[.string s,.string rs,.int .i64 rn,.string c] 121):=λcs cs' ty ty'=>by
  have:=Blk.new (w:=(w.alloc (.cells cs ty)).alloc (.cells cs' ty')) (cs:=#[.string s,.string rs,.int .i64 rn,.string c]) (t:=121);simp only [alloc_hs] at this;exact this
 go_enter func115,ntmps115;go_wp2_with fail;have b:=RB.out #[.string s,.slice p1 n1 q1,.slice p2 n2 q2] #[.string rs,.int .i64 rn] 61 110;obtain ⟨y0,y1,y2,y3⟩:=sqB4 b;exact bodyPost_ret (v:=.agg #[.string s,.string rs,.int .i64 rn,.string c]) (by simp [results,results115,go_sem,y0,y1,y2,y3]) rfl ⟨rfl,BL3.out _ _ _ _ _ _⟩
theorem pbG:prog.eqGuardType prog.depth 121=false:=by kernel_rfl
theorem pbH:prog.stoodInHeld 121=false:=by kernel_rfl
theorem pbU:prog.underlying 121=some (.struct (prog.fieldsOf 121)):=by kernel_rfl
theorem pbE (a a' b b' e e':ByteArray) (n n':Int) (w:World):(Op.equalIn 10000 121 (.agg #[.string a,.string b,.int .i64 n,.string e]) (.agg #[.string a',.string b',.int .i64 n',.string e'])).run prog w=.ok ((a.toList == a'.toList) && ((b.toList == b'.toList) && ((n == n') && (e.toList == e'.toList)))) w:=by
 rw [show (10000:Nat)=9999+1 from rfl,run_equalIn_struct w 9999 _ _ _ pbU pbH]
 cases h1:(a.toList == a'.toList) <;> cases h2:(b.toList == b'.toList) <;> cases h3:(n == n') <;> cases h4:(e.toList == e'.toList) <;> simp [go_sem,Program.fieldsOf,underlying121,underlying3,underlying9,Op.eqFields,h1,h2,h3,h4]
def samePb (q x:Pb):Bool:=q.mod.toList == x.mod.toList && (q.name.toList == x.name.toList && (q.arity == x.arity && q.code.toList == x.code.toList))
theorem indexR_any (w:World) (v:Value) (l:List Rf) (s:ByteArray) (n:Int) (h:Rows w All 2 HRf v l) :
 Calls prog 143 #[v,.agg #[.string s,.int .i64 n]] w λe w'=>e=.returned (.int .i64 (findI (sameRf s n) l))/\Bz w w':=by
 obtain ⟨p,cap,rfl,hcl,hcm,hx⟩:=h;have hnb:=sqM hcl hcm;generalize hn:l.length=n9 at *;have HN:=hid hn;have HX:=hid hx;obtain ⟨W1,hW1⟩:∃ W1,W1=w.alloc (.cells #[.string s,.int .i64 n] 110):=⟨_,rfl⟩;have bA:Hid (Blk W1 w.heap.size #[.string s,.int .i64 n] 110):=(by show Blk _ _ _ _;rw [hW1];exact Blk.new);have B1:Hid (Bz w W1):=(by show Below _ _ _;rw [hW1];exact (sqN _ _));have HW1:=hid hW1;clear hx hn hW1;go_enter func143,ntmps143;go_wp2_with fail;rw [<-HW1.out]
 go_loopw [8] (λiv wr=>∃ k:Nat,k<=n9/\iv=.int .i64 k/\Hid ((l.take k).any (sameRf s n)=false)/\Hid (SameOn All W1 wr)/\Bz w wr) (λiv _=>n9 - (intOf iv).toNat)
 case atStart=>exact ⟨0,Nat.zero_le _,rfl,by show _=_;simp,sqS,B1.out⟩
 case round =>
  obtain ⟨k,hk,rfl,hall,hso,hb⟩:=hrel;have HB:=hid hb;have bR:=bA.out.same_on hso.out;by_cases hlt:k<n9
  . obtain ⟨x,hxk⟩:=sqA (l:=l) (k:=k) HN.out hlt
    obtain ⟨g,off,rfl,-,hgl,hat⟩:=HX.out (sqE hxk);obtain ⟨cs,hcsl,hcs,rfl,-⟩:=hat k x hxk;obtain ⟨a0,a1⟩:=sqC2 hcs (by omega);rw [<-hb.cell (p:=⟨g,_,none⟩) hgl] at a0 a1;simp at a0 a1;have hki:(k:Int)<(n9:Int):=(by omega);have hk0:=sqI k;have hgw:g<wr.heap.size:=Nat.lt_of_lt_of_le hgl hb.size;have l1:=bR.lt;obtain ⟨y0,y1⟩:=sqB2 bR;have qy0:∀ m:Wd (λw'=>SameOn All wr w'/\Bz w w'),m.val.cell? ⟨w.heap.size,0,none⟩=some (.string s):=λm=>(sqK (m.ok.1.2 w.heap.size trivial l1)).trans y0;have qy1:∀ m:Wd (λw'=>SameOn All wr w'/\Bz w w'),m.val.cell? ⟨w.heap.size,1,none⟩=some (.int .i64 n):=λm=>(sqK (m.ok.1.2 w.heap.size trivial l1)).trans y1;have qz0:∀ m:Wd (λw'=>SameOn All wr w'/\Bz w w'),m.val.cell? ⟨g,off+k * 2,none⟩=some (.string x.name):=λm=>(sqK (m.ok.1.2 g trivial hgw)).trans a0;have qz1:∀ m:Wd (λw'=>SameOn All wr w'/\Bz w w'),m.val.cell? ⟨g,off+k * 2+1,none⟩=some (.int .i64 x.arity):=λm=>(sqK (m.ok.1.2 g trivial hgw)).trans a1;clear hb hcs hat hcsl l1 bR a0 a1 y0 y1;go_wp2_with fail;have e1:=refG;have e2:=refE;have hCne:Nonempty (Wd (λw'=>SameOn All wr w'/\Bz w w')):=⟨⟨wr.drew,⟨sqS,HB.out.drew⟩⟩⟩;refine wp_region_class (λw'=>SameOn All wr w'/\Bz w w') (by kernel_rfl) (by kernel_rfl) ⟨sqS,HB.out.drew⟩ ?_
    repeat (go_big_quiet_step (fail))
    refine wpQuiet_nil ?_;rintro _ ⟨mq,rfl⟩;have HB4:=hid mq.ok.2;have HS4:=hid (hso.out.trans mq.ok.1);generalize mq.val=w4 at HB4 HS4 ⊢;generalize hcv:(s.toList == x.name.toList && n == x.arity)=cv
    have hcf:sameRf s n x=cv:=by rw [<-hcv];simp only [sameRf];congr 1 <;> exact Bool.beq_comm
    clear hcv
    cases cv with
    | false =>
     have HT':=hid (anyT_succ _ l k _ hxk hall.out hcf);clear hcf;go_wp2_with fail;exact ⟨⟨k+1,by omega,by go_num,HT'.out,HS4.out,HB4.out⟩,by simp [intOf];omega⟩
    | true =>
     have HF:=hid (findI_at hall.out hxk hcf);clear hcf;go_wp2;go_ret;exact ⟨by rw [HF.out];rfl,HB4.out⟩
  . have HS:Hid (findI (sameRf s n) l = -1):=findI_none (by
     have:=hall.out
     rwa [List.take_of_length_le (by rw [HN.out];omega)] at this)
    clear bR;go_wp2;go_ret;exact ⟨by rw [HS.out];rfl,HB.out⟩
theorem containsR_any (w:World) (v:Value) (l:List Rf) (s:ByteArray) (n:Int) (h:Rows w All 2 HRf v l) :
 Calls prog 114 #[v,.agg #[.string s,.int .i64 n]] w λe w'=>e=.returned (.bool (l.any (sameRf s n)))/\Bz w w':=by
 have hb0:Bz w (w.alloc (.cells #[.string s,.int .i64 n] 110)):=(sqN _ _);have CI:=hid (indexR_any _ v l s n (h.mono (sqO hb0) sqj (λ_ _ _ h=>h)));have HB0:=hid hb0;obtain ⟨p,cap,rfl,-⟩:=h;clear hb0
 rcases findI_cases (sameRf s n) l with ⟨hf,hfi⟩ | ⟨k,y,hf,-,-,hfi,-⟩
 . have HF:=hid hf
   rw [hfi] at CI;clear hf hfi;go_enter func114,ntmps114;go_wp2_with fail;refine CI.out.mono ?_;rintro e w1 ⟨rfl,hb⟩;have B1:=hid (HB0.out.trans (hb.mono HB0.out.size));clear hb;go_wp2;go_ret;exact ⟨by rw [HF.out];rfl,B1.out⟩
 . have HF:=hid hf
   rw [hfi] at CI;have hk0:=sqI k;clear hf hfi;go_enter func114,ntmps114;go_wp2_with fail;refine CI.out.mono ?_;rintro e w1 ⟨rfl,hb⟩;have B1:=hid (HB0.out.trans (hb.mono HB0.out.size));clear hb;go_wp2;go_ret;exact ⟨by rw [HF.out];first | rfl | simp,B1.out⟩
theorem indexP_any (w:World) (v:Value) (l:List Pb) (q:Pb) (h:Rows w All 4 HPb v l) :
 Calls prog 176 #[v,.agg #[.string q.mod,.string q.name,.int .i64 q.arity,.string q.code]] w λe w'=>e=.returned (.int .i64 (findI (samePb q) l))/\Bz w w':=by
 obtain ⟨p,cap,rfl,hcl,hcm,hx⟩:=h;have hnb:=sqM hcl hcm;generalize hn:l.length=n9 at *;have HN:=hid hn;have HX:=hid hx;obtain ⟨W1,hW1⟩:∃ W1,W1=w.alloc (.cells #[.string q.mod,.string q.name,.int .i64 q.arity,.string q.code] 121):=⟨_,rfl⟩;have bA:Hid (Blk W1 w.heap.size #[.string q.mod,.string q.name,.int .i64 q.arity,.string q.code] 121):=(by show Blk _ _ _ _;rw [hW1];exact Blk.new);have B1:Hid (Bz w W1):=(by show Below _ _ _;rw [hW1];exact (sqN _ _));have HW1:=hid hW1;clear hx hn hW1;go_enter func176,ntmps176;go_wp2_with fail;rw [<-HW1.out]
 go_loopw [8] (λiv wr=>∃ k:Nat,k<=n9/\iv=.int .i64 k/\Hid ((l.take k).any (samePb q)=false)/\Hid (SameOn All W1 wr)/\Bz w wr) (λiv _=>n9 - (intOf iv).toNat)
 case atStart=>exact ⟨0,Nat.zero_le _,rfl,by show _=_;simp,sqS,B1.out⟩
 case round =>
  obtain ⟨k,hk,rfl,hall,hso,hb⟩:=hrel;have HB:=hid hb;have bR:=bA.out.same_on hso.out;by_cases hlt:k<n9
  . obtain ⟨x,hxk⟩:=sqA (l:=l) (k:=k) HN.out hlt
    obtain ⟨g,off,rfl,-,hgl,hat⟩:=HX.out (sqE hxk);obtain ⟨cs,hcsl,hcs,rfl,-⟩:=hat k x hxk;obtain ⟨a0,a1,a2,a3⟩:=sqC4 hcs (by omega);rw [<-hb.cell (p:=⟨g,_,none⟩) hgl] at a0 a1 a2 a3;simp at a0 a1 a2 a3;have hki:(k:Int)<(n9:Int):=(by omega);have hk0:=sqI k;have hgw:g<wr.heap.size:=Nat.lt_of_lt_of_le hgl hb.size;have l1:=bR.lt;obtain ⟨y0,y1,y2,y3⟩:=sqB4 bR;have qy0:∀ m:Wd (λw'=>SameOn All wr w'/\Bz w w'),m.val.cell? ⟨w.heap.size,0,none⟩=some (.string q.mod):=λm=>(sqK (m.ok.1.2 w.heap.size trivial l1)).trans y0;have qy1:∀ m:Wd (λw'=>SameOn All wr w'/\Bz w w'),m.val.cell? ⟨w.heap.size,1,none⟩=some (.string q.name):=λm=>(sqK (m.ok.1.2 w.heap.size trivial l1)).trans y1;have qy2:∀ m:Wd (λw'=>SameOn All wr w'/\Bz w w'),m.val.cell? ⟨w.heap.size,2,none⟩=some (.int .i64 q.arity):=λm=>(sqK (m.ok.1.2 w.heap.size trivial l1)).trans y2;have qy3:∀ m:Wd (λw'=>SameOn All wr w'/\Bz w w'),m.val.cell? ⟨w.heap.size,3,none⟩=some (.string q.code):=λm=>(sqK (m.ok.1.2 w.heap.size trivial l1)).trans y3;have qz0:∀ m:Wd (λw'=>SameOn All wr w'/\Bz w w'),m.val.cell? ⟨g,off+k * 4,none⟩=some (.string x.mod):=λm=>(sqK (m.ok.1.2 g trivial hgw)).trans a0;have qz1:∀ m:Wd (λw'=>SameOn All wr w'/\Bz w w'),m.val.cell? ⟨g,off+k * 4+1,none⟩=some (.string x.name):=λm=>(sqK (m.ok.1.2 g trivial hgw)).trans a1;have qz2:∀ m:Wd (λw'=>SameOn All wr w'/\Bz w w'),m.val.cell? ⟨g,off+k * 4+2,none⟩=some (.int .i64 x.arity):=λm=>(sqK (m.ok.1.2 g trivial hgw)).trans a2;have qz3:∀ m:Wd (λw'=>SameOn All wr w'/\Bz w w'),m.val.cell? ⟨g,off+k * 4+3,none⟩=some (.string x.code):=λm=>(sqK (m.ok.1.2 g trivial hgw)).trans a3;clear hb hcs hat hcsl l1 bR a0 a1 a2 a3 y0 y1 y2 y3;go_wp2_with fail;have e1:=pbG;have e2:=pbE;have hCne:Nonempty (Wd (λw'=>SameOn All wr w'/\Bz w w')):=⟨⟨wr.drew,⟨sqS,HB.out.drew⟩⟩⟩;refine wp_region_class (λw'=>SameOn All wr w'/\Bz w w') (by kernel_rfl) (by kernel_rfl) ⟨sqS,HB.out.drew⟩ ?_
    repeat (go_big_quiet_step (fail))
    refine wpQuiet_nil ?_;rintro _ ⟨mq,rfl⟩;have HB4:=hid mq.ok.2;have HS4:=hid (hso.out.trans mq.ok.1);generalize mq.val=w4 at HB4 HS4 ⊢;generalize hcv:(q.mod.toList == x.mod.toList && (q.name.toList == x.name.toList && (q.arity == x.arity && q.code.toList == x.code.toList)))=cv;have hcf:samePb q x=cv:=(by rw [<-hcv];rfl);clear hcv
    cases cv with
    | false =>
     have HT':=hid (anyT_succ _ l k _ hxk hall.out hcf);clear hcf;go_wp2_with fail;exact ⟨⟨k+1,by omega,by go_num,HT'.out,HS4.out,HB4.out⟩,by simp [intOf];omega⟩
    | true =>
     have HF:=hid (findI_at hall.out hxk hcf);clear hcf;go_wp2;go_ret;exact ⟨by rw [HF.out];rfl,HB4.out⟩
  . have HS:Hid (findI (samePb q) l = -1):=findI_none (by
     have:=hall.out
     rwa [List.take_of_length_le (by rw [HN.out];omega)] at this)
    clear bR;go_wp2;go_ret;exact ⟨by rw [HS.out];rfl,HB.out⟩
theorem containsP_any (w:World) (v:Value) (l:List Pb) (q:Pb) (h:Rows w All 4 HPb v l) :
 Calls prog 147 #[v,.agg #[.string q.mod,.string q.name,.int .i64 q.arity,.string q.code]] w λe w'=>e=.returned (.bool (l.any (samePb q)))/\Bz w w':=by
 have hb0:Bz w (w.alloc (.cells #[.string q.mod,.string q.name,.int .i64 q.arity,.string q.code] 121)):=(sqN _ _);have CI:=hid (indexP_any _ v l q (h.mono (sqO hb0) sqj (λ_ _ _ h=>h)));have HB0:=hid hb0;obtain ⟨p,cap,rfl,-⟩:=h;clear hb0
 rcases findI_cases (samePb q) l with ⟨hf,hfi⟩ | ⟨k,y,hf,-,-,hfi,-⟩
 . have HF:=hid hf
   rw [hfi] at CI;clear hf hfi;go_enter func147,ntmps147;go_wp2_with fail;refine CI.out.mono ?_;rintro e w1 ⟨rfl,hb⟩;have B1:=hid (HB0.out.trans (hb.mono HB0.out.size));clear hb;go_wp2;go_ret;exact ⟨by rw [HF.out];rfl,B1.out⟩
 . have HF:=hid hf
   rw [hfi] at CI;have hk0:=sqI k;clear hf hfi;go_enter func147,ntmps147;go_wp2_with fail;refine CI.out.mono ?_;rintro e w1 ⟨rfl,hb⟩;have B1:=hid (HB0.out.trans (hb.mono HB0.out.size));clear hb;go_wp2;go_ret;exact ⟨by rw [HF.out];first | rfl | simp,B1.out⟩
def modOr (ms:List Md) (s:ByteArray):Md:=(ms.find? (named s)).getD ⟨⟨#[]⟩,[],[]⟩
theorem find_at {α:Type} {f:α->Bool} {xs:List α} {k:Nat} {x:α} (h:(xs.take k).any f=false) (hx:xs[k]?=some x) (hf:f x=true):xs.find? f=some x/\xs.any f=true:=by
 obtain ⟨hk,he⟩:=List.getElem?_eq_some_iff.1 hx;refine ⟨?_,List.any_eq_true.2 ⟨x,List.mem_of_getElem? hx,hf⟩⟩;rw [List.find?_eq_some_iff_getElem];refine ⟨hf,k,hk,he,λj hj=>?_⟩;have:=List.any_eq_false.1 h (xs[j]) (List.mem_of_getElem? (i:=j) (by rw [List.getElem?_take,if_pos hj];exact List.getElem?_eq_getElem _))
 simpa using this
theorem named_any (d:Nat) (w:World) (v:Value) (ms:List Md) (s:ByteArray) (h:Rows w All 3 (HMd w All d) v ms) :
 Calls prog 190 #[v,.string s] w λe w'=>∃ cs:List Value,e=.returned (.tuple #[.agg cs.toArray,.bool (ms.any (named s))])/\HMd w' All d cs (modOr ms s)/\Bz w w':=by
 obtain ⟨p,cap,rfl,hcl,hcm,hx⟩:=h;have hnb:=sqM hcl hcm;generalize hn:ms.length=n at *;have HN:=hid hn;have HX:=hid hx;obtain ⟨W1,hW1⟩:∃ W1,W1=w.alloc (.cells #[.string ⟨#[]⟩,.slice none 0 0,.slice none 0 0] 61):=⟨_,rfl⟩;have bR:Hid (Blk W1 w.heap.size #[.string ⟨#[]⟩,.slice none 0 0,.slice none 0 0] 61):=(by show Blk _ _ _ _;rw [hW1];exact Blk.new);have B1:Hid (Bz w W1):=(by show Below _ _ _;rw [hW1];exact (sqN _ _));have HW1:=hid hW1;clear hx hn hW1;go_enter func190,ntmps190;go_wp2_with fail;rw [<-HW1.out]
 go_loopw [10] (λiv wr=>∃ k:Nat,k<=n/\iv=.int .i64 k/\Hid ((ms.take k).any (named s)=false)/\Hid (SameOn All W1 wr)/\Bz w wr) (λiv _=>n - (intOf iv).toNat)
 case atStart=>exact ⟨0,Nat.zero_le _,rfl,by show _=_;simp,sqS,B1.out⟩
 case round =>
  obtain ⟨k,hk,rfl,hall,hso,hb⟩:=hrel;have HB:=hid hb;have bRr:=hid (bR.out.same_on hso.out);by_cases hlt:k<n
  . obtain ⟨x,hxk⟩:=sqA (l:=ms) (k:=k) HN.out hlt
    obtain ⟨g,off,rfl,-,hgl,hat⟩:=HX.out (sqE hxk);obtain ⟨cs,hcsl,hcs,hm⟩:=hat k x hxk;have HMX:Hid (∀ w',Bz w w'->HMd w' All d cs x):=λw' hw=>hm.mono (sqO hw) sqj;obtain ⟨ev,fv,rfl,-,⟨pe,ce,rfl,-⟩,⟨pf,cf,rfl,-⟩⟩:=hm;obtain ⟨a0,a1,a2⟩:=sqC3 hcs (by omega);rw [<-hb.cell (p:=⟨g,_,none⟩) hgl] at a0 a1 a2;simp at a0 a1 a2;have hki:(k:Int)<(n:Int):=(by omega);have hk0:=sqI k;have hal:Bz wr (wr.alloc (.cells #[.string x.name,.slice pe x.exports.length ce,.slice pf x.funs.length cf] 61)):=(sqN _ _);have HAL:=hid hal;have HBA:=hid (hb.trans (hal.mono hb.size));have HSA:=hid (hso.out.trans (sqO hal));have bRa:=hid (bRr.out.next hal);obtain ⟨r0,r1,r2⟩:=sqB3 bRa.out;obtain ⟨f0,f1,f2⟩:=sqF3 bRa.out;clear hcs hat hcsl hal
    cases hq:(x.name.toList == s.toList) with
    | true =>
     obtain ⟨hfd,hany⟩:=find_at hall.out hxk (show named s x=true from hq);have HFD:Hid (modOr ms s=x/\ms.any (named s)=true):=⟨by simp [modOr,hfd],hany⟩;clear hfd hany;go_wp2_with fail;have bz:Blk ((((wr.alloc (.cells #[.string x.name,.slice pe x.exports.length ce,.slice pf x.funs.length cf] 61)).setCell ⟨w.heap.size,0,none⟩ (.string x.name)).setCell ⟨w.heap.size,1,none⟩ (.slice pe x.exports.length ce)).setCell ⟨w.heap.size,2,none⟩ (.slice pf x.funs.length cf)) w.heap.size #[.string x.name,.slice pe x.exports.length ce,.slice pf x.funs.length cf] 61:=((bRa.out.same rfl).same rfl).same rfl;have hz:Bz w ((((wr.alloc (.cells #[.string x.name,.slice pe x.exports.length ce,.slice pf x.funs.length cf] 61)).setCell ⟨w.heap.size,0,none⟩ (.string x.name)).setCell ⟨w.heap.size,1,none⟩ (.slice pe x.exports.length ce)).setCell ⟨w.heap.size,2,none⟩ (.slice pf x.funs.length cf)):=((HBA.out.setCell (sqR _) _).setCell (sqR _) _).setCell (sqR _) _;obtain ⟨z0,z1,z2⟩:=sqB3 bz;exact bodyPost_ret (v:=.tuple #[.agg #[.string x.name,.slice pe x.exports.length ce,.slice pf x.funs.length cf],.bool true]) (by simp [results,results190,go_sem,z0,z1,z2]) rfl ⟨_,by rw [HFD.out.2],by rw [HFD.out.1];exact HMX.out _ hz,hz⟩
    | false =>
     have HT':=hid (anyT_succ _ ms k _ hxk hall.out hq);go_wp2_with fail;exact ⟨⟨k+1,by omega,by go_num,HT'.out,HSA.out,HBA.out⟩,by simp [intOf];omega⟩
  . have HS:Hid (ms.any (named s)=false):=by
     have:=hall.out
     rwa [List.take_of_length_le (by rw [HN.out];omega)] at this
    have HMO:Hid (modOr ms s=⟨⟨#[]⟩,[],[]⟩):=by
     have:ms.find? (named s)=none:=List.find?_eq_none.2 (λx hx=>by simpa using List.any_eq_false.1 HS.out x hx);show _=_;simp [modOr,this]
    obtain ⟨r0,r1,r2⟩:=sqB3 bRr.out;obtain ⟨f0,f1,f2⟩:=sqF3 bRr.out;go_wp2_with fail;have bz:Blk (((wr.setCell ⟨w.heap.size,0,none⟩ (.string ⟨#[]⟩)).setCell ⟨w.heap.size,1,none⟩ (.slice none 0 0)).setCell ⟨w.heap.size,2,none⟩ (.slice none 0 0)) w.heap.size #[.string ⟨#[]⟩,.slice none 0 0,.slice none 0 0] 61:=((bRr.out.same rfl).same rfl).same rfl;have hz:Bz w (((wr.setCell ⟨w.heap.size,0,none⟩ (.string ⟨#[]⟩)).setCell ⟨w.heap.size,1,none⟩ (.slice none 0 0)).setCell ⟨w.heap.size,2,none⟩ (.slice none 0 0)):=((HB.out.setCell (sqR _) _).setCell (sqR _) _).setCell (sqR _) _;obtain ⟨z0,z1,z2⟩:=sqB3 bz;exact bodyPost_ret (v:=.tuple #[.agg #[.string ⟨#[]⟩,.slice none 0 0,.slice none 0 0],.bool false]) (by simp [results,results190,go_sem,z0,z1,z2]) rfl ⟨[.string ⟨#[]⟩,.slice none 0 0,.slice none 0 0],by rw [HS.out],by rw [HMO.out];exact ⟨_,_,rfl,by unfold okS;decide,Rows.nil (Nat.zero_le _),Rows.nil (Nat.zero_le _)⟩,hz⟩
theorem offers_eq (ms:List Md) (mod s:ByteArray) (n:Int):offersB ms mod s n=(ms.any (named mod) && (hasX (modOr ms mod) s n && hasF (modOr ms mod) s n)):=by
 cases h:ms.find? (named mod) with
 | none =>
  have:ms.any (named mod)=false:=List.any_eq_false.2 (λx hx=>by simpa using List.find?_eq_none.1 h x hx);simp [offersB,h,this]
 | some y =>
  have:ms.any (named mod)=true:=List.any_eq_true.2 ⟨y,List.mem_of_find?_eq_some h,List.find?_some h⟩;simp [offersB,modOr,h,this]
theorem offers_any (d:Nat) (w:World) (v:Value) (ms:List Md) (mod s:ByteArray) (n:Int) (h:Rows w All 3 (HMd w All d) v ms) :
 Calls prog 175 #[v,.string mod,.agg #[.string s,.int .i64 n]] w λe w'=>e=.returned (.bool (offersB ms mod s n))/\Bz w w':=by
 have hb0:Bz w (w.alloc (.cells #[.string s,.int .i64 n] 110)):=(sqN _ _);have HB0:=hid hb0;have bR:Hid (Blk (w.alloc (.cells #[.string s,.int .i64 n] 110)) w.heap.size #[.string s,.int .i64 n] 110):=Blk.new;have HMS:=hid (h.mono (sqO hb0) sqj (λ_ _ _ h=>h.mono (sqO hb0) sqj));have HV:=hid (offers_eq ms mod s n);obtain ⟨p,cap,rfl,-⟩:=h;clear hb0;go_enter func175,ntmps175;go_wp2_with fail;refine (named_any d _ _ ms mod HMS.out).mono ?_;rintro e w1 ⟨cs,rfl,hm,hb⟩;have B1:=hid (HB0.out.trans (hb.mono HB0.out.size));have bR1:=hid (bR.out.next hb);have HM:Hid (∀ w',Bz w1 w'->HMd w' All d cs (modOr ms mod)):=λw' hw=>hm.mono (sqO hw) sqj;obtain ⟨ev,fv,rfl,-,he,hf⟩:=hm;obtain ⟨pe,ce,rfl,-⟩:=he;obtain ⟨pf,cf,rfl,-⟩:=hf;obtain ⟨r0,r1⟩:=sqB2 bR1.out;clear hb;generalize hmo:modOr ms mod=M at *;have HX2:Hid (hasX M s n=M.exports.any (sameRf s n)):=rfl;have HF2:Hid (hasF M s n=M.funs.any (sameR ⟨s,n⟩)):=rfl;have HAL:Hid (Bz w1 (w1.alloc (.cells #[.string M.name,.slice pe M.exports.length ce,.slice pf M.funs.length cf] 61))):=(sqN _ _);have B2:Hid (Bz w (w1.alloc (.cells #[.string M.name,.slice pe M.exports.length ce,.slice pf M.funs.length cf] 61))):=B1.out.alloc B1.out.size _;have bR2:=hid (bR1.out.next HAL.out);have bM2:Hid (Blk (w1.alloc (.cells #[.string M.name,.slice pe M.exports.length ce,.slice pf M.funs.length cf] 61)) w1.heap.size #[.string M.name,.slice pe M.exports.length ce,.slice pf M.funs.length cf] 61):=Blk.new
 cases ha:ms.any (named mod) with
 | false =>
  have HV2:Hid (offersB ms mod s n=false):=(by show _=_;rw [HV.out,ha];rfl);go_wp2;go_ret;exact ⟨by rw [HV2.out];rfl,B2.out⟩
 | true =>
  have HV2:Hid (offersB ms mod s n=(hasX M s n && hasF M s n)):=(by show _=_;rw [HV.out,ha];rfl);clear r0 r1;obtain ⟨r0,r1⟩:=sqB2 bR2.out;go_wp2_with fail;clear r0 r1;obtain ⟨_,_,heq,-,he,-⟩:=HM.out _ HAL.out;obtain ⟨rfl,rfl⟩:Value.slice pe M.exports.length ce=_/\Value.slice pf M.funs.length cf=_:=(by simpa using heq);refine (containsR_any _ _ M.exports s n he).mono ?_;rintro e w3 ⟨rfl,hb⟩;rw [<-HX2.out];have B3:=hid (B2.out.trans (hb.mono B2.out.size));have K3:=hid (HAL.out.trans (hb.mono HAL.out.size));have bR3:=hid (bR2.out.next hb);have bM3:=hid (bM2.out.next hb);obtain ⟨r0,r1⟩:=sqB2 bR3.out;have m2:=bM3.out.cell 2 _ rfl;clear hb he heq
  cases hX:hasX M s n with
  | false =>
   have HV3:Hid (offersB ms mod s n=false):=(by show _=_;rw [HV2.out,hX];rfl);go_wp2;go_ret;exact ⟨by rw [HV3.out];rfl,B3.out⟩
  | true =>
   have HV3:Hid (offersB ms mod s n=hasF M s n):=(by show _=_;rw [HV2.out,hX];rfl);go_wp2_with fail;obtain ⟨_,_,heq,-,-,hf⟩:=HM.out _ K3.out;obtain ⟨rfl,rfl⟩:Value.slice pe M.exports.length ce=_/\Value.slice pf M.funs.length cf=_:=(by simpa using heq);refine (hasFun_any d _ _ M.funs ⟨s,n⟩ hf).mono ?_;rintro e w4 ⟨rfl,hb⟩;rw [<-HF2.out];have B4:=hid (B3.out.trans (hb.mono B3.out.size));clear hb hf heq;go_wp2;go_ret;exact ⟨by rw [HV3.out];first | rfl | simp,B4.out⟩
def codeOf (x:Ex):ByteArray:=if x.mod.toList = [] then cCall else cFar
def wrongB (ms:List Md) (m:Md) (x:Ex):Bool:=if x.mod.toList = [] then (!hasF m x.text x.kids.length && !isPutB x.text x.kids.length) else !offersB ms x.mod x.text x.kids.length
theorem callC_wrong (ms:List Md) (m:Md) (x:Ex):callC ms m x=if wrongB ms m x then codeOf x else ⟨#[]⟩:=by
 unfold callC wrongB codeOf;by_cases h:x.mod.toList = []
 . simp only [h,if_true]
   cases hasF m x.text x.kids.length <;> cases isPutB x.text x.kids.length <;> rfl
 . simp only [h,if_false]
   cases offersB ms x.mod x.text x.kids.length <;> rfl
theorem callProblem_any (d dx:Nat) (w:World) (v:Value) (ms:List Md) (mc:List Value) (m:Md) (cs:List Value) (x:Ex) (h:Rows w All 3 (HMd w All d) v ms) (hm:HMd w All d mc m) (hx:HEx w All dx cs x) :
 Calls prog 146 #[.agg #[v],.agg mc.toArray,.agg cs.toArray] w λe w'=>e=.returned (.tuple #[.string (codeOf x),.bool (wrongB ms m x)])/\Bz w w':=by
 cases dx with
 | zero=>exact hx.elim
 | succ dx =>
 have HMS:Hid (∀ w',Bz w w'->Rows w' All 3 (HMd w' All d) v ms):=λw' hw=>h.mono (sqO hw) sqj (λ_ _ _ h=>h.mono (sqO hw) sqj);obtain ⟨ev,fv,rfl,-,⟨mpe,mce,rfl,-⟩,hf⟩:=hm;have HFS:Hid (∀ w',Bz w w'->Rows w' All 3 (HFn w' All d) fv m.funs):=λw' hw=>hf.mono (sqO hw) sqj (λ_ _ _ h=>h.mono (sqO hw) sqj);obtain ⟨mpf,mcf,rfl,-⟩:=hf;obtain ⟨kx,nx,tx,mx,ks,cl⟩:=x;obtain ⟨kv,cv,rfl,-,-,-,-,⟨p1,q1,rfl,hq1,hq2,-⟩,⟨p2,q2,rfl,-⟩⟩:=hx;have HC:Hid (codeOf (.mk kx nx tx mx ks cl)=if mx.toList = [] then cCall else cFar):=rfl;have HWB:Hid (wrongB ms m (.mk kx nx tx mx ks cl)=if mx.toList = [] then (!hasF m tx ks.length && !isPutB tx ks.length) else !offersB ms mx tx ks.length):=rfl;have HF2:Hid (hasF m tx ks.length=m.funs.any (sameR ⟨tx,(ks.length:Int)⟩)):=rfl;simp only [Ex.kind,Ex.n,Ex.text,Ex.mod,Ex.kids,Ex.clauses] at *;obtain ⟨p,cap,rfl,-⟩:=h;have hnk:ks.length<=9223372036854775807:=(by unfold maxLen at hq2;omega);generalize codeOf (.mk kx nx tx mx ks cl)=CO at *;generalize wrongB ms m (.mk kx nx tx mx ks cl)=WB at *;generalize ms.length=n at *;generalize m.exports.length=ne at *;generalize hnf:m.funs.length=nf at *;generalize ks.length=nk at *;generalize cl.length=nc at *;obtain ⟨W3,hW3⟩:∃ W3,W3=((w.alloc (.cells #[.slice p n cap] 128)).alloc (.cells #[.string m.name,.slice mpe ne mce,.slice mpf nf mcf] 61)).alloc (.cells #[.int .i64 kx,.int .i64 nx,.string tx,.string mx,.slice p1 nk q1,.slice p2 nc q2] 74):=⟨_,rfl⟩;have B3:Hid (Bz w W3):=(by show Below _ _ _;rw [hW3];exact (((sqN _ _)).alloc (by simp only [alloc_hs];omega) _).alloc (by simp only [alloc_hs];omega) _);have bP:Hid (Blk W3 w.heap.size #[.slice p n cap] 128):=(by show Blk _ _ _ _;rw [hW3];exact Blk.new.alloc.alloc)
 have bM:Hid (Blk W3 (w.heap.size+1) #[.string m.name,.slice mpe ne mce,.slice mpf nf mcf] 61):=by
  show Blk _ _ _ _;rw [hW3];have:=Blk.new (w:=w.alloc (.cells #[.slice p n cap] 128)) (cs:=#[.string m.name,.slice mpe ne mce,.slice mpf nf mcf]) (t:=61);simp only [alloc_hs] at this;exact this.alloc
 have bE:Hid (Blk W3 (w.heap.size+1+1) #[.int .i64 kx,.int .i64 nx,.string tx,.string mx,.slice p1 nk q1,.slice p2 nc q2] 74):=by
  show Blk _ _ _ _;rw [hW3];have:=Blk.new (w:=(w.alloc (.cells #[.slice p n cap] 128)).alloc (.cells #[.string m.name,.slice mpe ne mce,.slice mpf nf mcf] 61)) (cs:=#[.int .i64 kx,.int .i64 nx,.string tx,.string mx,.slice p1 nk q1,.slice p2 nc q2]) (t:=74);simp only [alloc_hs] at this;exact this
 have HW3:=hid hW3;clear hW3 hnf;by_cases hmx:mx.toList = []
 . have hmb:(mx.toList == ([]:List UInt8))=true:=by rw [hmx];rfl
   have hmc:mx.toList.isEmpty=true:=(by rw [hmx];rfl);have HC2:=hid (HC.out.trans (if_pos hmx));have HWB2:=hid (HWB.out.trans (if_pos hmx));clear HC HWB;go_enter func146,ntmps146;go_wp2_with fail;rw [<-HW3.out];refine (calledRef_any _ kx nx tx mx p1 p2 nk q1 nc q2 hnk).mono ?_;rintro e w4 ⟨rfl,hb⟩;have B4:=hid (B3.out.trans (hb.mono B3.out.size));have B5:Hid (Bz w (w4.alloc (.cells #[.string tx,.int .i64 (nk:Int)] 110))):=B4.out.alloc B4.out.size _;have bP5:Hid (Blk (w4.alloc (.cells #[.string tx,.int .i64 (nk:Int)] 110)) w.heap.size #[.slice p n cap] 128):=(bP.out.next hb).alloc;have bM5:Hid (Blk (w4.alloc (.cells #[.string tx,.int .i64 (nk:Int)] 110)) (w.heap.size+1) #[.string m.name,.slice mpe ne mce,.slice mpf nf mcf] 61):=(bM.out.next hb).alloc;have bE5:Hid (Blk (w4.alloc (.cells #[.string tx,.int .i64 (nk:Int)] 110)) (w.heap.size+1+1) #[.int .i64 kx,.int .i64 nx,.string tx,.string mx,.slice p1 nk q1,.slice p2 nc q2] 74):=(bE.out.next hb).alloc;have bR5:Hid (Blk (w4.alloc (.cells #[.string tx,.int .i64 (nk:Int)] 110)) w4.heap.size #[.string tx,.int .i64 (nk:Int)] 110):=Blk.new;have x3:=bE5.out.cell 3 _ rfl;have x2:=bM5.out.cell 2 _ rfl;have x0:=bP5.out.cell 0 _ rfl;obtain ⟨r0,r1⟩:=sqB2 bR5.out;clear hb;go_wp2_with fail;clear x3 x2 x0 r0 r1;refine (hasFun_any d _ _ m.funs ⟨tx,(nk:Int)⟩ (HFS.out _ B5.out)).mono ?_;rintro e w6 ⟨rfl,hb⟩;rw [<-HF2.out];have B6:=hid (B5.out.trans (hb.mono B5.out.size));have bR6:=hid (bR5.out.next hb);obtain ⟨r0,r1⟩:=sqB2 bR6.out;clear hb
   cases hF:hasF m tx nk with
   | true =>
    have HWB3:Hid (WB=false):=(by show _=_;rw [HWB2.out,hF];rfl);go_wp2_with fail;exact bodyPost_ret (v:=.tuple #[.string ⟨#[99,97,108,108]⟩,.bool false]) (by simp [results,results146,go_sem]) rfl ⟨by rw [HC2.out,HWB3.out];rfl,B6.out⟩
   | false =>
    have HWB3:Hid (WB = !isPutB tx nk):=(by show _=_;rw [HWB2.out,hF];rfl);go_wp2_with fail;refine (isPut_any _ tx nk).mono ?_;rintro e w7 ⟨rfl,hb⟩;have B7:=hid (B6.out.trans (hb.mono B6.out.size));clear hb;go_wp2_with fail;exact bodyPost_ret (v:=.tuple #[.string ⟨#[99,97,108,108]⟩,.bool (!isPutB tx nk)]) (by simp [results,results146,go_sem]) rfl ⟨by rw [HC2.out,HWB3.out];rfl,B7.out⟩
 . have hmb:(mx.toList == ([]:List UInt8))=false:=by simpa using hmx
   have hmc:mx.toList.isEmpty=false:=(by simpa using hmx);have HC2:=hid (HC.out.trans (if_neg hmx));have HWB2:=hid (HWB.out.trans (if_neg hmx));clear HC HWB;go_enter func146,ntmps146;go_wp2_with fail;rw [<-HW3.out];refine (calledRef_any _ kx nx tx mx p1 p2 nk q1 nc q2 hnk).mono ?_;rintro e w4 ⟨rfl,hb⟩;have B4:=hid (B3.out.trans (hb.mono B3.out.size));have B5:Hid (Bz w (w4.alloc (.cells #[.string tx,.int .i64 (nk:Int)] 110))):=B4.out.alloc B4.out.size _;have bP5:Hid (Blk (w4.alloc (.cells #[.string tx,.int .i64 (nk:Int)] 110)) w.heap.size #[.slice p n cap] 128):=(bP.out.next hb).alloc;have bM5:Hid (Blk (w4.alloc (.cells #[.string tx,.int .i64 (nk:Int)] 110)) (w.heap.size+1) #[.string m.name,.slice mpe ne mce,.slice mpf nf mcf] 61):=(bM.out.next hb).alloc;have bE5:Hid (Blk (w4.alloc (.cells #[.string tx,.int .i64 (nk:Int)] 110)) (w.heap.size+1+1) #[.int .i64 kx,.int .i64 nx,.string tx,.string mx,.slice p1 nk q1,.slice p2 nc q2] 74):=(bE.out.next hb).alloc;have bR5:Hid (Blk (w4.alloc (.cells #[.string tx,.int .i64 (nk:Int)] 110)) w4.heap.size #[.string tx,.int .i64 (nk:Int)] 110):=Blk.new;have x3:=bE5.out.cell 3 _ rfl;have x2:=bM5.out.cell 2 _ rfl;have x0:=bP5.out.cell 0 _ rfl;obtain ⟨r0,r1⟩:=sqB2 bR5.out;clear hb;go_wp2_with fail;clear x3 x2 x0 r0 r1;refine (offers_any d _ _ ms mx tx nk (HMS.out _ B5.out)).mono ?_;rintro e w6 ⟨rfl,hb⟩;have B6:=hid (B5.out.trans (hb.mono B5.out.size));clear hb;go_wp2_with fail;exact bodyPost_ret (v:=.tuple #[.string ⟨#[102,97,114]⟩,.bool (!offersB ms mx tx nk)]) (by simp [results,results146,go_sem]) rfl ⟨by rw [HC2.out,HWB2.out];rfl,B6.out⟩
theorem info_exG:(prog.info? 74).map (λi=>(i.zero,i.size,i.bytes))=some (some (.agg #[.int .i64 0,.int .i64 0,.string ⟨#[]⟩,.string ⟨#[]⟩,.slice none 0 0,.slice none 0 0]),6,96):=by kernel_rfl
theorem ex_oneCell {w:World} {S:Nat->Prop} {d:Nat} (cs:List Value) (x:Ex) (h:HEx w S d cs x):∀ u ∈ cs,u.oneCell'=true:=by
 cases d with
 | zero=>exact h.elim
 | succ d =>
  obtain ⟨kv,cv,rfl,_,_,_,_,⟨p1,c1,rfl,_⟩,⟨p2,c2,rfl,_⟩⟩:=h;intro u hu;simp only [List.mem_cons,List.not_mem_nil,or_false] at hu
  rcases hu with rfl | rfl | rfl | rfl | rfl | rfl <;> rfl
theorem within_len (d:Nat) (ks:List Ex) (cl:List Cl):ks.length+(bodiesOf cl).length<=wtS (wtEx d) ks+wtS (wtCl (wtEx d)) cl:=by
 have h1:ks.length<=wtS (wtEx d) ks:=by unfold wtS;omega
 have h2:(bodiesOf cl).length<=wtS (wtCl (wtEx d)) cl:=by
  induction cl with
  | nil=>simp [bodiesOf]
  | cons c cl ih =>
   have e:bodiesOf (c :: cl)=c.2 ++ bodiesOf cl:=(by simp [bodiesOf]);rw [e,List.length_append];simp only [wtS,List.length_cons,List.map_cons,List.sum_cons,wtCl] at ih ⊢;omega
 omega
theorem within_any (d:Nat) (w:World) (S:Nat->Prop) (hS:∀ g,S g->g<w.heap.size) (cs:List Value) (x:Ex) (h:HEx w S (d+1) cs x) (hw:wtEx (d+1) x<=16777216) :
 Calls prog 135 #[.agg cs.toArray] w λe w'=>∃ u cells,e=.returned u/\w'.ownsRow (w.heap.size+1) 74 6 u (withinX x).length cells/\CellsR 6 (HEx w S d) cells (withinX x)/\Bz w w':=by
 have hT:=h;obtain ⟨kx,nx,tx,mx,ks,cl⟩:=x;obtain ⟨kv,cv,rfl,-,-,-,-,hk,hc⟩:=hT;have HWX:Hid (withinX (.mk kx nx tx mx ks cl)=ks ++ bodiesOf cl):=rfl
 have HL:Hid (ks.length+(bodiesOf cl).length<=16777216):=by
  have h1:=within_len d ks cl;simp only [wtEx,Ex.text,Ex.mod,Ex.kids,Ex.clauses] at hw;show _<=_;omega
 simp only [Ex.kind,Ex.n,Ex.text,Ex.mod,Ex.kids,Ex.clauses] at *;have HK:=hid hk;obtain ⟨p1,q1,rfl,-⟩:=hk;obtain ⟨p2,q2,rfl,hcl,hcm,hx⟩:=hc;have hnb:=sqM hcl hcm;obtain ⟨i,hi,hz0,hz1,hz2⟩:=info_parts info_exG;have HX:=hid hx;generalize hn1:ks.length=nk at *;have HN1:=hid hn1;generalize hn2:cl.length=nc at *;have HN2:=hid hn2;obtain ⟨W1,hW1⟩:∃ W1,W1=w.alloc (.cells #[.int .i64 kx,.int .i64 nx,.string tx,.string mx,.slice p1 nk q1,.slice p2 nc q2] 74):=⟨_,rfl⟩;have bA:Hid (Blk W1 w.heap.size #[.int .i64 kx,.int .i64 nx,.string tx,.string mx,.slice p1 nk q1,.slice p2 nc q2] 74):=(by show Blk _ _ _ _;rw [hW1];exact Blk.new);have B1:Hid (Bz w W1):=(by show Below _ _ _;rw [hW1];exact (sqN _ _));have S1:Hid (W1.heap.size=w.heap.size+1):=(by show _=_;rw [hW1,alloc_hs]);have HW1:=hid hW1
 have O2:Hid ((W1.alloc (.cells #[] 74)).ownsRow (w.heap.size+1) 74 6 (.slice (some ⟨w.heap.size+1,0,none⟩) 0 0) 0 []):=by
  have:=owns_fresh (w:=W1) (e:=74) (c:=6);rw [S1.out] at this;exact this
 have B2:Hid (Below (w.heap.size+1) W1 (W1.alloc (.cells #[] 74))):=(Below.refl _ _).alloc (by rw [S1.out];exact Nat.le_refl _) _
 have K2:Hid (Rows (W1.alloc (.cells #[] 74)) All 6 (HEx w S d) (.slice p1 nk q1) ks) :=
  HK.out.mono (sqO (B1.out.trans (B2.out.mono (by omega)))) (λ_ _=>trivial) (λ_ _ _ h=>h)
 have z2:w.heap.size+1<=(W1.alloc (.cells #[] 74)).heap.size:=(by rw [alloc_hs,S1.out];omega);have Z2:=hid z2;clear hx h hw hn1 hn2 z2;rw [hW1] at O2 K2 Z2;go_enter func135,ntmps135;go_wp2_with (at_builtin;refine wpList_append_rows (R:=HEx w S d) (S:=All) rfl _ _ 42 rfl (w.heap.size+1) 74 i _ 6 96 underlying42 hi hz0 hz1 hz2 rfl (by decide) (.slice (some ⟨w.heap.size+1,0,none⟩) 0 0) 0 [] rfl O2.out (.slice p1 nk q1) ks rfl K2.out (λcs y h=>ex_oneCell cs y h) (by have:=HL.out;have:=HN1.out;unfold maxLen;omega) (by have:=HL.out;have:=HN1.out;omega) Z2.out ?_;intro u1 w1 cells1 hc1 ho1 hg1);rw [<-HW1.out] at hg1 O2 Z2;have HO1:Hid (w1.ownsRow (w.heap.size+1) 74 6 u1 nk cells1):=(by have:=ho1;rw [HN1.out,Nat.zero_add,List.nil_append] at this;exact this);have HC1:=hid hc1;have HB1:=hid (B2.out.trans (owns_below O2.out hg1 Z2.out));clear hc1 ho1 hg1 O2 K2 B2 Z2;go_wp2_with fail
 go_loopw [3,4] (λov iv wr=>∃ (k n:Nat) (cells:List Value),k<=nc/\iv=.int .i64 k/\Hid (wr.ownsRow (w.heap.size+1) 74 6 ov n cells)/\Hid (CellsR 6 (HEx w S d) cells (ks ++ bodiesOf (cl.take k)))/\Hid (n=(ks ++ bodiesOf (cl.take k)).length)/\Hid (Below (w.heap.size+1) W1 wr)) (λ_ iv _=>nc - (intOf iv).toNat)
 case atStart=>exact ⟨0,nk,cells1,Nat.zero_le _,rfl,HO1,by show CellsR _ _ _ _;simpa [bodiesOf] using HC1.out,by show _=_;simp [bodiesOf,HN1.out],HB1⟩
 case round =>
  obtain ⟨k,n,cells,hk,rfl,ho,hc,hn,hb⟩:=hrel;have bM:=bA.out.below hb.out (by omega);have x5:=bM.cell 5 _ rfl;clear bM;have hb0:Bz w wr:=B1.out.trans (hb.out.mono (by omega));have HB0:=hid hb0;by_cases hlt:k<nc
  . obtain ⟨c,hck⟩:∃ c,cl[k]?=some c:=⟨cl[k]'(by rw [HN2.out];exact hlt),List.getElem?_eq_getElem _⟩
    obtain ⟨g,off,rfl,-,hgl,hat⟩:=HX.out (sqE hck);obtain ⟨cs,hcsl,hcs,pv,bv,rfl,rp,rb⟩:=hat k c hck;obtain ⟨a0,a1⟩:=sqC2 hcs (by omega);rw [<-hb0.cell (p:=⟨g,_,none⟩) hgl] at a0 a1;simp at a0 a1;have RB:=hid (rb.mono (sqO hb0) (λ_ _=>trivial) (λ_ _ _ h=>h));obtain ⟨pb,cb,rfl,-⟩:=rb;have HJ:Hid (ks ++ bodiesOf (cl.take (k+1))=ks ++ bodiesOf (cl.take k) ++ c.2):=(by show _=_;rw [bodiesOf_snoc cl k c hck,List.append_assoc])
    have HL2:Hid (n+c.2.length<=16777216):=by
     have h1:=HL.out;have h2:=bodiesOf_le cl (k+1);rw [bodiesOf_snoc cl k c hck,List.length_append] at h2;have h3:=hn.out;rw [List.length_append,HN1.out] at h3;show _<=_;omega
    have hki:(k:Int)<(nc:Int):=(by omega);have hk0:=sqI k;have hs1:w.heap.size+1<=wr.heap.size:=(by rw [<-S1.out];exact hb.out.size);clear hb0 hat hcs hcsl rp;go_wp2_with (at_builtin;refine wpList_append_rows (R:=HEx w S d) (S:=All) rfl _ _ 42 rfl (w.heap.size+1) 74 i _ 6 96 underlying42 hi hz0 hz1 hz2 rfl (by decide) u3 n cells rfl ho.out (.slice pb c.2.length cb) c.2 rfl RB.out (λcs y h=>ex_oneCell cs y h) (by have:=HL2.out;unfold maxLen;omega) (by have:=HL2.out;omega) hs1 ?_;intro v2 w2 cells2 hc2 ho2 hg2);have HB2:=hid (hb.out.trans (owns_below ho.out hg2 hs1))
    have HC2:Hid (CellsR 6 (HEx w S d) (cells ++ cells2) (ks ++ bodiesOf (cl.take (k+1)))):=by
     show CellsR _ _ _ _;rw [HJ.out];exact hc.out.append hc2
    have HO2:=hid ho2;have HN3:Hid (n+c.2.length=(ks ++ bodiesOf (cl.take (k+1))).length):=(by show _=_;rw [HJ.out,List.length_append,<-hn.out]);clear hc2 ho2 hg2;go_wp2_with fail;exact ⟨⟨k+1,_,_,by omega,by go_num,HO2,HC2,HN3,HB2⟩,by simp [intOf];omega⟩
  . have HR:Hid (wr.ownsRow (w.heap.size+1) 74 6 u3 (withinX (.mk kx nx tx mx ks cl)).length cells/\CellsR 6 (HEx w S d) cells (withinX (.mk kx nx tx mx ks cl))):=by
     have h1:=hc.out;have h2:=hn.out;have h3:=ho.out;rw [List.take_of_length_le (by rw [HN2.out];omega)] at h1 h2;rw [HWX.out];rw [h2] at h3;exact ⟨h3,h1⟩
    clear hb0;go_wp2;go_ret;exact ⟨_,_,rfl,HR.out.1,HR.out.2,HB0.out⟩
def hasT (xs:List ByteArray) (s:ByteArray):Bool:=xs.any λx=>s.toList == x.toList
theorem indexS_any (w:World) (v:Value) (xs:List ByteArray) (s:ByteArray) (h:StrR w v xs):Calls prog 82 #[v,.string s] w λe w'=>e=.returned (.int .i64 (findI (λx=>s.toList == x.toList) xs))/\w'=w:=by
 obtain ⟨p,cap,rfl,hcl,hcm,hx⟩:=h;have hnb:=sqM hcl hcm;generalize hn:xs.length=n at *;have HN:=hid hn
 have HX:Hid (∀ k x,xs[k]?=some x->∃ g off,p=some ⟨g,off,none⟩/\g<w.heap.size/\w.cell? ⟨g,off+k,none⟩=some (.string x)):=λk x hk=>by
  obtain ⟨g,off,e,_,hg,hat⟩:=hx (by intro e;rw [e] at hk;simp at hk);obtain ⟨cs,_,hcs,rfl,_⟩:=hat k x hk;have:=hcs 0 (by decide);simp only [Nat.mul_one,Nat.add_zero,List.getElem?_cons_zero] at this;exact ⟨g,off,e,hg,this⟩
 clear hx hn;go_enter func82,ntmps82;go_wp2
 go_loop [8] (λiv=>∃ k:Nat,k<=n/\iv=.int .i64 k/\Hid ((xs.take k).any (λx=>s.toList == x.toList)=false)) (λiv=>n - (intOf iv).toNat)
 case atStart=>exact ⟨0,Nat.zero_le _,rfl,by show _=_;simp⟩
 case round =>
  obtain ⟨k,hk,rfl,hno⟩:=hrel;by_cases hlt:k<n
  . obtain ⟨x,hxk⟩:=sqA (l:=xs) (k:=k) HN.out hlt
    obtain ⟨g,off,rfl,hgl,a0⟩:=HX.out k x hxk;have hki:(k:Int)<(n:Int):=(by omega);have hk0:=sqI k
    cases hq:(s.toList == x.toList) with
    | true =>
     have HS:=hid (findI_at hno.out hxk hq);go_wp2;go_ret;exact ⟨by rw [HS.out];rfl,rfl⟩
    | false =>
     have HS:=hid (anyT_succ' _ xs k x hxk hno.out hq);go_wp2
     go_round
     case rel=>exact ⟨k+1,by omega,by go_num,HS⟩
     case measure=>simp [intOf];omega
  . have HS:Hid (findI (λx=>s.toList == x.toList) xs = -1):=findI_none (by
     have:=hno.out
     rwa [List.take_of_length_le (by rw [HN.out];omega)] at this)
    go_wp2;go_ret;exact ⟨by rw [HS.out];rfl,rfl⟩
theorem containsS_any (w:World) (v:Value) (xs:List ByteArray) (s:ByteArray) (h:StrR w v xs):Calls prog 55 #[v,.string s] w λe w'=>e=.returned (.bool (hasT xs s))/\w'=w:=by
 have CI:=indexS_any w v xs s h;obtain ⟨p,cap,rfl,-⟩:=h
 rcases findI_cases (λx:ByteArray=>s.toList == x.toList) xs with ⟨h1,h2⟩ | ⟨k,x,h1,-,-,h4,-⟩
 . rw [h2] at CI
   have HC:=hid CI;have HV:Hid (hasT xs s=false):=h1;clear CI h1 h2;go_enter func55,ntmps55;go_wp2_with fail;refine HC.out.mono ?_;rintro e w1 ⟨rfl,rfl⟩;go_wp2;go_ret;exact ⟨by rw [HV.out];rfl,rfl⟩
 . rw [h4] at CI
   have HC:=hid CI;have HV:Hid (hasT xs s=true):=h1;have hk:=sqI k;clear CI h1 h4;go_enter func55,ntmps55;go_wp2_with fail;refine HC.out.mono ?_;rintro e w1 ⟨rfl,rfl⟩;go_wp2;go_ret;exact ⟨by rw [HV.out];first | rfl | simp,rfl⟩
theorem hasT_S (xs:List ByteArray) (s:ByteArray):hasT xs s=hasS xs s:=by
 unfold hasT hasS
 congr 1
 funext x
 exact Bool.eq_iff_iff.2 (by simp only [beq_iff_eq];exact eq_comm)
end
end Go.Proofs.YtbdhpganbbandaaGreatDoor
