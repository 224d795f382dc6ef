/-
  RenCode
-/
import Derived.Test.YtdhlonogmnkemaaGreatDoorP03
import Derived.Test.YtdhlonogmnkemaaGreatDoorP30
import Derived.Test.YtdhlonogmnkemaaGreatDoorP29
import Derived.Test.YtdhlonogmnkemaaGreatDoorP06
set_option maxHeartbeats 16000000
namespace Go.Proofs.YtdhlonogmnkemaaGreatDoor
open Go.ChangeShapes Go.WideShapes Go.ChangeAt Go.RowKit Go.Proofs.Tryz
set_option linter.unusedVariables false
set_option maxRecDepth 100000
def hasT (xs:List ByteArray) (s:ByteArray):Bool:=xs.any fun x=>s.toList == x.toList
theorem indexS_any (w:World) (v:Value) (xs:List ByteArray) (s:ByteArray) (h:StrR w v xs):Calls prog 114 #[v,.string s] w fun e w'=>e=.returned (.int .i64 (findI (fun x=>s.toList == x.toList) xs))∧w'=w:=by
 obtain ⟨p,cap,rfl,hcl,hcm,hx⟩:=h;have hnb:=sqM hcl hcm;generalize hn:xs.length=n at *;have HN:=hid hn
 have HX:Hid (∀ k x,xs[k]?=some x→∃ g off,p=some ⟨g,off,none⟩∧g<w.heap.size∧w.cell? ⟨g,off+k,none⟩=some (.string x)):=fun k x hk=>by
  obtain ⟨g,off,e,_,hg,hat⟩:=hx (by intro e;rw [e] at hk;simp at hk);obtain ⟨cs,_,hcs,rfl,_⟩:=hat k x hk;have:=hcs 0 (by decide);simp only [Nat.mul_one,Nat.add_zero,List.getElem?_cons_zero] at this;exact ⟨g,off,e,hg,this⟩
 clear hx hn;go_enter func114,ntmps114;go_wp2
 go_loop [8] (fun iv=>∃ k:Nat,k≤n∧iv=.int .i64 k∧Hid ((xs.take k).any (fun x=>s.toList == x.toList)=false)) (fun iv=>n - (intOf iv).toNat)
 case atStart=>exact ⟨0,Nat.zero_le _,rfl,by show _=_;simp⟩
 case round =>
  obtain ⟨k,hk,rfl,hno⟩:=hrel;by_cases hlt:k<n
  · obtain ⟨x,hxk⟩:=sqA (l:=xs) (k:=k) HN.out hlt
    obtain ⟨g,off,rfl,hgl,a0⟩:=HX.out k x hxk;have hki:(k:Int)<(n:Int):=(by omega);have hk0:=sqI k
    cases hq:(s.toList == x.toList) with
    | true =>
     have HS:=hid (findI_at hno.out hxk hq);go_wp2;go_ret;exact ⟨by rw [HS.out];rfl,rfl⟩
    | false =>
     have HS:=hid (anyT_succ' _ xs k x hxk hno.out hq);go_wp2
     go_round
     case rel=>exact ⟨k+1,by omega,by go_num,HS⟩
     case measure=>simp [intOf];omega
  · have HS:Hid (findI (fun x=>s.toList == x.toList) xs = -1):=findI_none (by
     have:=hno.out
     rwa [List.take_of_length_le (by rw [HN.out];omega)] at this)
    go_wp2;go_ret;exact ⟨by rw [HS.out];rfl,rfl⟩
theorem containsS_any (w:World) (v:Value) (xs:List ByteArray) (s:ByteArray) (h:StrR w v xs):Calls prog 70 #[v,.string s] w fun e w'=>e=.returned (.bool (hasT xs s))∧w'=w:=by
 have CI:=indexS_any w v xs s h;obtain ⟨p,cap,rfl,-⟩:=h
 rcases findI_cases (fun x:ByteArray=>s.toList == x.toList) xs with ⟨h1,h2⟩ | ⟨k,x,h1,-,-,h4,-⟩
 · rw [h2] at CI
   have HC:=hid CI;have HV:Hid (hasT xs s=false):=h1;clear CI h1 h2;go_enter func70,ntmps70;go_wp2_with fail;refine HC.out.mono ?_;rintro e w1 ⟨rfl,rfl⟩;go_wp2_with fail;go_ret;exact ⟨by rw [HV.out];rfl,rfl⟩
 · rw [h4] at CI
   have HC:=hid CI;have HV:Hid (hasT xs s=true):=h1;have hk:=sqI k;clear CI h1 h4;go_enter func70,ntmps70;go_wp2_with fail;refine HC.out.mono ?_;rintro e w1 ⟨rfl,rfl⟩;go_wp2_with fail;go_ret;exact ⟨by rw [HV.out];first | rfl | simp,rfl⟩
theorem hasT_S (xs:List ByteArray) (s:ByteArray):hasT xs s=hasS xs s:=by
 unfold hasT hasS
 congr 1
 funext x
 exact Bool.eq_iff_iff.2 (by simp only [beq_iff_eq];exact eq_comm)
theorem rows_mem {α:Type} {w:World} {S:Nat→Prop} {c:Nat} {R:List Value→α→Prop} {v:Value} {xs:List α} (h:Rows w S c R v xs) {x:α} (hx:x ∈ xs):∃ cs,R cs x:=by
 obtain ⟨p,cap,-,-,-,h3⟩:=h;obtain ⟨i,hi⟩:=List.mem_iff_getElem?.1 hx;obtain ⟨g,off,-,-,-,hat⟩:=h3 (by intro e;rw [e] at hx;simp at hx);obtain ⟨cs,-,-,hr⟩:=hat i x hi;exact ⟨cs,hr⟩
theorem clause_lies {w:World} {d:Nat} {v:Value} {ms:List Md} {q:Pl} {c:Cl} (h:Rows w All 3 (HMd w All d) v ms) (hc:clauseOf ms q=some c):∃ cs,HCl w All (HEx w All d) cs c:=by
 unfold clauseOf at hc;obtain ⟨f,hf,hc⟩:=Option.bind_eq_some_iff.1 hc;unfold fnOf at hf;obtain ⟨m,hm,hf⟩:=Option.bind_eq_some_iff.1 hf
 split at hc
 · obtain ⟨cs,ev,fv,-,-,-,hfs⟩:=rows_mem h (List.mem_of_find?_eq_some hm)
   obtain ⟨fcs,cv,-,-,-,hcl⟩:=rows_mem hfs (List.mem_of_find?_eq_some hf);exact rows_mem hcl (List.mem_of_getElem? hc)
 · cases hc
theorem varsAt_ok {w:World} {d:Nat} {v:Value} {ms:List Md} (h:Rows w All 3 (HMd w All d) v ms) (q:Pl):∀ s ∈ varsAt d ms q,okS s:=by
 intro s hs;unfold varsAt at hs
 split at hs
 · cases hc:clauseOf ms q with
   | none=>rw [hc] at hs;simp at hs
   | some c =>
    rw [hc] at hs;obtain ⟨cs,hcl⟩:=clause_lies h hc;have h1:=sortS_mem (clauseVars d c) (clauseVars d c).length s (by rw [List.take_of_length_le (sqR _)];exact hs);rw [clauseVars_ex] at h1;exact allV_ok _ _ (clause_txts hcl) s h1
 · simp at hs
def renCode (d:Nat) (ms:List Md) (q:Pl) (sf st:ByteArray):Int :=
 if goodB d ms=false then 1 else if hasT (varsAt d ms q) sf=false then 2 else if varB st=false then 3 else if hasT (varsAt d ms q) st=true then 4 else 0
theorem renameVarCode_any (d:Nat) (w:World) (v:Value) (ms:List Md) (q:Pl) (sf st:ByteArray) (hT:Tabs w) (h:Rows w All 3 (HMd w All d) v ms) (hw:wtS (wtMd d) ms≤16777216) (hst:st.size≤maxLen) :
 Calls prog 27 #[v,.agg #[.string q.mod,.string q.name,.int .i64 q.arity,.int .i64 q.clause],.string sf,.string st] w fun e w'=>e=.returned (.int .i64 (renCode d ms q sf st))∧Bz w w':=by
 have HTAB:=hid hT;have HR:Hid (∀ w',Bz w w'→Rows w' All 3 (HMd w' All d) v ms):=fun w' hw=>h.mono (sqO hw) (fun _ h=>h) (fun _ _ _ h=>h.mono (sqO hw) (fun _ h=>h));have HW:=hid hw;have HST:=hid hst;obtain ⟨W1,hW1⟩:∃ W1,W1=w.alloc (.cells #[.string q.mod,.string q.name,.int .i64 q.arity,.int .i64 q.clause] 31):=⟨_,rfl⟩;have bA:Hid (Blk W1 w.heap.size #[.string q.mod,.string q.name,.int .i64 q.arity,.int .i64 q.clause] 31):=(by show Blk _ _ _ _;rw [hW1];exact Blk.new);have B1:Hid (Bz w W1):=(by show Below _ _ _;rw [hW1];exact (sqN _ _));have HW1:=hid hW1;have HV:Hid (renCode d ms q sf st=if goodB d ms=false then 1 else if hasT (varsAt d ms q) sf=false then 2 else if varB st=false then 3 else if hasT (varsAt d ms q) st=true then 4 else 0):=rfl;have HLV:=hid (varsAt_ok h q);obtain ⟨p,cap,rfl,-⟩:=h;clear hW1 hT hw hst;generalize hX:renCode d ms q sf st=X at *;clear hX;go_enter func27,ntmps27;go_wp2_with fail;rw [← HW1.out];refine (implGood_any d _ _ ms (HTAB.out.below B1.out) (HR.out _ B1.out) HW.out).mono ?_;rintro e w2 ⟨rfl,hb⟩;have B2:=hid (B1.out.trans (hb.mono B1.out.size));have b2:=hid (bA.out.next hb);clear hb
 cases hG:goodB d ms with
 | false =>
  have HX:Hid (X=1):=(by show _=_;rw [HV.out,hG];rfl);go_wp2_with fail;go_ret;exact ⟨by rw [HX.out];rfl,B2.out⟩
 | true =>
  obtain ⟨y0,y1,y2,y3⟩:=sqB4 b2.out;have HG:=hid hG;clear hG;go_wp2_with fail;refine (implVarsAt_any d w2 _ ms q (HTAB.out.below B2.out) (HR.out _ B2.out) HW.out).mono ?_;rintro e w3 ⟨u,rfl,ho,hb⟩;have B3:=hid (B2.out.trans (hb.mono B2.out.size));have S3:=hid (ho.strR HLV.out);have C1:=hid (containsS_any w3 u _ sf S3.out);have C2:=hid (containsS_any w3 u _ st S3.out);obtain ⟨pu,cu,hu,-⟩:=S3.out;subst hu;clear ho hb y0 y1 y2 y3;generalize (varsAt d ms q).length=nv at *;go_wp2_with fail;refine C1.out.mono ?_;rintro e w4 ⟨rfl,rfl⟩
  cases h1:hasT (varsAt d ms q) sf with
  | false =>
   have HX:Hid (X=2):=(by show _=_;rw [HV.out,HG.out,h1];rfl);go_wp2_with fail;go_ret;exact ⟨by rw [HX.out];rfl,B3.out⟩
  | true =>
   have H1:=hid h1;clear h1;go_wp2_with fail;refine (implVarOk_any st _ HST.out).mono ?_;rintro e w5 ⟨rfl,rfl⟩
   cases h2:varB st with
   | false =>
    have HX:Hid (X=3):=(by show _=_;rw [HV.out,HG.out,H1.out,h2];rfl);go_wp2_with fail;go_ret;exact ⟨by rw [HX.out];rfl,B3.out⟩
   | true =>
    have H2:=hid h2;clear h2;go_wp2_with fail;refine C2.out.mono ?_;rintro e w6 ⟨rfl,rfl⟩
    cases h3:hasT (varsAt d ms q) st with
    | true =>
     have HX:Hid (X=4):=(by show _=_;rw [HV.out,HG.out,H1.out,H2.out,h3];rfl);go_wp2_with fail;go_ret;exact ⟨by rw [HX.out];rfl,B3.out⟩
    | false =>
     have HX:Hid (X=0):=(by show _=_;rw [HV.out,HG.out,H1.out,H2.out,h3];rfl);go_wp2_with fail;go_ret;exact ⟨by rw [HX.out];rfl,B3.out⟩
end Go.Proofs.YtdhlonogmnkemaaGreatDoor
