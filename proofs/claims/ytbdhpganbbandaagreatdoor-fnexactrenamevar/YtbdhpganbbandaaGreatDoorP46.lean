/-
  RenCode
-/
import Derived.Test.YtbdhpganbbandaaGreatDoorP45
import Derived.Test.YtbdhpganbbandaaGreatDoorP44
set_option maxHeartbeats 16000000
set_option linter.unusedVariables false
set_option maxRecDepth 100000
namespace Go.Proofs.YtbdhpganbbandaaGreatDoor
open Go.ChangeShapes Go.WideShapes Go.ChangeAt Go.RowKit
section
open Go.Proofs.Tryz
theorem rows_mem {α:Type} {w:World} {S:Nat→Prop} {c:Nat} {R:List Value→α→Prop} {v:Value} {xs:List α} (h:Rows w S c R v xs) {x:α} (hx:x ∈ xs):∃ cs,R cs x:=by
 obtain ⟨p,cap,-,-,-,h3⟩:=h;obtain ⟨i,hi⟩:=List.mem_iff_getElem?.1 hx;obtain ⟨g,off,-,-,-,hat⟩:=h3 (by intro e;rw [e] at hx;simp at hx);obtain ⟨cs,-,-,hr⟩:=hat i x hi;exact ⟨cs,hr⟩
theorem clause_lies {w:World} {d:Nat} {v:Value} {ms:List Md} {q:Pl} {c:Cl} (h:Rows w All 3 (HMd w All d) v ms) (hc:clauseOf ms q=some c):∃ cs,HCl w All (HEx w All d) cs c:=by
 unfold clauseOf at hc;obtain ⟨f,hf,hc⟩:=Option.bind_eq_some_iff.1 hc;unfold fnOf at hf;obtain ⟨m,hm,hf⟩:=Option.bind_eq_some_iff.1 hf
 split at hc
 · obtain ⟨cs,ev,fv,-,-,-,hfs⟩:=rows_mem h (List.mem_of_find?_eq_some hm)
   obtain ⟨fcs,cv,-,-,-,hcl⟩:=rows_mem hfs (List.mem_of_find?_eq_some hf);exact rows_mem hcl (List.mem_of_getElem? hc)
 · cases hc
theorem varsAt_ok {w:World} {d:Nat} {v:Value} {ms:List Md} (h:Rows w All 3 (HMd w All d) v ms) (q:Pl):∀ s ∈ varsAt d ms q,okS s:=by
 intro s hs;unfold varsAt at hs
 split at hs
 · cases hc:clauseOf ms q with
   | none=>rw [hc] at hs;simp at hs
   | some c =>
    rw [hc] at hs;obtain ⟨cs,hcl⟩:=clause_lies h hc;have h1:=sortS_mem (clauseVars d c) (clauseVars d c).length s (by rw [List.take_of_length_le (sqR _)];exact hs);rw [clauseVars_ex] at h1;exact allV_ok _ _ (clause_txts hcl) s h1
 · simp at hs
def renCode (d:Nat) (ms:List Md) (q:Pl) (sf st:ByteArray):Int :=
 if goodB d ms=false then 1 else if hasT (varsAt d ms q) sf=false then 2 else if varB st=false then 3 else if hasT (varsAt d ms q) st=true then 4 else 0
theorem renameVarCode_any (d:Nat) (w:World) (v:Value) (ms:List Md) (q:Pl) (sf st:ByteArray) (hT:Tabs w) (h:Rows w All 3 (HMd w All d) v ms) (hw:wtS (wtMd d) ms≤16777216) (hst:st.size≤maxLen) :
 Calls prog 24 #[v,.agg #[.string q.mod,.string q.name,.int .i64 q.arity,.int .i64 q.clause],.string sf,.string st] w fun e w'=>e=.returned (.int .i64 (renCode d ms q sf st))∧Bz w w':=by
 have HTAB:=hid hT;have HR:Hid (∀ w',Bz w w'→Rows w' All 3 (HMd w' All d) v ms):=fun w' hw=>h.mono (sqO hw) (fun _ h=>h) (fun _ _ _ h=>h.mono (sqO hw) (fun _ h=>h));have HW:=hid hw;have HST:=hid hst;obtain ⟨W1,hW1⟩:∃ W1,W1=w.alloc (.cells #[.string q.mod,.string q.name,.int .i64 q.arity,.int .i64 q.clause] 31):=⟨_,rfl⟩;have bA:Hid (Blk W1 w.heap.size #[.string q.mod,.string q.name,.int .i64 q.arity,.int .i64 q.clause] 31):=(by show Blk _ _ _ _;rw [hW1];exact Blk.new);have B1:Hid (Bz w W1):=(by show Below _ _ _;rw [hW1];exact (sqN _ _));have HW1:=hid hW1;have HV:Hid (renCode d ms q sf st=if goodB d ms=false then 1 else if hasT (varsAt d ms q) sf=false then 2 else if varB st=false then 3 else if hasT (varsAt d ms q) st=true then 4 else 0):=rfl;have HLV:=hid (varsAt_ok h q);obtain ⟨p,cap,rfl,-⟩:=h;clear hW1 hT hw hst;generalize hX:renCode d ms q sf st=X at *;clear hX;go_enter func24,ntmps24;go_wp2_with fail;rw [← HW1.out];refine (implGood_any d _ _ ms (HTAB.out.below B1.out) (HR.out _ B1.out) HW.out).mono ?_;rintro e w2 ⟨rfl,hb⟩;have B2:=hid (B1.out.trans (hb.mono B1.out.size));have b2:=hid (bA.out.next hb);clear hb
 cases hG:goodB d ms with
 | false =>
  have HX:Hid (X=1):=(by show _=_;rw [HV.out,hG];rfl);go_wp2_with fail;go_ret;exact ⟨by rw [HX.out];rfl,B2.out⟩
 | true =>
  obtain ⟨y0,y1,y2,y3⟩:=sqB4 b2.out;have HG:=hid hG;clear hG;go_wp2_with fail;refine (implVarsAt_any d w2 _ ms q (HTAB.out.below B2.out) (HR.out _ B2.out) HW.out).mono ?_;rintro e w3 ⟨u,rfl,ho,hb⟩;have B3:=hid (B2.out.trans (hb.mono B2.out.size));have S3:=hid (ho.strR HLV.out);have C1:=hid (containsS_any w3 u _ sf S3.out);have C2:=hid (containsS_any w3 u _ st S3.out);obtain ⟨pu,cu,hu,-⟩:=S3.out;subst hu;clear ho hb y0 y1 y2 y3;generalize (varsAt d ms q).length=nv at *;go_wp2_with fail;refine C1.out.mono ?_;rintro e w4 ⟨rfl,rfl⟩
  cases h1:hasT (varsAt d ms q) sf with
  | false =>
   have HX:Hid (X=2):=(by show _=_;rw [HV.out,HG.out,h1];rfl);go_wp2_with fail;go_ret;exact ⟨by rw [HX.out];rfl,B3.out⟩
  | true =>
   have H1:=hid h1;clear h1;go_wp2_with fail;refine (implVarOk_any st _ HST.out).mono ?_;rintro e w5 ⟨rfl,rfl⟩
   cases h2:varB st with
   | false =>
    have HX:Hid (X=3):=(by show _=_;rw [HV.out,HG.out,H1.out,h2];rfl);go_wp2_with fail;go_ret;exact ⟨by rw [HX.out];rfl,B3.out⟩
   | true =>
    have H2:=hid h2;clear h2;go_wp2_with fail;refine C2.out.mono ?_;rintro e w6 ⟨rfl,rfl⟩
    cases h3:hasT (varsAt d ms q) st with
    | true =>
     have HX:Hid (X=4):=(by show _=_;rw [HV.out,HG.out,H1.out,H2.out,h3];rfl);go_wp2_with fail;go_ret;exact ⟨by rw [HX.out];rfl,B3.out⟩
    | false =>
     have HX:Hid (X=0):=(by show _=_;rw [HV.out,HG.out,H1.out,H2.out,h3];rfl);go_wp2_with fail;go_ret;exact ⟨by rw [HX.out];rfl,B3.out⟩
end
end Go.Proofs.YtbdhpganbbandaaGreatDoor
