/-
  Texts of the proof, packed: StepAll, StepSmall, StepImpl, StepTop, LooseImpl, CheckImplH, CheckEq, GoodTop, RenCode, OwnSet, RenMath, ProgSet, OwnPlain, RenWt, RenImpl, RenSpec, RenSpec2, Size, ModsSz, Eq, ModsEq, ExTo, ModTo, ModsTo, Mark.
-/
import Derived.Test.YtdhlonogmnkemaaGreatDoorPackA
import Derived.Test.YtdhlonogmnkemaaGreatDoorPackD
import Derived.Test.YtdhlonogmnkemaaGreatDoorPackC
import Derived.Test.YtdhlonogmnkemaaGreatDoorPackB
import Derived.Test.YtdhlonogmnkemaaGreatDoorRows
import Derived.WalkKit
import Derived.ProofKit
import Derived.OpenShut
import Derived.WalkSpells
import Derived.Lib.ItoaNum
import Derived.Laws.IdiomStrings
set_option maxHeartbeats 16000000
namespace Go.Proofs.YtdhlonogmnkemaaGreatDoor
open Go.ChangeShapes Go.WideShapes Go.ChangeAt Go.RowKit Go.Maps Go.WideMaps Go.Shelf Go.Proofs.Tryz
set_option linter.unusedVariables false
set_option maxRecDepth 100000
attribute [local go_sem] Oper.semAt_some
def StA (d:Nat):Prop:=∀ (w:World) (mb n:Nat) (S:List UInt8→Prop) (cs:List Value) (x:Ex) (pat:Bool) (deep:Int),HEx w (fun g=>g≠mb) d cs x→exOk d x pat deep=true→SetAt w mb n S→n+(varL d x).length≤33554432 →
 Calls prog 231 #[.map (some mb),.agg cs.toArray] w fun e w'=>e=.returned (.tuple #[])∧SetAt w' mb (n+(varL d x).length) (stepS d x S)∧Off [mb] w w'
def StO (d:Nat):Prop:=∀ (w:World) (mb n:Nat) (S:List UInt8→Prop) (v:Value) (es:List Ex),Rows w (fun g=>g≠mb) 6 (HEx w (fun g=>g≠mb) d) v es→(∀ y ∈ es,∃ p deep,exOk d y p deep=true)→SetAt w mb n S→n+(es.flatMap (varL d)).length≤33554432 →
 Calls prog 224 #[.map (some mb),v] w fun e w'=>e=.returned (.tuple #[])∧SetAt w' mb (n+(es.flatMap (varL d)).length) (es.foldr (stepS d) S)∧Off [mb] w w'
theorem rows_list {w:World} {S:Nat→Prop} {R:List Value→Ex→Prop} {p:Option Addr} {n cap:Nat} {es:List Ex} (h:Rows w S 6 R (.slice p n cap) es) :
 ∃ L:List (List Value),L.length=es.length∧∀ i cs,L[i]?=some cs→cs.length=6∧(∃ g off,p=some ⟨g,off,none⟩∧S g∧g<w.heap.size∧∀ j,j<6→w.cell? ⟨g,off+i * 6+j,none⟩=cs[j]?)∧∀ x,es[i]?=some x→R cs x:=by
 obtain ⟨p',cap',hv,-,-,hx⟩:=h;simp only [Value.slice.injEq] at hv;obtain ⟨rfl,-,rfl⟩:=hv;by_cases hne:es = []
 · subst hne;exact ⟨[],rfl,fun i cs h=>by simp at h⟩
 obtain ⟨g,off,rfl,hS,hg,hat⟩:=hx hne
 have:∀ i ∈ List.range es.length,∃ cs:List Value,cs.length=6∧(∀ j,j<6→w.cell? ⟨g,off+i * 6+j,none⟩=cs[j]?)∧∀ x,es[i]?=some x→R cs x:=fun i hi=>by
  have hi':i<es.length:=(by simpa using hi);obtain ⟨cs,h1,h2,h3⟩:=hat i _ (List.getElem?_eq_getElem hi');exact ⟨cs,h1,h2,fun x hx=>by rw [List.getElem?_eq_getElem hi'] at hx;cases hx;exact h3⟩
 obtain ⟨L,hL,hat'⟩:=pick this;refine ⟨L,by simpa using hL,fun i cs hi=>?_⟩;obtain ⟨i',hi',h1,h2,h3⟩:=hat' i cs hi;have hlt:i<es.length:=(by have:=(List.getElem?_eq_some_iff.1 hi).1;rw [hL] at this;simpa using this)
 obtain rfl:i'=i:=by
  rw [List.getElem?_range hlt] at hi';exact (Option.some.inj hi').symm
 exact ⟨h1,⟨g,off,rfl,hS,hg,h2⟩,h3⟩
theorem drop_back {α:Type} (es:List α) (n k:Nat) (x:α) (hn:es.length=n) (hk:k<n) (hx:es[n - 1 - k]?=some x):es.drop (n - (k+1))=x :: es.drop (n - k):=by
 have h1:n - (k+1)=n - 1 - k:=(by omega);have h2:n - k=n - 1 - k+1:=(by omega);obtain ⟨h3,h4⟩:=List.getElem?_eq_some_iff.1 hx;rw [h1,h2,List.drop_eq_getElem_cons h3,h4]
theorem flat_drop {α β:Type} (f:α→List β) (es:List α) (i:Nat):((es.drop i).flatMap f).length≤(es.flatMap f).length:=by
 conv=>rhs;rw [← List.take_append_drop i es]
 rw [List.flatMap_append,List.length_append];omega
structure StI (w:World) (mb n d:Nat) (S:List UInt8→Prop) (es:List Ex) (W:World):Prop where
 set:SetAt W mb (n+(es.flatMap (varL d)).length) (es.foldr (stepS d) S)
 off:Off [mb] w W
 box:Blk W w.heap.size #[.map (some mb)] 151
theorem ofAll_of {d:Nat} (hA:StA d):StO d:=by
 intro w mb n S v es h hok hset hcnt;obtain ⟨p,cap,rfl,hcl,hcm,-⟩:=id h;obtain ⟨L,hLl,hLat⟩:=rows_list h;have hnb:=sqM hcl hcm;have hmb:=hset.lt;have HSET:=hid hset;have HCNT:=hid hcnt;have HOK:=hid hok;have HLT:=hid hLat;have HLL:=hid hLl;have HA:=hid hA;generalize hN:es.length=N at *;have HN:=hid hN;clear h hok hset hcnt hLat hA hN hLl;have hfB:Fence.wide.fn 230:=trivial;refine (callsIn_wide (n:=7)).1 ?_;refine callsIn_of_wp_marks func224 rfl trivial ?_ rfl;simp only [ntmps224,List.size_toArray,List.length_cons,List.length_nil,Nat.reduceAdd,Nat.reduceSub,Array.replicate_succ,Array.replicate_zero,List.push_toArray,List.append_toArray,List.nil_append,List.cons_append]
 gi_wp2_with (gi_at_call 230;refine ((callsIn_wide (n:=6)).2 (back_any _ _ _ _)).mono ?_;rintro e w' ⟨rfl,rfl⟩)
 have BW:Bz w ((w.alloc (.cells #[.map (some mb)] 151)).alloc (.cells #[.slice p N cap] 44)):=((sqN _ _)).alloc (by simp) _;have bM:Blk ((w.alloc (.cells #[.map (some mb)] 151)).alloc (.cells #[.slice p N cap] 44)) w.heap.size #[.map (some mb)] 151:=Blk.new.alloc
 have bS:Blk ((w.alloc (.cells #[.map (some mb)] 151)).alloc (.cells #[.slice p N cap] 44)) (w.heap.size+1) #[.slice p N cap] 44:=by
  have:=Blk.new (w:=w.alloc (.cells #[.map (some mb)] 151)) (cs:=#[.slice p N cap]) (t:=44)
  rwa [alloc_hs] at this
 have hsz:((w.alloc (.cells #[.map (some mb)] 151)).alloc (.cells #[.slice p N cap] 44)).heap.size=w.heap.size+2:=(by rw [alloc_hs,alloc_hs]);generalize hWW:(w.alloc (.cells #[.map (some mb)] 151)).alloc (.cells #[.slice p N cap] 44)=w0 at *
 refine range_idx rfl (by omega) (gf:=242) (lb:=#[.pointer (some ⟨w.heap.size+1,0,none⟩)]) rfl trivial (enters_of func242 (by kernel_rfl) rfl)
  (encs:=fun k=>#[.int .i64 ((N - 1 - k:Nat):Nat),.agg (L.getD (N - 1 - k) []).toArray]) (fun _=>rfl) N mb (by omega)
  (fun l J W hW hY h0=>back_idx 5 l (w.heap.size+1) w0.heap.size mb N cap p L HLL.out hnb (by omega) (by omega) J hY W ((hW.cell (p:=⟨w.heap.size+1,0,none⟩) (by show w.heap.size+1<_;omega)).trans (bS.cell 0 _ rfl)) (fun i cs hi=>?lat) h0)
  (fun k W=>StI w mb n d S (es.drop (N - k)) W)
  (fun k A B h hA hB=>⟨h.set.keep (hB.block mb (by omega)),h.off.under (by omega) hB,h.box.below hB (by omega)⟩)
  (by rw [Nat.sub_zero,List.drop_of_length_le (by rw [HN.out];exact Nat.le_refl _)];exact ⟨HSET.out.keep (BW.block mb hmb),Off.of_below BW,bM⟩) ?round ?done
 case lat =>
  obtain ⟨h1,⟨g,off,h2,h3,h4,h5⟩,-⟩:=HLT.out i cs hi;exact ⟨h1,g,off,h2,by omega,h3,fun j hj=>(hW.cell (p:=⟨g,_,none⟩) (by show g<_;omega)).trans ((BW.cell (p:=⟨g,_,none⟩) h4).trans (h5 j hj))⟩
 case round =>
  rintro l k W ⟨hs,ho,hm⟩ hsW hk hl;have hi:N - 1 - k<N:=(by omega);obtain ⟨cs,hcs⟩:∃ cs,L[N - 1 - k]?=some cs:=⟨L[N - 1 - k]'(by rw [HLL.out];exact hi),List.getElem?_eq_getElem _⟩;obtain ⟨x,hx⟩:∃ x,es[N - 1 - k]?=some x:=⟨es[N - 1 - k]'(by rw [HN.out];exact hi),List.getElem?_eq_getElem _⟩;have hgd:L.getD (N - 1 - k) []=cs:=(by rw [List.getD_eq_getElem?_getD,hcs];rfl);obtain ⟨-,-,h3⟩:=HLT.out _ cs hcs;have hex:=h3 x hx;obtain ⟨sk,sn,st,se,p1,n1,q1,p2,n2,q2,hsh⟩:=HEx.shapeN hex;subst hsh;rw [hgd];have HS:=hid hs;have HX:=hid hex;have HO:=hid ho;have HM:=hid hm;have HD:=hid (drop_back es N k x HN.out hk hx)
  have HFL:Hid (n+((es.drop (N - k)).flatMap (varL d)).length+(varL d x).length≤33554432):=by
   have h1:=flat_drop (varL d) es (N - (k+1));have h2:=HCNT.out;rw [HD.out,List.flatMap_cons,List.length_append] at h1;show _≤_;omega
  obtain ⟨px,dx,hpx⟩:=HOK.out x (List.mem_of_getElem? hx);have HPX:=hid hpx;clear hs hex ho hm hgd h3 hpx
  gi_wp2
  refine ⟨Off.of_below ((sqN _ _)),fun r o' hl'=>?_⟩;have bB:=Blk.new (w:=W) (cs:=#[.int .i64 sk,.int .i64 sn,.string st,.string se,.slice p1 n1 q1,.slice p2 n2 q2]) (t:=76);have BA:Below w0.heap.size W (W.alloc (.cells #[.int .i64 sk,.int .i64 sn,.string st,.string se,.slice p1 n1 q1,.slice p2 n2 q2] 76)):=(Below.refl _ _).alloc hsW _
  have hne:W.heap.size≠l:=fun e=>by
   unfold Blk at bB;rw [e,hl'] at bB
   cases bB
  generalize W.alloc (.cells #[.int .i64 sk,.int .i64 sn,.string st,.string se,.slice p1 n1 q1,.slice p2 n2 q2] 76)=W' at *;have BP:Below w0.heap.size W' (W'.putObj l o'):=below_put o' hl;have bB2:Blk (W'.putObj l o') W.heap.size #[.int .i64 sk,.int .i64 sn,.string st,.string se,.slice p1 n1 q1,.slice p2 n2 q2] 76:=(World.putObj_heap_other hne).trans bB;have BQ:Below w0.heap.size W (W'.putObj l o'):=BA.trans BP;have bM2:Blk (W'.putObj l o') w.heap.size #[.map (some mb)] 151:=HM.out.below BQ (by omega);have HO2:=hid (HO.out.under (by omega) BQ);have HS2:=hid (HS.out.keep (BQ.block mb (by omega)));generalize W'.putObj l o'=W2 at *;have c0:=bM2.cell 0 _ rfl;obtain ⟨d0,d1,d2,d3,d4,d5⟩:=sqB6 bB2;have HM2:=hid bM2;have hfA:Fence.wide.fn 231:=trivial;have hW2:w.heap.size+2≤W2.heap.size:=(by have:=BQ.size;omega);clear bB bB2 bM2 BA BP BQ hl'
  gi_wp2_with (gi_at_call 231;refine (CallsIn.inRound l ((callsIn_wide (n:=7 - 1 - 1 - 1)).2 (HA.out _ mb _ _ _ x px dx (HX.out.offN HO2.out) HPX.out HS2.out HFL.out))).mono ?_;rintro e w3 ⟨rfl,hs3,ho3⟩)
  rw [HD.out];refine ⟨?_,HO2.out.trans ho3,?_⟩
  · rw [ List.flatMap_cons,List.length_append,List.foldr_cons,show n+((varL d x).length+((es.drop (N - k)).flatMap (varL d)).length)=n+((es.drop (N - k)).flatMap (varL d)).length+(varL d x).length by omega]
    exact hs3
  · exact (ho3.block w.heap.size (by omega) (by simp;omega)).trans HM2.out
 case done =>
  intro D W hD hI hK;rw [Nat.sub_self,List.drop_zero] at hI;obtain ⟨hs,ho,-⟩:=hI
  gi_wp2
  refine ⟨by simp,.inl ⟨_,_,rfl,run_takeDeferred hK,?_⟩⟩;have hp:Below w0.heap.size W (W.putObj D (.deferred none)):=below_put _ hD;exact ⟨_,results_none rfl _ _ _,rfl,hs.keep (hp.block mb (by omega)),ho.under (by omega) hp⟩
end Go.Proofs.YtdhlonogmnkemaaGreatDoor
namespace Go.Proofs.YtdhlonogmnkemaaGreatDoor
open Go.ChangeShapes Go.WideShapes Go.ChangeAt Go.RowKit Go.Maps Go.WideMaps Go.Proofs.Tryz
set_option linter.unusedVariables false
set_option maxRecDepth 100000
def bindsB (k:Int) (nk:Nat):Bool:=decide (k=9) && decide (nk=2)
theorem binds_any (k n:Int) (t m:ByteArray) (p q:Option Addr) (nk c nc c':Nat) (w:World) :
 Calls prog 245 #[.agg #[.int .i64 k,.int .i64 n,.string t,.string m,.slice p nk c,.slice q nc c']] w fun e w'=>e=.returned (.bool (bindsB k nk))∧w'=w.alloc (.cells #[.int .i64 k,.int .i64 n,.string t,.string m,.slice p nk c,.slice q nc c'] 76):=by
 by_cases hk:k=9
 · subst hk
   by_cases h2:nk=2
   · subst h2
     go_enter func245,ntmps245;go_wp2;go_ret;exact ⟨by simp [bindsB],rfl⟩
   · have h2':¬ (nk:Int)=2:=by omega
     have h2b:((nk:Int) == 2)=false:=(by simpa using h2');have HE:Hid (bindsB 9 nk=false):=(by show _=_;simp [bindsB,h2]);go_enter func245,ntmps245;go_wp2;go_ret;exact ⟨by rw [HE.out];rfl,rfl⟩
 · have hkb:(k == 9)=false:=by simpa using hk
   have HE:Hid (bindsB k nk=false):=(by show _=_;simp [bindsB,hk]);go_enter func245,ntmps245;go_wp2;go_ret;exact ⟨by rw [HE.out];rfl,rfl⟩
theorem addExp0_any (n:Int) (t m:ByteArray) (p q:Option Addr) (c nc c':Nat) (v:Value) (w:World) :
 Calls prog 253 #[v,.agg #[.int .i64 2,.int .i64 n,.string t,.string m,.slice p 0 c,.slice q nc c']] w fun e w'=>e=.returned (.tuple #[])∧Bz w w':=by
 have BL:Hid (Bz w ((w.alloc (.cells #[.int .i64 2,.int .i64 n,.string t,.string m,.slice p 0 c,.slice q nc c'] 76)).alloc (.cells #[.int .i64 2,.int .i64 n,.string t,.string m,.slice p 0 c,.slice q nc c'] 76))):=((sqN _ _)).alloc (by simp) _;have hb:bindsB 2 0=false:=rfl;go_enter func253,ntmps253;go_wp2_with (go_at_call 245;refine (binds_any _ _ _ _ _ _ _ _ _ _ _).mono ?_;rintro e w' ⟨rfl,rfl⟩;rw [hb])
 go_loopw [24] (fun iv wr=>iv=.int .i64 0∧Hid (Bz w wr)) (fun _ _=>0)
 case atStart=>exact ⟨rfl,BL.out⟩
 case round =>
  obtain ⟨rfl,HB⟩:=hrel;go_wp2_with fail;go_end0;exact ⟨rfl,HB.out⟩
theorem bound0_any (n:Int) (t m:ByteArray) (p q:Option Addr) (c nc c':Nat) (w:World) :
 Calls prog 244 #[.agg #[.int .i64 2,.int .i64 n,.string t,.string m,.slice p 0 c,.slice q nc c']] w fun e w'=>(∃ p c,e=.returned (.slice p 0 c))∧Bz w w':=by
 have hm:=@mkMap;go_enter func244,ntmps244;go_wp2_with fail;have bO:=Blk.new (w:=((w.alloc (.cells #[.int .i64 2,.int .i64 n,.string t,.string m,.slice p 0 c,.slice q nc c'] 76)).alloc (.map #[] 0)).alloc (.cells #[] 9)) (cs:=#[.map (some (w.heap.size+1)),.slice (some ⟨w.heap.size+1+1,0,none⟩) 0 0]) (t:=286);simp only [alloc_hs] at bO;have BL:Bz w ((((w.alloc (.cells #[.int .i64 2,.int .i64 n,.string t,.string m,.slice p 0 c,.slice q nc c'] 76)).alloc (.map #[] 0)).alloc (.cells #[] 9)).alloc (.cells #[.map (some (w.heap.size+1)),.slice (some ⟨w.heap.size+1+1,0,none⟩) 0 0] 286)):=((((sqN _ _)).alloc (by simp) _).alloc (by simp only [alloc_hs];omega) _).alloc (by simp only [alloc_hs];omega) _;refine (addExp0_any _ _ _ _ _ _ _ _ _ _).mono ?_;rintro e w1 ⟨rfl,hb⟩;have b1:=bO.next hb;have x1:=b1.cell 1 _ rfl;have B1:=hid (BL.trans (hb.mono BL.size));clear hb BL bO b1;go_wp2_with fail;go_ret;exact ⟨⟨_,_,rfl⟩,B1.out⟩
theorem removeAll0_any (mb:Nat) (p:Option Addr) (c:Nat) (w:World) :
 Calls prog 243 #[.map (some mb),.slice p 0 c] w fun e w'=>e=.returned (.tuple #[])∧w'=w:=by
 go_enter func243,ntmps243;go_wp2_with fail
 go_loopw [8] (fun iv wr=>iv=.int .i64 0∧Hid (wr=w)) (fun _ _=>0)
 case atStart=>exact ⟨rfl,rfl⟩
 case round =>
  obtain ⟨rfl,HB⟩:=hrel;go_wp2_with fail;go_end0;exact ⟨rfl,HB.out⟩
def wantS (d:Nat) (c:Cl):List UInt8→Prop:=fun z=>inK z (listV (freeV d) (bndV d) (foldV (patV d) [] c.1) c.2)
def clVarL (d:Nat) (c:Cl):List (List UInt8):=c.1.flatMap (varL d) ++ c.2.flatMap (varL d)
def clOkD (d:Nat) (c:Cl):Prop:=(∃ deep,∀ y ∈ c.1,exOk d y true deep=true)∧∀ y ∈ c.2,∃ p deep,exOk d y p deep=true
def WbC (d:Nat):Prop:=∀ (w:World) (cs:List Value) (c:Cl),HCl w All (HEx w All d) cs c→clOkD d c→(clVarL d c).length≤33554432 →
 Calls prog 212 #[.agg cs.toArray] w fun e w'=>∃ mb,e=.returned (.map (some mb))∧w.heap.size≤mb∧SetAt w' mb (clVarL d c).length (wantS d c)∧Bz w w'
def AwC (d:Nat):Prop:=∀ (w:World) (mb n:Nat) (S:List UInt8→Prop) (v:Value) (cl:List Cl),Rows w (fun g=>g≠mb) 2 (HCl w (fun g=>g≠mb) (HEx w (fun g=>g≠mb) d)) v cl→(∀ c ∈ cl,clOkD d c)→SetAt w mb n S→n+(cl.flatMap (clVarL d)).length≤33554432 →
 Calls prog 246 #[.map (some mb),v] w fun e w'=>e=.returned (.tuple #[])∧SetAt w' mb (n+(cl.flatMap (clVarL d)).length) (fun z=>S z∨∃ c ∈ cl,wantS d c z)∧Off [mb] w w'
theorem wantedBy_of {d:Nat} (hO:StO d):WbC d:=by
 intro w cs c h hok hcnt;have hm:=@mkMap;obtain ⟨pv,bdv,rfl,rp,rb⟩:=h;have HOK:=hid hok;have HRP:=hid rp;have HRB:=hid rb;obtain ⟨pp,capp,rfl,hclp,hcmp,-⟩:=id rp;obtain ⟨pb,capb,rfl,-⟩:=id rb;have hnp:c.1.length≤9223372036854775807:=(by unfold maxLen at hcmp;omega);have hcl:(clVarL d c).length=(c.1.flatMap (varL d)).length+(c.2.flatMap (varL d)).length:=(by unfold clVarL;rw [List.length_append]);have HCL:=hid hcl;have HC:=hid hcnt;have B0:Bz w ((w.alloc (.cells #[.slice pp c.1.length capp,.slice pb c.2.length capb] 46)).alloc (.map #[] 0)):=((sqN _ _)).alloc (by simp) _;have bC:Hid (Blk ((w.alloc (.cells #[.slice pp c.1.length capp,.slice pb c.2.length capb] 46)).alloc (.map #[] 0)) w.heap.size #[.slice pp c.1.length capp,.slice pb c.2.length capb] 46):=Blk.new.alloc
 have M0:Hid (SetAt ((w.alloc (.cells #[.slice pp c.1.length capp,.slice pb c.2.length capb] 46)).alloc (.map #[] 0)) (w.heap.size+1) 0 (fun _=>False)):=by
  have:=SetAt.made (w.alloc (.cells #[.slice pp c.1.length capp,.slice pb c.2.length capb] 46))
  rwa [alloc_hs] at this
 have HB0:=hid B0
 have RT:Hid (∀ w' v es,Rows w All 6 (HEx w All d) v es→Bz w w'→Rows w' (fun g=>g≠w.heap.size+1) 6 (HEx w' (fun g=>g≠w.heap.size+1) d) v es):=fun w' v es h hb=>by
  have h1:=h.tight (R':=HEx w (fun g=>g<w.heap.size) d) (fun _ _ h=>h.tight);have s1:SameOn (fun g=>g<w.heap.size) w w':=⟨hb.size,fun g hg _=>hb.block g hg⟩;exact h1.mono s1 (fun g (hg:g<w.heap.size)=>by show g≠_;omega) (fun _ _ _ h=>h.mono s1 (fun g (hg:g<w.heap.size)=>by show g≠_;omega))
 generalize hnp0:c.1.length=np at *;have HNP:=hid hnp0;clear rp rb hok hcnt hcl B0 hnp0 hclp hcmp;go_enter func212,ntmps212;go_wp2_with fail;refine (hO _ (w.heap.size+1) 0 (fun _=>False) _ c.2 (RT.out _ _ _ HRB.out HB0.out) HOK.out.2 M0.out (by have:=HC.out;have:=HCL.out;omega)).mono ?_;rintro e w1 ⟨rfl,hs1,ho1⟩;rw [Nat.zero_add] at hs1;have B1:=hid (HB0.out.trans (ho1.below (by simp) HB0.out.size));have b1:Hid (Blk w1 w.heap.size #[.slice pp np capp,.slice pb c.2.length capb] 46):=(ho1.block w.heap.size bC.out.lt (by simp)).trans bC.out;have M1:=hid hs1;have x0:=b1.out.cell 0 _ rfl;clear hs1 ho1 M0 bC HB0;go_wp2_with fail
 go_loopw [14] (fun iv wr=>∃ k:Nat,k≤np∧iv=.int .i64 k∧Hid (SetAt wr (w.heap.size+1) (c.2.flatMap (varL d)).length (fun z=>c.2.foldr (stepS d) (fun _=>False) z∧z ∉ (c.1.take k).flatMap (varL d)))∧Hid (Bz w wr)) (fun iv _=>np - (intOf iv).toNat)
 case atStart=>exact ⟨0,Nat.zero_le _,rfl,M1.out.iff (fun z=>by simp),B1.out⟩
 case round =>
  clear x0 M1 B1 b1;obtain ⟨k,hk,rfl,HM,HB⟩:=hrel;by_cases hlt:k<np
  · obtain ⟨x,hxk⟩:∃ x,c.1[k]?=some x:=⟨c.1[k]'(by rw [HNP.out];exact hlt),List.getElem?_eq_getElem _⟩
    obtain ⟨p',cap',hv,-,-,hx⟩:=RT.out wr _ _ HRP.out HB.out;simp only [Value.slice.injEq] at hv;obtain ⟨rfl,-,rfl⟩:=hv;obtain ⟨g,off,rfl,hgm,hgl,hat⟩:=hx (sqE hxk);obtain ⟨cs,hcsl,hcs,r1⟩:=hat k x hxk;have E1:=hid r1;obtain ⟨c0,c1,c2,c3,c4,c5,rfl⟩:=len6 hcsl;obtain ⟨a0,a1,a2,a3,a4,a5⟩:=sqC6 hcs (by omega);simp at a0 a1 a2 a3 a4 a5
    have HFX:Hid ((varL d x).length≤33554432):=by
     have h1:=HC.out;have h2:=HCL.out;have h3:=flat_drop (varL d) c.1 k;rw [List.drop_eq_getElem_cons (by rw [HNP.out];exact hlt),List.flatMap_cons,List.length_append] at h3;have h5:c.1[k]'(by rw [HNP.out];exact hlt)=x:=(List.getElem?_eq_some_iff.1 hxk).2;rw [h5] at h3;show _≤_;omega
    have HT:Hid ((c.1.take (k+1)).flatMap (varL d)=(c.1.take k).flatMap (varL d) ++ varL d x):=by
     show _=_;rw [List.take_add_one,hxk];simp
    have hki:(k:Int)<(np:Int):=(by omega);have hk0:=sqI k;clear hat hcs hcsl r1 hx;obtain ⟨sk,sn,st,se,p1,n1,q1,p2,n2,q2,hsh⟩:=HEx.shapeN E1.out;simp only [List.cons.injEq,and_true] at hsh;obtain ⟨rfl,rfl,rfl,rfl,rfl,rfl⟩:=hsh;have HBA:Hid (Bz wr (wr.alloc (.cells #[.int .i64 sk,.int .i64 sn,.string st,.string se,.slice p1 n1 q1,.slice p2 n2 q2] 76))):=(sqN _ _);go_wp2_with fail;refine (eachVarR_any (n0:=(c.2.flatMap (varL d)).length) (S0:=fun z=>c.2.foldr (stepS d) (fun _=>False) z∧z ∉ (c.1.take k).flatMap (varL d)) _ (w.heap.size+1) d _ x [] (E1.out.offN (Off.of_below HBA.out)) ((HM.out.keep (HBA.out.block _ HM.out.lt)).iff (fun z=>by simp)) (by have:=HFX.out;simpa using this)).mono ?_;rintro e w2 ⟨rfl,hm2,ho2⟩;rw [List.nil_append] at hm2;have B2:Hid (Bz w w2):=(HB.out.trans (HBA.out.mono HB.out.size)).trans (ho2.below (by simp) (by have:=HB.out.size;rw [alloc_hs];omega));have M2:Hid (SetAt w2 (w.heap.size+1) (c.2.flatMap (varL d)).length (fun z=>c.2.foldr (stepS d) (fun _=>False) z∧z ∉ (c.1.take (k+1)).flatMap (varL d))):=SetAt.iff hm2 (fun z=>by rw [HT.out,List.mem_append,not_or,and_assoc]);clear hm2 ho2;go_wp2_with fail;exact ⟨⟨k+1,by omega,by go_num,M2.out,B2.out⟩,by simp [intOf];omega⟩
  · have HS:Hid (SetAt wr (w.heap.size+1) (clVarL d c).length (wantS d c)):=by
     have h1:=HM.out;rw [List.take_of_length_le (by rw [HNP.out];omega)] at h1;obtain ⟨⟨deep,hp⟩,-⟩:=HOK.out;exact (h1.iff (fun z=>clause_step d c deep hp z)).more (by have:=HCL.out;omega)
    go_wp2_with fail;go_ret;exact ⟨_,rfl,by omega,HS.out,HB.out⟩
theorem addWanted_of {d:Nat} (hW:WbC d):AwC d:=by
 intro w mb n S v cl h hok hset hcnt;have HR:=hid h;obtain ⟨p,cap,rfl,hcl,hcm,-⟩:=id h;have hnb:=sqM hcl hcm;have HSET:=hid hset;have HOK:=hid hok;have HC:=hid hcnt;generalize hn:cl.length=nc at *;have HN:=hid hn;clear h hok hset hcnt hn;go_enter func246,ntmps246;go_wp2_with fail
 go_loopw [8] (fun iv wr=>∃ k:Nat,k≤nc∧iv=.int .i64 k∧Hid (SetAt wr mb (n+((cl.take k).flatMap (clVarL d)).length) (fun z=>S z∨∃ c ∈ cl.take k,wantS d c z))∧Hid (Off [mb] w wr)) (fun iv _=>nc - (intOf iv).toNat)
 case atStart=>exact ⟨0,Nat.zero_le _,rfl,HSET.out.iff (fun z=>by simp),Off.refl _ _⟩
 case round =>
  obtain ⟨k,hk,rfl,HM,HO⟩:=hrel;by_cases hlt:k<nc
  · obtain ⟨c,hck⟩:=sqA (l:=cl) (k:=k) HN.out hlt
    obtain ⟨p',cap',hv,-,-,hx⟩:=HR.out;simp only [Value.slice.injEq] at hv;obtain ⟨rfl,-,rfl⟩:=hv;obtain ⟨g,off,rfl,hgm,hgl,hat⟩:=hx (sqE hck);obtain ⟨cs,hcsl,hcs,r1⟩:=hat k c hck;have SO:SameOn (fun g=>g≠mb) w wr:=⟨HO.out.size,fun g hg hl=>HO.out.block g hl (by simpa using hg)⟩;have E1:=hid (HCl.mono r1 SO (fun _ _=>trivial) (fun _ _ h=>h.mono SO (fun _ _=>trivial)));obtain ⟨pv,bv,rfl,rp,rb⟩:=r1;obtain ⟨pp,capp,rfl,-⟩:=rp;obtain ⟨pb,capb,rfl,-⟩:=rb;have hge:wr.heap[g]?=w.heap[g]?:=HO.out.block g hgl (by simpa using hgm);have a0:=(sqK (a:=⟨g,off+k * 2+0,none⟩) hge).trans (hcs 0 (by omega));have a1:=(sqK (a:=⟨g,off+k * 2+1,none⟩) hge).trans (hcs 1 (by omega));simp at a0 a1
    have HCK:Hid (n+((cl.take k).flatMap (clVarL d)).length+(clVarL d c).length≤33554432):=by
     have h1:=HC.out
     have h2:(cl.flatMap (clVarL d))=(cl.take k).flatMap (clVarL d) ++ (clVarL d c ++ (cl.drop (k+1)).flatMap (clVarL d)):=by
      have h3:cl=cl.take k ++ c :: cl.drop (k+1):=by
       have h4:=List.take_append_drop k cl;rw [List.drop_eq_getElem_cons (by rw [HN.out];exact hlt)] at h4;have h5:cl[k]'(by rw [HN.out];exact hlt)=c:=(List.getElem?_eq_some_iff.1 hck).2;rw [h5] at h4;exact h4.symm
      conv=>lhs;rw [h3]
      simp
     rw [h2] at h1;show _≤_;simp only [List.length_append] at h1;omega
    have HT1:Hid (((cl.take (k+1)).flatMap (clVarL d)).length=((cl.take k).flatMap (clVarL d)).length+(clVarL d c).length):=by
     show _=_;rw [List.take_add_one,hck];simp
    have HT2:Hid (∀ z,(S z∨∃ c ∈ cl.take k,wantS d c z)∨wantS d c z ↔ S z∨∃ c ∈ cl.take (k+1),wantS d c z):=fun z=>by
     rw [List.take_add_one,hck];simp only [Option.toList_some,List.mem_append,List.mem_singleton]
     constructor
     · rintro ((h | ⟨c',h,h'⟩) | h)
       · exact .inl h
       · exact .inr ⟨c',.inl h,h'⟩
       · exact .inr ⟨c,.inr rfl,h⟩
     · rintro (h | ⟨c',h | rfl,h'⟩)
       · exact .inl (.inl h)
       · exact .inl (.inr ⟨c',h,h'⟩)
       · exact .inr h'
    have HOKc:=hid (HOK.out c (List.mem_of_getElem? hck));have hki:(k:Int)<(nc:Int):=(by omega);have hk0:=sqI k;have HBC:Hid (Bz wr (wr.alloc (.cells #[.slice pp c.1.length capp,.slice pb c.2.length capb] 46))):=(sqN _ _);clear hat hcs hcsl hge hx SO;go_wp2_with fail;refine (hW _ _ c (HCl.mono E1.out (sqO HBC.out) (fun _ h=>h) (fun _ _ h=>h.mono (sqO HBC.out) (fun _ h=>h))) HOKc.out (by have:=HCK.out;omega)).mono ?_;rintro e w2 ⟨mb2,rfl,hlm,hs2,hb2⟩;have HB2:=hid (HBC.out.trans (hb2.mono HBC.out.size));have M2:Hid (SetAt w2 mb (n+((cl.take k).flatMap (clVarL d)).length) (fun z=>S z∨∃ c ∈ cl.take k,wantS d c z)):=HM.out.keep (HB2.out.block mb HM.out.lt);have S2:=hid hs2;have hne:mb≠mb2:=(by have:=HM.out.lt;rw [alloc_hs] at hlm;omega);clear hs2 hb2 a0 a1;go_wp2_with fail;refine (copyN_any _ mb mb2 _ _ _ _ M2.out S2.out hne (by have:=HCK.out;unfold maxLen;omega)).mono ?_;rintro e w3 ⟨rfl,hs3,ho3⟩
    have M3:Hid (SetAt w3 mb (n+((cl.take (k+1)).flatMap (clVarL d)).length) (fun z=>S z∨∃ c ∈ cl.take (k+1),wantS d c z)):=by
     have h1:=hs3.iff HT2.out;rw [HT1.out,← Nat.add_assoc];exact h1
    have O3:Hid (Off [mb] w w3):=(HO.out.trans (Off.of_below HB2.out)).trans ho3;clear hs3 ho3;go_wp2_with fail;exact ⟨⟨k+1,by omega,by go_num,M3.out,O3.out⟩,by simp [intOf];omega⟩
  · have HS:Hid (SetAt wr mb (n+(cl.flatMap (clVarL d)).length) (fun z=>S z∨∃ c ∈ cl,wantS d c z)):=by
     have h1:=HM.out
     rwa [List.take_of_length_le (by rw [HN.out];omega)] at h1
    go_wp2_with fail;go_end0;exact ⟨rfl,HS.out,HO.out⟩
theorem varL_eq (d:Nat) (k n:Int) (t m:ByteArray) (ks:List Ex) (cs:List Cl):varL (d+1) (.mk k n t m ks cs)=(if k=2 then [keyS t] else []) ++ (ks.flatMap (varL d) ++ cs.flatMap (clVarL d)):=rfl
theorem stepA_var {d:Nat} (w:World) (mb n:Nat) (S:List UInt8→Prop) (cs:List Value) (nx:Int) (tx mx:ByteArray) (cl:List Cl) (h:HEx w (fun g=>g≠mb) (d+1) cs (.mk 2 nx tx mx [] cl)) (hset:SetAt w mb n S) (hcnt:n+(varL (d+1) (.mk 2 nx tx mx [] cl)).length≤33554432) :
 Calls prog 231 #[.map (some mb),.agg cs.toArray] w fun e w'=>e=.returned (.tuple #[])∧SetAt w' mb (n+(varL (d+1) (.mk 2 nx tx mx [] cl)).length) (stepS (d+1) (.mk 2 nx tx mx [] cl) S)∧Off [mb] w w':=by
 have hv:=varL_eq d 2 nx tx mx [] cl
 have HL:Hid (n+1≤n+(varL (d+1) (.mk 2 nx tx mx [] cl)).length):=by
  show _≤_;rw [hv];simp
 have HC:=hid hcnt;generalize (varL (d+1) (.mk 2 nx tx mx [] cl)).length=nl at *;have HST:Hid (∀ z,(S z∨z=tx.data.toList) ↔ stepS (d+1) (.mk 2 nx tx mx [] cl) S z):=fun z=>step_var d nx tx mx cl S z;generalize stepS (d+1) (.mk 2 nx tx mx [] cl) S=S2 at *;obtain ⟨kv,cv,rfl,-,-,hts,-,f0,f1⟩:=h;simp only [Ex.kind,Ex.n,Ex.text,Ex.mod,Ex.kids,Ex.clauses] at *;obtain ⟨p,cap,rfl,-⟩:=f0;obtain ⟨pc,capc,rfl,-⟩:=f1;have BA:Hid (Bz w (w.alloc (.cells #[.int .i64 2,.int .i64 nx,.string tx,.string mx,.slice p 0 cap,.slice pc cl.length capc] 76))):=(sqN _ _);have bA:Hid (Blk (w.alloc (.cells #[.int .i64 2,.int .i64 nx,.string tx,.string mx,.slice p 0 cap,.slice pc cl.length capc] 76)) w.heap.size #[.int .i64 2,.int .i64 nx,.string tx,.string mx,.slice p 0 cap,.slice pc cl.length capc] 76):=Blk.new;have HSET:=hid hset;have HTS:=hid hts;simp only [List.length_nil] at *;clear hv hcnt hset hts;go_enter func231,ntmps231;go_wp2_with fail;refine (bound0_any _ _ _ _ _ _ _ _ _).mono ?_;rintro e w1 ⟨⟨p1,c1,rfl⟩,hb1⟩;have b1:=bA.out.next hb1;have x2:=b1.cell 2 _ rfl;have B1:=hid (BA.out.trans (hb1.mono BA.out.size));clear hb1 b1;go_wp2_with fail;refine (removeAll0_any _ _ _ _).mono ?_;rintro e w2 ⟨rfl,hw2⟩;rw [hw2];go_wp2_with fail;refine (addN_any _ mb n S tx (HSET.out.keep (B1.out.block mb HSET.out.lt)) HTS.out (by have:=HC.out;have:=HL.out;unfold maxLen;omega)).mono ?_;rintro e w3 ⟨rfl,hs3,ho3⟩;have M3:Hid (SetAt w3 mb (n+nl) S2):=(hs3.iff HST.out).more HL.out;have O3:Hid (Off [mb] w w3):=(Off.of_below B1.out).trans ho3;clear hs3 ho3;go_wp2_with fail;go_end0;exact ⟨rfl,M3.out,O3.out⟩
theorem stepA_two {d:Nat} (hA:StA d) (w:World) (mb n:Nat) (S:List UInt8→Prop) (cs:List Value) (nx:Int) (tx mx:ByteArray) (ya yb:Ex) (cl:List Cl) (deep:Int) (pb:Bool) (h:HEx w (fun g=>g≠mb) (d+1) cs (.mk 9 nx tx mx [ya,yb] cl)) (oa:exOk d ya true deep=true) (ob:exOk d yb pb deep=true) (hset:SetAt w mb n S) (hcnt:n+(varL (d+1) (.mk 9 nx tx mx [ya,yb] cl)).length≤33554432) :
 Calls prog 231 #[.map (some mb),.agg cs.toArray] w fun e w'=>e=.returned (.tuple #[])∧SetAt w' mb (n+(varL (d+1) (.mk 9 nx tx mx [ya,yb] cl)).length) (stepS (d+1) (.mk 9 nx tx mx [ya,yb] cl) S)∧Off [mb] w w':=by
 have hv:=varL_eq d 9 nx tx mx [ya,yb] cl;have hl:(varL (d+1) (.mk 9 nx tx mx [ya,yb] cl)).length=(varL d ya).length+(varL d yb).length+(cl.flatMap (clVarL d)).length:=(by rw [hv];simp;omega);have HL:Hid (n+(varL d yb).length≤n+(varL (d+1) (.mk 9 nx tx mx [ya,yb] cl)).length):=(by show _≤_;omega);have HCA:Hid ((varL d ya).length≤33554432):=(by show _≤_;omega);have HCB:Hid (n+(varL d yb).length≤33554432):=(by show _≤_;omega);generalize (varL (d+1) (.mk 9 nx tx mx [ya,yb] cl)).length=nl at *;have HST:Hid (∀ z,stepS d yb (fun z=>S z∧z ∉ varL d ya) z ↔ stepS (d+1) (.mk 9 nx tx mx [ya,yb] cl) S z):=fun z=>step_two d nx tx mx ya yb cl deep oa S z;generalize stepS (d+1) (.mk 9 nx tx mx [ya,yb] cl) S=S2 at *;obtain ⟨kv,cv,rfl,-,-,hts,-,f0,f1⟩:=h;simp only [Ex.kind,Ex.n,Ex.text,Ex.mod,Ex.kids,Ex.clauses] at *;obtain ⟨p,cap,rfl,-,-,hx⟩:=f0;obtain ⟨pc,capc,rfl,-⟩:=f1;obtain ⟨g,off,rfl,hgm,hgl,hat⟩:=hx (by simp);obtain ⟨ca,hcal,hca,ra⟩:=hat 0 ya rfl;obtain ⟨cb,hcbl,hcb,rb⟩:=hat 1 yb rfl;have EA:=hid ra;have EB:=hid rb;obtain ⟨k1,m1,t1,e1,p1,n1,q1,r1,s1,u1,rfl⟩:=HEx.shapeN ra;obtain ⟨k2,m2,t2,e2,p2,n2,q2,r2,s2,u2,rfl⟩:=HEx.shapeN rb;simp only [List.length_cons,List.length_nil,Nat.zero_add,Nat.reduceAdd] at *;have BA:Hid (Bz w (w.alloc (.cells #[.int .i64 9,.int .i64 nx,.string tx,.string mx,.slice (some ⟨g,off,none⟩) 2 cap,.slice pc cl.length capc] 76))):=(sqN _ _);have bA:Hid (Blk (w.alloc (.cells #[.int .i64 9,.int .i64 nx,.string tx,.string mx,.slice (some ⟨g,off,none⟩) 2 cap,.slice pc cl.length capc] 76)) w.heap.size #[.int .i64 9,.int .i64 nx,.string tx,.string mx,.slice (some ⟨g,off,none⟩) 2 cap,.slice pc cl.length capc] 76):=Blk.new;have HSET:=hid hset;have hbd:bindsB 9 2=true:=rfl;have KA:Hid (∀ w':World,(w'.heap[g]?=w.heap[g]?)→∀ j,j<6→w'.cell? ⟨g,off+0 * 6+j,none⟩ = [Value.int .i64 k1,.int .i64 m1,.string t1,.string e1,.slice p1 n1 q1,.slice r1 s1 u1][j]?):=fun w' he j hj=>(sqK he).trans (hca j hj);have KB:Hid (∀ w':World,(w'.heap[g]?=w.heap[g]?)→∀ j,j<6→w'.cell? ⟨g,off+1 * 6+j,none⟩ = [Value.int .i64 k2,.int .i64 m2,.string t2,.string e2,.slice p2 n2 q2,.slice r2 s2 u2][j]?):=fun w' he j hj=>(sqK he).trans (hcb j hj);have HOB:=hid ob;have hmb:=hset.lt;have HG:Hid (g<w.heap.size∧g≠mb):=⟨hgl,hgm⟩;clear hv hcnt hset hts hl hat hca hcb ra rb hx oa ob hcal hcbl;go_enter func231,ntmps231;go_wp2_with fail;refine (binds_any _ _ _ _ _ _ _ _ _ _ _).mono ?_;rintro e w1 ⟨rfl,hw1⟩;rw [hbd];have BB:Below (w.alloc (.cells #[.int .i64 9,.int .i64 nx,.string tx,.string mx,.slice (some ⟨g,off,none⟩) 2 cap,.slice pc cl.length capc] 76)).heap.size (w.alloc (.cells #[.int .i64 9,.int .i64 nx,.string tx,.string mx,.slice (some ⟨g,off,none⟩) 2 cap,.slice pc cl.length capc] 76)) w1:=(by rw [hw1];exact (sqN _ _));have B1:=hid (BA.out.trans (BB.mono BA.out.size));have b1:=hid (bA.out.next BB);have x4:=b1.out.cell 4 _ rfl;have a0:=KA.out w1 (B1.out.block g HG.out.1) 0 (by omega);have a1:=KA.out w1 (B1.out.block g HG.out.1) 1 (by omega);have a2:=KA.out w1 (B1.out.block g HG.out.1) 2 (by omega);have a3:=KA.out w1 (B1.out.block g HG.out.1) 3 (by omega);have a4:=KA.out w1 (B1.out.block g HG.out.1) 4 (by omega);have a5:=KA.out w1 (B1.out.block g HG.out.1) 5 (by omega);simp at a0 a1 a2 a3 a4 a5;clear hw1 BB;go_wp2_with fail;refine (eachVarR_any (n0:=n) (S0:=S) _ mb d _ ya [] (EA.out.offN (Off.of_below B1.out)) ((HSET.out.keep (B1.out.block mb hmb)).iff (fun z=>by simp)) (by have:=HCA.out;simpa using this)).mono ?_;rintro e w2 ⟨rfl,hm2,ho2⟩;rw [List.nil_append] at hm2;have O2:Hid (Off [mb] w w2):=(Off.of_below B1.out).trans ho2;have M2:=hid hm2;have hl1:=b1.out.lt;have b2:Blk w2 w.heap.size #[.int .i64 9,.int .i64 nx,.string tx,.string mx,.slice (some ⟨g,off,none⟩) 2 cap,.slice pc cl.length capc] 76:=(ho2.block w.heap.size hl1 (by simp;omega)).trans b1.out;have y4:=b2.cell 4 _ rfl;have hg2:w2.heap[g]?=w.heap[g]?:=O2.out.block g HG.out.1 (by simpa using HG.out.2);have c0:=KB.out w2 hg2 0 (by omega);have c1:=KB.out w2 hg2 1 (by omega);have c2:=KB.out w2 hg2 2 (by omega);have c3:=KB.out w2 hg2 3 (by omega);have c4:=KB.out w2 hg2 4 (by omega);have c5:=KB.out w2 hg2 5 (by omega);simp at c0 c1 c2 c3 c4 c5;clear hm2 ho2 b2 hg2 x4 a0 a1 a2 a3 a4 a5 hl1;go_wp2_with fail;refine (hA _ mb n _ _ yb pb deep (EB.out.offN O2.out) HOB.out M2.out HCB.out).mono ?_;rintro e w3 ⟨rfl,hs3,ho3⟩;have M3:Hid (SetAt w3 mb (n+nl) S2):=(hs3.iff HST.out).more HL.out;have O3:=hid (O2.out.trans ho3);clear hs3 ho3;go_wp2_with fail;go_end0;exact ⟨rfl,M3.out,O3.out⟩
theorem stepA_case {d:Nat} (hO:StO d) (hW:AwC d) (w:World) (mb n:Nat) (S:List UInt8→Prop) (cs:List Value) (nx:Int) (tx mx:ByteArray) (ks:List Ex) (cl:List Cl) (h:HEx w (fun g=>g≠mb) (d+1) cs (.mk 10 nx tx mx ks cl)) (ok:∀ y ∈ ks,∃ p deep,exOk d y p deep=true) (oc:∀ c ∈ cl,clOkD d c) (hset:SetAt w mb n S) (hcnt:n+(varL (d+1) (.mk 10 nx tx mx ks cl)).length≤33554432) :
 Calls prog 231 #[.map (some mb),.agg cs.toArray] w fun e w'=>e=.returned (.tuple #[])∧SetAt w' mb (n+(varL (d+1) (.mk 10 nx tx mx ks cl)).length) (stepS (d+1) (.mk 10 nx tx mx ks cl) S)∧Off [mb] w w':=by
 have hv:=varL_eq d 10 nx tx mx ks cl
 have hl:(varL (d+1) (.mk 10 nx tx mx ks cl)).length=(ks.flatMap (varL d)).length+(cl.flatMap (clVarL d)).length:=by
  rw [hv,List.length_append,List.length_append];simp
 have HL:Hid (n+(cl.flatMap (clVarL d)).length+(ks.flatMap (varL d)).length≤n+(varL (d+1) (.mk 10 nx tx mx ks cl)).length):=(by show _≤_;omega);have HCA:Hid (n+(cl.flatMap (clVarL d)).length≤33554432):=(by show _≤_;omega);have HCB:Hid (n+(cl.flatMap (clVarL d)).length+(ks.flatMap (varL d)).length≤33554432):=(by show _≤_;omega);generalize (varL (d+1) (.mk 10 nx tx mx ks cl)).length=nl at *;have HST:Hid (∀ z,ks.foldr (stepS d) (fun z=>S z∨∃ c ∈ cl,wantS d c z) z ↔ stepS (d+1) (.mk 10 nx tx mx ks cl) S z):=fun z=>step_else d 10 nx tx mx ks cl (by decide) (by simp) S z;generalize stepS (d+1) (.mk 10 nx tx mx ks cl) S=S2 at *;obtain ⟨kv,cv,rfl,-,-,hts,-,f0,f1⟩:=h;simp only [Ex.kind,Ex.n,Ex.text,Ex.mod,Ex.kids,Ex.clauses] at *;have F0:Hid (∀ w',Off [mb] w w'→Rows w' (fun g=>g≠mb) 6 (HEx w' (fun g=>g≠mb) d) kv ks):=fun w' ho=>Rows.mono f0 ⟨ho.size,fun g hg hl=>ho.block g hl (by simpa using hg)⟩ (fun _ h=>h) (fun _ _ _ h=>HEx.offN h ho);have F1:Hid (∀ w',Off [mb] w w'→Rows w' (fun g=>g≠mb) 2 (HCl w' (fun g=>g≠mb) (HEx w' (fun g=>g≠mb) d)) cv cl):=fun w' ho=>Rows.mono f1 ⟨ho.size,fun g hg hl=>ho.block g hl (by simpa using hg)⟩ (fun _ h=>h) (fun _ _ _ h=>HCl.mono h ⟨ho.size,fun g hg hl=>ho.block g hl (by simpa using hg)⟩ (fun _ h=>h) (fun _ _ h=>HEx.offN h ho));obtain ⟨p,cap,rfl,-⟩:=id f0;obtain ⟨pc,capc,rfl,-⟩:=id f1;have BA:Hid (Bz w (w.alloc (.cells #[.int .i64 10,.int .i64 nx,.string tx,.string mx,.slice p ks.length cap,.slice pc cl.length capc] 76))):=(sqN _ _);have bA:Hid (Blk (w.alloc (.cells #[.int .i64 10,.int .i64 nx,.string tx,.string mx,.slice p ks.length cap,.slice pc cl.length capc] 76)) w.heap.size #[.int .i64 10,.int .i64 nx,.string tx,.string mx,.slice p ks.length cap,.slice pc cl.length capc] 76):=Blk.new;have HSET:=hid hset;have hbd:bindsB 10 ks.length=false:=rfl;have HOK:=hid ok;have HOC:=hid oc;have hmb:=hset.lt;clear hv hcnt hset hts hl f0 f1 ok oc;go_enter func231,ntmps231;go_wp2_with fail;refine (binds_any _ _ _ _ _ _ _ _ _ _ _).mono ?_;rintro e w1 ⟨rfl,hw1⟩;rw [hbd];have BB:Below (w.alloc (.cells #[.int .i64 10,.int .i64 nx,.string tx,.string mx,.slice p ks.length cap,.slice pc cl.length capc] 76)).heap.size (w.alloc (.cells #[.int .i64 10,.int .i64 nx,.string tx,.string mx,.slice p ks.length cap,.slice pc cl.length capc] 76)) w1:=(by rw [hw1];exact (sqN _ _));have B1:=hid (BA.out.trans (BB.mono BA.out.size));have b1:=hid (bA.out.next BB);have x0:=b1.out.cell 0 _ rfl;have x5:=b1.out.cell 5 _ rfl;clear hw1 BB;go_wp2_with fail;refine (hW _ mb n S _ cl (F1.out _ (Off.of_below B1.out)) HOC.out (HSET.out.keep (B1.out.block mb hmb)) HCA.out).mono ?_;rintro e w2 ⟨rfl,hm2,ho2⟩;have O2:Hid (Off [mb] w w2):=(Off.of_below B1.out).trans ho2;have M2:=hid hm2;have hl1:=b1.out.lt;have b2:Blk w2 w.heap.size #[.int .i64 10,.int .i64 nx,.string tx,.string mx,.slice p ks.length cap,.slice pc cl.length capc] 76:=(ho2.block w.heap.size hl1 (by simp;omega)).trans b1.out;have y4:=b2.cell 4 _ rfl;clear hm2 ho2 b2 x0 x5 hl1;go_wp2_with fail;refine (hO _ mb _ _ _ ks (F0.out _ O2.out) HOK.out M2.out HCB.out).mono ?_;rintro e w3 ⟨rfl,hs3,ho3⟩;have M3:Hid (SetAt w3 mb (n+nl) S2):=(hs3.iff HST.out).more HL.out;have O3:=hid (O2.out.trans ho3);clear hs3 ho3;go_wp2_with fail;go_end0;exact ⟨rfl,M3.out,O3.out⟩
theorem stepA_else {d:Nat} (hO:StO d) (w:World) (mb n:Nat) (S:List UInt8→Prop) (cs:List Value) (kx nx:Int) (tx mx:ByteArray) (ks:List Ex) (k2:kx≠2) (k9:kx≠9) (k10:kx≠10) (h:HEx w (fun g=>g≠mb) (d+1) cs (.mk kx nx tx mx ks [])) (ok:∀ y ∈ ks,∃ p deep,exOk d y p deep=true) (hset:SetAt w mb n S) (hcnt:n+(varL (d+1) (.mk kx nx tx mx ks [])).length≤33554432) :
 Calls prog 231 #[.map (some mb),.agg cs.toArray] w fun e w'=>e=.returned (.tuple #[])∧SetAt w' mb (n+(varL (d+1) (.mk kx nx tx mx ks [])).length) (stepS (d+1) (.mk kx nx tx mx ks []) S)∧Off [mb] w w':=by
 have hv:=varL_eq d kx nx tx mx ks []
 have hl:(varL (d+1) (.mk kx nx tx mx ks [])).length=(ks.flatMap (varL d)).length:=by
  rw [hv,if_neg k2];simp
 have HL:Hid (n+(ks.flatMap (varL d)).length≤n+(varL (d+1) (.mk kx nx tx mx ks [])).length):=(by show _≤_;omega);have HCB:Hid (n+(ks.flatMap (varL d)).length≤33554432):=(by show _≤_;omega);generalize (varL (d+1) (.mk kx nx tx mx ks [])).length=nl at *
 have HST:Hid (∀ z,ks.foldr (stepS d) S z ↔ stepS (d+1) (.mk kx nx tx mx ks []) S z):=fun z=>by
  rw [← step_else d kx nx tx mx ks [] k2 (fun h=>k9 h.1) S z];have e:(fun z=>S z∨∃ c ∈ ([]:List Cl),inK z (listV (freeV d) (bndV d) (foldV (patV d) [] c.1) c.2))=S:=(by funext z;simp);rw [e]
 generalize stepS (d+1) (.mk kx nx tx mx ks []) S=S2 at *;obtain ⟨kv,cv,rfl,-,-,hts,-,f0,f1⟩:=h;simp only [Ex.kind,Ex.n,Ex.text,Ex.mod,Ex.kids,Ex.clauses] at *;have F0:Hid (∀ w',Off [mb] w w'→Rows w' (fun g=>g≠mb) 6 (HEx w' (fun g=>g≠mb) d) kv ks):=fun w' ho=>Rows.mono f0 ⟨ho.size,fun g hg hl=>ho.block g hl (by simpa using hg)⟩ (fun _ h=>h) (fun _ _ _ h=>HEx.offN h ho);obtain ⟨p,cap,rfl,-⟩:=id f0;obtain ⟨pc,capc,rfl,-⟩:=id f1;simp only [List.length_nil] at *;have BA:Hid (Bz w (w.alloc (.cells #[.int .i64 kx,.int .i64 nx,.string tx,.string mx,.slice p ks.length cap,.slice pc 0 capc] 76))):=(sqN _ _);have bA:Hid (Blk (w.alloc (.cells #[.int .i64 kx,.int .i64 nx,.string tx,.string mx,.slice p ks.length cap,.slice pc 0 capc] 76)) w.heap.size #[.int .i64 kx,.int .i64 nx,.string tx,.string mx,.slice p ks.length cap,.slice pc 0 capc] 76):=Blk.new;have HSET:=hid hset;have hbd:bindsB kx ks.length=false:=(by simp [bindsB,k9]);have HOK:=hid ok;have hmb:=hset.lt;have k2b:(kx == 2)=false:=(by simpa using k2);have k10b:(kx == 10)=false:=(by simpa using k10);clear hv hcnt hset hts hl f0 f1 ok;go_enter func231,ntmps231;go_wp2_with fail;refine (binds_any _ _ _ _ _ _ _ _ _ _ _).mono ?_;rintro e w1 ⟨rfl,hw1⟩;rw [hbd];have BB:Below (w.alloc (.cells #[.int .i64 kx,.int .i64 nx,.string tx,.string mx,.slice p ks.length cap,.slice pc 0 capc] 76)).heap.size (w.alloc (.cells #[.int .i64 kx,.int .i64 nx,.string tx,.string mx,.slice p ks.length cap,.slice pc 0 capc] 76)) w1:=(by rw [hw1];exact (sqN _ _));have B1:=hid (BA.out.trans (BB.mono BA.out.size));have b1:=hid (bA.out.next BB);have x0:=b1.out.cell 0 _ rfl;have x4:=b1.out.cell 4 _ rfl;clear hw1 BB;go_wp2_with fail;refine (hO _ mb _ _ _ ks (F0.out _ (Off.of_below B1.out)) HOK.out (HSET.out.keep (B1.out.block mb hmb)) HCB.out).mono ?_;rintro e w3 ⟨rfl,hs3,ho3⟩;have M3:Hid (SetAt w3 mb (n+nl) S2):=(hs3.iff HST.out).more HL.out;have O3:Hid (Off [mb] w w3):=(Off.of_below B1.out).trans ho3;clear hs3 ho3;go_wp2_with fail;go_end0;exact ⟨rfl,M3.out,O3.out⟩
theorem stepA_of {d:Nat} (hA:StA d):StA (d+1):=by
 intro w mb n S cs x pat deep h hok hset hcnt;have hO:=ofAll_of hA;have hW:=addWanted_of (wantedBy_of hO);obtain ⟨k,nx,tx,mx,ks,cl⟩:=x;obtain ⟨h1,h2,h3,h4,h5,h6⟩:=exOk_parts hok
 have hks:∀ y ∈ ks,∃ p deep,exOk d y p deep=true:=fun y hy=>by
  obtain ⟨p,-,h⟩:=h5 y hy;exact ⟨p,_,h⟩
 by_cases k2:k=2
 · subst k2
   obtain rfl:=h2 rfl;exact stepA_var w mb n S cs nx tx mx cl h hset hcnt
 by_cases k9:k=9
 · subst k9
   obtain ⟨a,b,rfl,ha,pb,hb⟩:=h3 rfl;exact stepA_two hA w mb n S cs nx tx mx a b cl _ pb h ha hb hset hcnt
 by_cases k10:k=10
 · subst k10
   exact stepA_case hO hW w mb n S cs nx tx mx ks cl h hks (fun c hc=>⟨⟨_,(h6 c hc).1⟩,fun y hy=>⟨_,_,(h6 c hc).2 y hy⟩⟩) hset hcnt
 · obtain rfl:=h1 k10
   exact stepA_else hO w mb n S cs k nx tx mx ks k2 k9 k10 h hks hset hcnt
theorem stepA_all:∀ d,StA d
 | 0=>fun w mb n S cs x pat deep h _ _ _=>h.elim
 | d+1=>stepA_of (stepA_all d)
theorem wantedBy_all (d:Nat):WbC d:=wantedBy_of (ofAll_of (stepA_all d))
theorem SetAt.len {w:World} {mb n:Nat} {S:List UInt8→Prop} (h:SetAt w mb n S):∃ k:Nat,k≤n∧(∀ ty,(Builtin.len_ #[151] ty #[.map (some mb)]).run prog w=.ok (goInt k) w)∧(0<k ↔ ∃ z,S z):=by
 obtain ⟨D,hm,hD,hh⟩:=h;obtain ⟨es,clock,hes,-,hsz,rfl⟩:=hm
 have h2:∀ (q:List (Lit × DataW Unit)),(q.foldr DataW.insert []).length=q.length:=fun q=>by
  induction q with
  | nil=>rfl
  | cons x xs ih=>rw [List.foldr_cons,DataW.length_insert,ih];rfl
 refine ⟨es.size,hsz,fun ty=>run_len_map (w:=w) 151 ty mb es clock underlying151 hes,?_⟩;generalize hq:(es.toList.map _)=q at hD hh;have hql:(q.foldr DataW.insert []).length=es.size:=(by rw [h2,← hq,List.length_map,Array.length_toList]);have hk:=hD.keys _ rfl;generalize q.foldr DataW.insert []=l at hql hk hh
 constructor
 · intro h0
   cases l with
   | nil=>simp at hql;omega
   | cons p ps =>
    obtain ⟨⟨x,hx⟩,-⟩:=hk p (by simp);refine ⟨x,(hh x).1 ?_⟩;rw [has_eq,List.any_eq_true];exact ⟨p,by simp,by rw [hx];exact WideAt.sameKey_self trivial⟩
 · rintro ⟨z,hz⟩
   have:=(hh z).2 hz;rw [has_eq,List.any_eq_true] at this;obtain ⟨p,hp,-⟩:=this;have:=List.length_pos_of_mem hp;omega
theorem isLoose_any (d:Nat) (w:World) (cs:List Value) (c:Cl) (h:HCl w All (HEx w All d) cs c) (hok:clOkD d c) (hcnt:(clVarL d c).length≤33554432) :
 Calls prog 186 #[.agg cs.toArray] w fun e w'=>e=.returned (.bool (looseB d c))∧Bz w w':=by
 have HH:Hid (∀ w',Bz w w'→HCl w' All (HEx w' All d) cs c):=fun w' hb=>HCl.mono h (sqO hb) (fun _ h=>h) (fun _ _ h=>h.mono (sqO hb) (fun _ h=>h));obtain ⟨pv,bv,rfl,rp,rb⟩:=h;obtain ⟨pp,capp,rfl,-⟩:=rp;obtain ⟨pb,capb,rfl,-⟩:=rb;have HBC:Hid (Bz w (w.alloc (.cells #[.slice pp c.1.length capp,.slice pb c.2.length capb] 46))):=(sqN _ _);go_enter func186,ntmps186;go_wp2_with fail;refine (wantedBy_all d _ _ c (HH.out _ HBC.out) hok hcnt).mono ?_;rintro e w1 ⟨mb,rfl,-,hs,hb⟩;obtain ⟨k,hk,hlen,hz⟩:=hs.len;have B1:Hid (Bz w w1):=HBC.out.trans (hb.mono HBC.out.size)
 have HL:Hid (looseB d c=decide (0<k)):=by
  show _=_;by_cases h0:0<k
  · rw [decide_eq_true h0];exact (looseB_in d c).2 (hz.1 h0)
  · rw [decide_eq_false h0]
    cases hl:looseB d c with
    | false=>rfl
    | true=>exact absurd (hz.2 ((looseB_in d c).1 hl)) h0
 have hk2:k≤33554432:=(by omega);clear hs hb hz hk HH;go_wp2_with fail;go_ret;refine ⟨?_,B1.out⟩;rw [HL.out];by_cases h0:0<k
 · simp [h0]
 · simp [h0]
theorem idx_any (d:Nat) (w:World) (v:Value) (cl:List Cl) (h:Rows w All 2 (HCl w All (HEx w All d)) v cl) (hok:∀ c ∈ cl,clOkD d c) (hcnt:∀ c ∈ cl,(clVarL d c).length≤33554432) :
 Calls prog 211 #[v,.func (.func 186) #[] #[]] w fun e w'=>(∃ z:Int,e=.returned (.int .i64 z)∧-1≤z∧decide (0≤z)=cl.any (looseB d))∧Bz w w':=by
 have HR:=hid h;obtain ⟨p,cap,rfl,hcl,hcm,-⟩:=id h;have hnb:=sqM hcl hcm;have HOK:=hid hok;have HC:=hid hcnt;generalize hn:cl.length=nc at *;have HN:=hid hn;clear h hok hcnt hn;go_enter func211,ntmps211;go_wp2_with fail
 go_loopw [8] (fun iv wr=>∃ k:Nat,k≤nc∧iv=.int .i64 k∧Hid ((cl.take k).any (looseB d)=false)∧Hid (Bz w wr)) (fun iv _=>nc - (intOf iv).toNat)
 case atStart=>exact ⟨0,Nat.zero_le _,rfl,by show _=_;simp,Below.refl _ _⟩
 case round =>
  obtain ⟨k,hk,rfl,HA,HB⟩:=hrel;by_cases hlt:k<nc
  · obtain ⟨c,hck⟩:=sqA (l:=cl) (k:=k) HN.out hlt
    obtain ⟨p',cap',hv,-,-,hx⟩:=HR.out;simp only [Value.slice.injEq] at hv;obtain ⟨rfl,-,rfl⟩:=hv;obtain ⟨g,off,rfl,-,hgl,hat⟩:=hx (sqE hck);obtain ⟨cs,hcsl,hcs,r1⟩:=hat k c hck;have E1:Hid (HCl wr All (HEx wr All d) cs c):=HCl.mono r1 (sqO HB.out) (fun _ h=>h) (fun _ _ h=>h.mono (sqO HB.out) (fun _ h=>h));obtain ⟨pv,bv,rfl,rp,rb⟩:=r1;obtain ⟨pp,capp,rfl,-⟩:=rp;obtain ⟨pb,capb,rfl,-⟩:=rb;obtain ⟨a0,a1⟩:=sqC2 hcs (by omega);rw [← HB.out.cell (p:=⟨g,_,none⟩) hgl] at a0 a1;simp at a0 a1;have HOKc:Hid (clOkD d c):=HOK.out c (List.mem_of_getElem? hck);have HCc:Hid ((clVarL d c).length≤33554432):=HC.out c (List.mem_of_getElem? hck)
    have HT:Hid (looseB d c=true→cl.any (looseB d)=true):=fun h=>by rw [List.any_eq_true];exact ⟨c,List.mem_of_getElem? hck,h⟩
    have HF:Hid (looseB d c=false→(cl.take (k+1)).any (looseB d)=false):=fun h=>by
     rw [List.take_add_one,hck,List.any_append,HA.out];simp [h]
    have hki:(k:Int)<(nc:Int):=(by omega);have hk0:=sqI k;clear hat hcs hcsl hx;go_wp2_with fail;refine (isLoose_any d _ _ c E1.out HOKc.out HCc.out).mono ?_;rintro e w2 ⟨rfl,hb2⟩;have B2:Hid (Bz w w2):=HB.out.trans (hb2.mono HB.out.size);clear hb2 a0 a1
    cases hl:looseB d c with
    | true =>
     have HT':Hid (cl.any (looseB d)=true):=HT.out hl;clear HT HF;go_wp2_with fail;go_ret;exact ⟨⟨_,rfl,by omega,by rw [HT'.out];exact decide_eq_true (by omega)⟩,B2.out⟩
    | false =>
     have HF':Hid ((cl.take (k+1)).any (looseB d)=false):=HF.out hl;clear HT HF;go_wp2_with fail;exact ⟨⟨k+1,by omega,by go_num,HF'.out,B2.out⟩,by simp [intOf];omega⟩
  · have HS:Hid (cl.any (looseB d)=false):=by
     have h1:=HA.out
     rwa [List.take_of_length_le (by rw [HN.out];omega)] at h1
    go_wp2_with fail;go_ret;exact ⟨⟨_,rfl,by omega,by rw [HS.out];rfl⟩,HB.out⟩
theorem contains_any (d:Nat) (w:World) (v:Value) (cl:List Cl) (h:Rows w All 2 (HCl w All (HEx w All d)) v cl) (hok:∀ c ∈ cl,clOkD d c) (hcnt:∀ c ∈ cl,(clVarL d c).length≤33554432) :
 Calls prog 185 #[v,.func (.func 186) #[] #[]] w fun e w'=>e=.returned (.bool (cl.any (looseB d)))∧Bz w w':=by
 have HR:=hid h;obtain ⟨p,cap,rfl,-⟩:=id h;clear h;go_enter func185,ntmps185;go_wp2_with fail;refine (idx_any d _ _ cl HR.out hok hcnt).mono ?_;rintro e w1 ⟨⟨z,rfl,hz1,hz⟩,hb⟩;have HZ:=hid hz;clear hz;go_wp2_with fail;go_ret;exact ⟨by rw [← HZ.out];rfl,hb⟩
theorem implLoose_any (d:Nat) (w:World) (cs:List Value) (m:Md) (hT:Tabs w) (h:HMd w All d cs m) (hw:wtMd d m≤16777216) :
 Calls prog 152 #[.agg cs.toArray] w fun e w'=>∃ u,e=.returned u∧OwnR w' w.heap.size u (looseM d m)∧Bz w w':=by
 have HT:=hid hT;have HM:Hid (∀ w',Bz w w'→HMd w' All d cs m):=fun w' hb=>h.mono (sqO hb) (fun _ h=>h);obtain ⟨ev,fv,rfl,hs,f0,f1⟩:=h;have HF1:=hid f1;obtain ⟨pe,ce,rfl,-⟩:=f0;obtain ⟨pf,cf,rfl,hcf,hcmf,-⟩:=id f1;have hnf:m.funs.length≤9223372036854775807:=(by unfold maxLen at hcmf;omega)
 have HCN:Hid (∀ f ∈ m.funs,∀ c ∈ f.clauses,(clVarL d c).length≤33554432):=fun f hf c hc=>by
  have h0:wtMd d m=m.name.size+wtS wtRf m.exports+wtS (wtFn d) m.funs:=rfl;obtain ⟨i,hi⟩:=List.mem_iff_getElem?.1 hf;have h1:=sum_take_succ (wtFn d) m.funs i f hi;have h2:=sum_take_le (wtFn d) m.funs (i+1);have h3:wtFn d f=f.name.size+wtS (wtCl (wtEx d)) f.clauses:=rfl;obtain ⟨j,hj⟩:=List.mem_iff_getElem?.1 hc;have h4:=sum_take_succ (wtCl (wtEx d)) f.clauses j c hj;have h5:=sum_take_le (wtCl (wtEx d)) f.clauses (j+1);have h6:wtCl (wtEx d) c=wtS (wtEx d) c.1+wtS (wtEx d) c.2:=rfl;have h7:=flat_len (varL d) (wtEx d) c.1 (fun y _=>varL_len d y);have h8:=flat_len (varL d) (wtEx d) c.2 (fun y _=>varL_len d y);have h9:(clVarL d c).length=(c.1.flatMap (varL d)).length+(c.2.flatMap (varL d)).length:=(by unfold clVarL;rw [List.length_append]);have w1:wtS (wtFn d) m.funs=m.funs.length+(m.funs.map (wtFn d)).sum:=rfl;have w2:wtS (wtCl (wtEx d)) f.clauses=f.clauses.length+(f.clauses.map (wtCl (wtEx d))).sum:=rfl;omega
 have HFL:Hid (m.funs.length≤16777216):=by
  have h0:wtMd d m=m.name.size+wtS wtRf m.exports+wtS (wtFn d) m.funs:=rfl;have w1:wtS (wtFn d) m.funs=m.funs.length+(m.funs.map (wtFn d)).sum:=rfl;show _≤_;omega
 have BA:Bz w (w.alloc (.cells #[.string m.name,.slice pe m.exports.length ce,.slice pf m.funs.length cf] 63)):=(sqN _ _);have BB:Hid (Bz w ((w.alloc (.cells #[.string m.name,.slice pe m.exports.length ce,.slice pf m.funs.length cf] 63)).alloc (.cells #[] 84))):=BA.alloc BA.size _;have bA:Hid (Blk ((w.alloc (.cells #[.string m.name,.slice pe m.exports.length ce,.slice pf m.funs.length cf] 63)).alloc (.cells #[] 84)) w.heap.size #[.string m.name,.slice pe m.exports.length ce,.slice pf m.funs.length cf] 63):=Blk.new.alloc
 have O0:Hid (OwnR ((w.alloc (.cells #[.string m.name,.slice pe m.exports.length ce,.slice pf m.funs.length cf] 63)).alloc (.cells #[] 84)) w.heap.size (.slice (some ⟨w.heap.size+1,0,none⟩) 0 0) []):=by
  have:=(OwnR.fresh (w:=w.alloc (.cells #[.string m.name,.slice pe m.exports.length ce,.slice pf m.funs.length cf] 63))).base BA.size
  rwa [alloc_hs] at this
 have HLM:Hid (looseM d m=if mdOk d m then looseL d m.funs else []):=rfl;clear f1 hT hs BA hw
 cases hok:mdOk d m with
 | false =>
  rw [hok] at HLM;go_enter func152,ntmps152;go_wp2_with fail;refine (implModuleOk_any d _ _ m (HT.out.below BB.out) (HM.out _ BB.out)).mono ?_;rintro e w1 ⟨rfl,hb⟩;rw [hok];have B1:Hid (Bz w w1):=BB.out.trans (hb.mono BB.out.size);have O1:Hid (OwnR w1 w.heap.size (.slice (some ⟨w.heap.size+1,0,none⟩) 0 0) []):=O0.out.next hb;clear hb;go_wp2_with fail;go_ret;exact ⟨_,rfl,by rw [HLM.out];exact O1.out,B1.out⟩
 | true =>
  have HOKC:Hid (∀ f ∈ m.funs,∀ c ∈ f.clauses,clOkD d c):=fun f hf c hc=>by
   obtain ⟨h1,h2⟩:=mdOk_clauses hok f hf c hc;exact ⟨⟨40,h1⟩,fun y hy=>⟨_,_,h2 y hy⟩⟩
  rw [hok] at HLM;obtain ⟨i,hi,hz0,hz1,hz2⟩:∃ i,prog.info? 84=some i∧i.zero=some (.agg #[.string ⟨#[]⟩,.int .i64 0])∧i.size=2∧i.bytes=24:=info_parts info_ref;generalize hn:m.funs.length=nf at *;have HN:=hid hn;clear hn;go_enter func152,ntmps152;go_wp2_with fail;refine (implModuleOk_any d _ _ m (HT.out.below BB.out) (HM.out _ BB.out)).mono ?_;rintro e w1 ⟨rfl,hb⟩;rw [hok];have B1:Hid (Bz w w1):=BB.out.trans (hb.mono BB.out.size);have O1:Hid (OwnR w1 w.heap.size (.slice (some ⟨w.heap.size+1,0,none⟩) 0 0) []):=O0.out.next hb;have b1:=bA.out.next hb;have x2:=b1.cell 2 _ rfl;clear hb b1;go_wp2_with fail
  go_loopw [3,14] (fun u iv wr=>∃ k:Nat,k≤nf∧iv=.int .i64 k∧Hid (OwnR wr w.heap.size u (looseL d (m.funs.take k)))∧Hid (Bz w wr)) (fun _ iv _=>nf - (intOf iv).toNat)
  case atStart=>exact ⟨0,Nat.zero_le _,rfl,by show OwnR _ _ _ _;simpa [looseL] using O1.out,B1.out⟩
  case round =>
   clear O1 B1 x2 O0 BB bA;obtain ⟨k,hk,rfl,HO,HB⟩:=hrel;by_cases hlt:k<nf
   · obtain ⟨f,hfk⟩:∃ f,m.funs[k]?=some f:=⟨m.funs[k]'(by rw [HN.out];exact hlt),List.getElem?_eq_getElem _⟩
     obtain ⟨p',cap',hv,-,-,hx⟩:=HF1.out;simp only [Value.slice.injEq] at hv;obtain ⟨rfl,-,rfl⟩:=hv;obtain ⟨g,off,rfl,-,hgl,hat⟩:=hx (sqE hfk);obtain ⟨cs,hcsl,hcs,r1⟩:=hat k f hfk;obtain ⟨cv,rfl,hfs,hfi,rc⟩:=r1;have RC:Hid (∀ w',Bz w w'→Rows w' All 2 (HCl w' All (HEx w' All d)) cv f.clauses):=fun w' hb=>Rows.mono rc (sqO hb) (fun _ h=>h) (fun _ _ _ h=>HCl.mono h (sqO hb) (fun _ h=>h) (fun _ _ h=>h.mono (sqO hb) (fun _ h=>h)));obtain ⟨pc,cc,rfl,-⟩:=rc;obtain ⟨a0,a1,a2⟩:=sqC3 hcs (by omega);rw [← HB.out.cell (p:=⟨g,_,none⟩) hgl] at a0 a1 a2;simp at a0 a1 a2;have HOKf:Hid (∀ c ∈ f.clauses,clOkD d c):=HOKC.out f (List.mem_of_getElem? hfk);have HCf:Hid (∀ c ∈ f.clauses,(clVarL d c).length≤33554432):=HCN.out f (List.mem_of_getElem? hfk);have HSN:Hid (looseL d (m.funs.take (k+1))=if f.clauses.any (looseB d) then looseL d (m.funs.take k) ++ [⟨f.name,f.arity⟩] else looseL d (m.funs.take k)):=looseL_snoc d m.funs k f hfk
     have HLL:Hid ((looseL d (m.funs.take k)).length≤16777216):=by
      have h1:=looseL_len d (m.funs.take k);rw [List.length_take,HN.out] at h1;have h2:=HFL.out;show _≤_;omega
     have hki:(k:Int)<(nf:Int):=(by omega);have hk0:=sqI k;have HBF:Hid (Bz wr (wr.alloc (.cells #[.string f.name,.int .i64 f.arity,.slice pc f.clauses.length cc] 59))):=(sqN _ _);have bF:Hid (Blk (wr.alloc (.cells #[.string f.name,.int .i64 f.arity,.slice pc f.clauses.length cc] 59)) wr.heap.size #[.string f.name,.int .i64 f.arity,.slice pc f.clauses.length cc] 59):=Blk.new;have BF:Hid (Bz w (wr.alloc (.cells #[.string f.name,.int .i64 f.arity,.slice pc f.clauses.length cc] 59))):=HB.out.trans (HBF.out.mono HB.out.size);clear hat hcs hcsl hx;generalize looseL d (m.funs.take k)=LK at *;go_wp2_with fail;refine (contains_any d _ _ f.clauses (RC.out _ BF.out) HOKf.out HCf.out).mono ?_;rintro e w2 ⟨rfl,hb2⟩;have K2:Hid (Bz wr w2):=HBF.out.trans (hb2.mono HBF.out.size);have B2:Hid (Bz w w2):=HB.out.trans (K2.out.mono HB.out.size);have O2:Hid (OwnR w2 w.heap.size u3 LK):=HO.out.next K2.out;have b2:=bF.out.next hb2;obtain ⟨y0,y1,y2⟩:=sqB3 b2;clear hb2 b2 a0 a1 a2
     cases hl:f.clauses.any (looseB d) with
     | false =>
      rw [hl] at HSN;go_wp2_with fail;exact ⟨⟨k+1,by omega,by go_num,by show OwnR _ _ _ _;rw [HSN.out];exact O2.out,B2.out⟩,by simp [intOf];omega⟩
     | true =>
      rw [hl] at HSN;go_wp2_with fail;refine (refOf_any _ _ _ _ _ _).mono ?_;rintro e w3 ⟨rfl,hb3⟩;have B3:Hid (Bz w w3):=B2.out.trans (hb3.mono B2.out.size);have O3:Hid (OwnR w3 w.heap.size u3 LK):=O2.out.next hb3;have O4:Hid (OwnR (w3.alloc (.cells #[.string f.name,.int .i64 f.arity] 84)) w.heap.size u3 LK):=O3.out.next ((sqN _ _));have B4:Hid (Bz w (w3.alloc (.cells #[.string f.name,.int .i64 f.arity] 84))):=B3.out.alloc B3.out.size _;have hLL:=HLL.out;clear hb3 y0 y1 y2;have N1:Hid (∀ j u,(refs [⟨f.name,f.arity⟩])[j]?=some u→(w3.alloc (.cells #[.string f.name,.int .i64 f.arity] 84)).cell? ((⟨w3.heap.size,0,none⟩:Addr).add j)=some u):=one_ref;go_wp2_with (at_builtin;refine wpList_append_own _ rfl _ _ 60 rfl w.heap.size 84 i (.agg #[.string ⟨#[]⟩,.int .i64 0]) 2 24 underlying60 hi hz0 hz1 hz2 rfl (by decide) _ _ _ rfl O4.out.1 _ 1 1 (refs [⟨f.name,f.arity⟩]) rfl rfl N1.out (refs_oneCell _) (by unfold maxLen;omega) (by omega) O4.out.2 ?_);intro v5 w5 hown hgr _;have O5:Hid (OwnR w5 w.heap.size v5 (LK ++ [⟨f.name,f.arity⟩])):=OwnR.of hown (by simp) rfl (Nat.le_trans O4.out.2 hgr.size);have B5:Hid (Bz w w5):=B4.out.trans (O4.out.below hgr);clear hown hgr;go_wp2_with fail;exact ⟨⟨k+1,by omega,by go_num,by show OwnR _ _ _ _;rw [HSN.out];exact O5.out,B5.out⟩,by simp [intOf];omega⟩
   · have HS:Hid (OwnR wr w.heap.size u3 (looseM d m)):=by
      have h1:=HO.out;rw [List.take_of_length_le (by rw [HN.out];omega)] at h1;show OwnR _ _ _ _;rw [HLM.out];exact h1
     go_wp2_with fail;go_ret;exact ⟨_,rfl,HS.out,HB.out⟩
end Go.Proofs.YtdhlonogmnkemaaGreatDoor
namespace Go.Proofs.YtdhlonogmnkemaaGreatDoor
open Go.ChangeShapes Go.WideShapes Go.ChangeAt Go.RowKit Go.Proofs.Tryz
set_option linter.unusedVariables false
set_option maxRecDepth 100000
def callQ (ms:List Md) (m:Md) (d:Nat) (f:Fn'):List Pb:=(f.clauses.flatMap fun c=>c.2.flatMap (preX d)).foldl (stK f.name f.arity ms m) []
def looseQ (m:Md) (d:Nat) (f:Fn'):List Pb:=if (looseM d m).any (sameRf f.name f.arity) then [⟨m.name,f.name,f.arity,cLoose⟩] else []
def modQ (ms:List Md) (d:Nat) (m:Md):List Pb:=m.exports.flatMap (exportP m) ++ m.funs.flatMap fun f=>looseQ m d f ++ callQ ms m d f
theorem okS_cLoose:okS cLoose:=by unfold okS cLoose maxLen;decide
theorem loose_ok {w:World} {d:Nat} {v:Value} {m:Md} (h:Rows w All 3 (HFn w All d) v m.funs):∀ r ∈ looseM d m,okS r.name∧okI r.arity:=by
 intro r hr;unfold looseM at hr
 split at hr
 · obtain ⟨f,hf,rfl⟩:=looseL_mem hr
   obtain ⟨i,hi⟩:=List.mem_iff_getElem?.1 hf;obtain ⟨p,cap,_,_,_,hx⟩:=h;obtain ⟨g,off,_,_,_,hat⟩:=hx (by intro e;rw [e] at hi;simp at hi);obtain ⟨cs,_,_,hv⟩:=hat i f hi;obtain ⟨cv,_,h1,h2,_⟩:=hv;exact ⟨h1,h2⟩
 · cases hr
theorem problems_any (d:Nat) (w:World) (pv:Value) (ms:List Md) (hT:Tabs w) (h:Rows w All 3 (HMd w All d) pv ms) (hw:∀ m ∈ ms,wtMd d m≤16777216) (hLen:(ms.flatMap (modQ ms d)).length≤16777216)
 (hRun:∀ m ∈ ms,∀ f ∈ m.funs,Runs (fun (s:List Pb) _=>s.length+1≤16777216) (stK f.name f.arity ms m) [] (f.clauses.flatMap fun c=>c.2.flatMap (preX d))) :
 Calls prog 109 #[.agg #[pv]] w fun e w'=>∃ u,e=.returned u∧OwnP w' w.heap.size u (ms.flatMap (modQ ms d))∧Bz w w':=by
 have HTAB:=hid hT;have HMS:Hid (∀ w',Bz w w'→Rows w' All 3 (HMd w' All d) pv ms):=fun w' hw=>h.mono (sqO hw) (fun _ h=>h) (fun _ _ _ h=>h.mono (sqO hw) (fun _ h=>h));obtain ⟨p,cap,rfl,hcl,hcm,hx⟩:=h;have HX:=hid hx;have HLEN:=hid hLen;have HWM:=hid hw;have HRUN:=hid hRun;have hnb:=sqM hcl hcm;obtain ⟨ip,hip,hpz0,hpz1,hpz2⟩:=info_parts info_pb;generalize hn:ms.length=n at *;have HN:=hid hn;obtain ⟨W1,hW1⟩:∃ W1,W1=w.alloc (.cells #[.slice p n cap] 148):=⟨_,rfl⟩;have b1:Blk W1 w.heap.size #[.slice p n cap] 148:=(by rw [hW1];exact Blk.new);have hs1:W1.heap.size=w.heap.size+1:=(by rw [hW1,alloc_hs]);have hb1:Bz w W1:=(by rw [hW1];exact (sqN _ _));have hal:Bz W1 (W1.alloc (.cells #[] 141)):=(sqN _ _);have B2:Hid (Bz w (W1.alloc (.cells #[] 141))):=hb1.trans (hal.mono hb1.size);have b2:Hid (Blk (W1.alloc (.cells #[] 141)) w.heap.size #[.slice p n cap] 148):=b1.next hal
 have O2:Hid (OwnP (W1.alloc (.cells #[] 141)) w.heap.size (.slice (some ⟨w.heap.size+1,0,none⟩) 0 0) []):=by
  have:=(OwnG.fresh (w:=W1) (e:=141) (c:=4) (R:=HPb)).base (B':=w.heap.size) (by omega);rw [hs1] at this;exact this
 have HW1:=hid hW1;clear hx hn b1 hb1 hal hs1 hW1 hT hw hLen hRun hcl hcm;go_enter func109,ntmps109;go_wp2_with fail;rw [← HW1.out]
 go_loopw [3,13] (fun ov iv wx=>∃ a:Nat,a≤n∧iv=.int .i64 a∧Hid (OwnP wx w.heap.size ov ((ms.take a).flatMap (modQ ms d)))∧Hid (Bz w wx)∧Hid (Blk wx w.heap.size #[.slice p n cap] 148)) (fun _ iv _=>n - (intOf iv).toNat)
 case atStart=>exact ⟨0,Nat.zero_le _,rfl,by show OwnP _ _ _ _;simpa using O2.out,B2,b2⟩
 case round =>
  obtain ⟨a,ha,rfl,ho,hb,bb⟩:=hrel;clear O2 B2 b2;by_cases hlt:a<n
  · obtain ⟨m,hmk⟩:=sqA (l:=ms) (k:=a) HN.out hlt
    have hmm:=List.mem_of_getElem? hmk;obtain ⟨g,off,rfl,-,hgl,hat⟩:=HX.out (sqE hmk);obtain ⟨cs,hcsl,hcs,hm⟩:=hat a m hmk;have HMM:Hid (∀ w',Bz w w'→HMd w' All d cs m):=fun w' hw=>hm.mono (sqO hw) (fun _ h=>h);have HWT:Hid (wtMd d m≤16777216):=HWM.out m hmm
    have HEL:Hid (m.exports.length≤16777216):=by
     have:=HWT.out;unfold wtMd wtS at this;show _≤_;omega
    have HRF:Hid (∀ f ∈ m.funs,Runs (fun (s:List Pb) _=>s.length+1≤16777216) (stK f.name f.arity ms m) [] (f.clauses.flatMap fun c=>c.2.flatMap (preX d))):=HRUN.out m hmm;obtain ⟨ev,fv,rfl,hms,he,hf⟩:=hm;obtain ⟨pe,ce,rfl,-⟩:=he;obtain ⟨pf,cf,rfl,hcf,hcmf,hxf⟩:=hf;have HXF:=hid hxf;obtain ⟨a0,a1,a2⟩:=sqC3 hcs (by omega);rw [← hb.out.cell (p:=⟨g,_,none⟩) hgl] at a0 a1 a2;simp at a0 a1 a2;have hki:(a:Int)<(n:Int):=(by omega);have hk0:=sqI a;have hnf:m.funs.length≤9223372036854775807:=(by unfold maxLen at hcmf;omega);obtain ⟨HJ,HL⟩:=flat_takeG (modQ ms d) ms a m hmk;have HJJ:Hid ((ms.take (a+1)).flatMap (modQ ms d)=((ms.take a).flatMap (modQ ms d) ++ m.exports.flatMap (exportP m)) ++ m.funs.flatMap fun f=>looseQ m d f ++ callQ ms m d f):=(by show _=_;rw [HJ];simp only [modQ,List.append_assoc])
    have HLL:Hid (((ms.take a).flatMap (modQ ms d)).length+((m.exports.flatMap (exportP m)).length+(m.funs.flatMap fun f=>looseQ m d f ++ callQ ms m d f).length)≤16777216):=by
     have h1:=HLEN.out;have h2:(modQ ms d m).length=(m.exports.flatMap (exportP m)).length+(m.funs.flatMap fun f=>looseQ m d f ++ callQ ms m d f).length:=(by simp only [modQ,List.length_append]);show _≤_;omega
    generalize hA0:(ms.take a).flatMap (modQ ms d)=A0 at *;generalize hn1:m.exports.length=ne at *;have HN1:=hid hn1;generalize hn2:m.funs.length=nf at *;have HN2:=hid hn2;obtain ⟨W5,hW5⟩:∃ W5,W5=wr.alloc (.cells #[.string m.name,.slice pe ne ce,.slice pf nf cf] 63):=⟨_,rfl⟩;obtain ⟨bm,hbm⟩:∃ bm,bm=wr.heap.size:=⟨_,rfl⟩;have hal:Bz wr W5:=(by rw [hW5];exact (sqN _ _));have b5:Hid (Blk W5 bm #[.string m.name,.slice pe ne ce,.slice pf nf cf] 63):=(by show Blk _ _ _ _;rw [hW5,hbm];exact Blk.new);have bp5:Hid (Blk W5 w.heap.size #[.slice (some ⟨g,off,none⟩) n cap] 148):=bb.out.next hal;have HB5:Hid (Bz w W5):=hb.out.trans (hal.mono hb.out.size);have HO5:Hid (OwnP W5 w.heap.size u3 A0):=ho.out.next hal;have HW5:=hid hW5;have HBM:Hid (wr.heap.size=bm):=hbm.symm;have HMSN:=hid hms;obtain ⟨y0,y1,y2⟩:=sqB3 b5.out;rw [hW5,hbm] at y0 y1 y2;clear hxf hcs hcsl hat HJ HL hA0 ho hb bb hW5 hbm hms hn1 hn2 hmk hal hcf hcmf hmm;go_wp2_with fail;rw [← HW5.out,HBM.out];clear a0 a1 a2 y0 y1 y2;refine (exportProblems_any d _ _ m (HMM.out _ HB5.out) (by rw [HN1.out];exact HEL.out)).mono ?_;rintro e w6 ⟨u6,rfl,o6,hb6⟩;have R6:Hid (Rows w6 All 4 HPb u6 (m.exports.flatMap (exportP m))):=o6.rows;have b6:Hid (Blk w6 bm #[.string m.name,.slice pe ne ce,.slice pf nf cf] 63):=b5.out.next hb6;have bp6:Hid (Blk w6 w.heap.size #[.slice (some ⟨g,off,none⟩) n cap] 148):=bp5.out.next hb6;have HB6:Hid (Bz w w6):=HB5.out.trans (hb6.mono HB5.out.size);have HO6:Hid (OwnP w6 w.heap.size u3 A0):=HO5.out.next hb6;clear hb6 o6;go_wp2_with (at_builtin;refine wpList_append_own_rows rfl _ _ 98 rfl _ 56 underlying98 info_pb rfl (by decide) HO6.out rfl u6 (m.exports.flatMap (exportP m)) rfl R6.out pb_oneCell (by have:=HLL.out;omega) (by decide) ?_;intro v7 w7 ho7 hb7 hap7;have n7:=(hap7.blk b6.out (by decide)).cell 0 _ rfl;have n8:=(hap7.blk b6.out (by decide)).cell 1 _ rfl;have n9:=(hap7.blk b6.out (by decide)).cell 2 _ rfl);have HO7:=hid ho7;have HB7:Hid (Bz w w7):=HB6.out.trans hb7;have b7:Hid (Blk w7 bm #[.string m.name,.slice pe ne ce,.slice pf nf cf] 63):=hap7.blk b6.out (by decide);have bp7:Hid (Blk w7 w.heap.size #[.slice (some ⟨g,off,none⟩) n cap] 148):=hap7.blk bp6.out (by decide);clear ho7 hb7 hap7;clear n7 n8 n9;refine (implLoose_any d _ _ m (HTAB.out.below HB7.out) (HMM.out _ HB7.out) HWT.out).mono ?_;rintro e w8 ⟨u8',rfl,o8,hb8⟩;have HLR:Hid (OwnR w8 0 u8' (looseM d m)):=o8.base (Nat.zero_le _);have b8:Hid (Blk w8 bm #[.string m.name,.slice pe ne ce,.slice pf nf cf] 63):=b7.out.next hb8;have bp8:Hid (Blk w8 w.heap.size #[.slice (some ⟨g,off,none⟩) n cap] 148):=bp7.out.next hb8;have HB8:Hid (Bz w w8):=HB7.out.trans (hb8.mono HB7.out.size);have HO8:Hid (OwnP w8 w.heap.size v7 (A0 ++ m.exports.flatMap (exportP m))):=HO7.out.next hb8;clear hb8 o8 HO7 HB7 b7 bp7 HO6 HB6 b6 bp6 R6 HO5 HB5 b5 bp5
    have HLOK:Hid (∀ r ∈ looseM d m,okS r.name∧okI r.arity):=by
     obtain ⟨_,_,he,_,_,hf⟩:=HMM.out w (Below.refl _ _);simp only [List.cons.injEq,and_true] at he;exact loose_ok hf
    generalize hQ:(fun f:Fn'=>looseQ m d f ++ callQ ms m d f)=Q9 at *;have HQ:=hid hQ;generalize hA1:A0 ++ m.exports.flatMap (exportP m)=A1 at *
    have HLL2:Hid (A1.length+(m.funs.flatMap Q9).length≤16777216):=by
     have:=HLL.out;show _≤_;rw [← hA1,List.length_append];omega
    clear hQ HLL hA1;have z2:=b8.out.cell 2 _ rfl;go_wp2_with fail;clear z2
    go_loopw [3,26] (fun ov iv wx=>∃ b:Nat,b≤nf∧iv=.int .i64 b∧Hid (OwnP wx w.heap.size ov (A1 ++ (m.funs.take b).flatMap Q9))∧Hid (Bz w wx)∧Hid (Blk wx w.heap.size #[.slice (some ⟨g,off,none⟩) n cap] 148)∧Hid (Blk wx bm #[.string m.name,.slice pe ne ce,.slice pf nf cf] 63)∧Hid (OwnR wx 0 u8' (looseM d m))) (fun _ iv _=>nf - (intOf iv).toNat)
    case atStart=>exact ⟨0,Nat.zero_le _,rfl,by show OwnP _ _ _ _;simpa using HO8.out,HB8,bp8,b8,HLR⟩
    case round =>
     obtain ⟨b,hbn,rfl,ho,hb,bb,bq,hl⟩:=hrel;clear HLR b8 bp8 HB8 HO8;by_cases hlt2:b<nf
     · obtain ⟨f,hfk⟩:∃ f,m.funs[b]?=some f:=⟨m.funs[b]'(by rw [HN2.out];exact hlt2),List.getElem?_eq_getElem _⟩
       have hff:=List.mem_of_getElem? hfk;obtain ⟨g2,off2,rfl,-,hgl2,hat2⟩:=HXF.out (sqE hfk);obtain ⟨cs2,hcsl2,hcs2,hf2⟩:=hat2 b f hfk;have HFF:Hid (∀ w',Bz w w'→HFn w' All d cs2 f):=fun w' hw=>hf2.mono (sqO hw) (fun _ h=>h);obtain ⟨cv,rfl,hfs,hfn,hfc⟩:=hf2;obtain ⟨pc,cc,rfl,-⟩:=hfc;obtain ⟨a0,a1,a2⟩:=sqC3 hcs2 (by omega);rw [← hb.out.cell (p:=⟨g2,_,none⟩) hgl2] at a0 a1 a2;simp at a0 a1 a2;have hkb:(b:Int)<(nf:Int):=(by omega);have hb0:=sqI b;have HR2:Hid (Runs (fun (s:List Pb) _=>s.length+1≤16777216) (stK f.name f.arity ms m) [] (f.clauses.flatMap fun c=>c.2.flatMap (preX d))):=HRF.out f hff;obtain ⟨HJ,HL⟩:=flat_takeG Q9 m.funs b f hfk;have HJ9:Hid (A1 ++ (m.funs.take (b+1)).flatMap Q9=(A1 ++ (m.funs.take b).flatMap Q9) ++ (looseQ m d f ++ callQ ms m d f)):=(by show _=_;rw [HJ,← HQ.out,List.append_assoc])
       have HL9:Hid ((A1 ++ (m.funs.take b).flatMap Q9).length+((looseQ m d f).length+(callQ ms m d f).length)≤16777216):=by
        have h1:=HLL2.out;have h2:(Q9 f).length=(looseQ m d f).length+(callQ ms m d f).length:=(by rw [← HQ.out];simp only [List.length_append]);show _≤_;rw [List.length_append];omega
       have HLQ:Hid (looseQ m d f=if (looseM d m).any (sameRf f.name f.arity) then [⟨m.name,f.name,f.arity,cLoose⟩] else []):=rfl;generalize hA2:A1 ++ (m.funs.take b).flatMap Q9=A2 at *;generalize hn3:f.clauses.length=nc at *;obtain ⟨W9,hW9⟩:∃ W9,W9=wr.alloc (.cells #[.string f.name,.int .i64 f.arity,.slice pc nc cc] 59):=⟨_,rfl⟩;obtain ⟨bf,hbf⟩:∃ bf,bf=wr.heap.size:=⟨_,rfl⟩;have hal:Bz wr W9:=(by rw [hW9];exact (sqN _ _));have bf9:Hid (Blk W9 bf #[.string f.name,.int .i64 f.arity,.slice pc nc cc] 59):=(by show Blk _ _ _ _;rw [hW9,hbf];exact Blk.new);have bm9:Hid (Blk W9 bm #[.string m.name,.slice pe ne ce,.slice (some ⟨g2,off2,none⟩) nf cf] 63):=bq.out.next hal;have bp9:Hid (Blk W9 w.heap.size #[.slice (some ⟨g,off,none⟩) n cap] 148):=bb.out.next hal;have HB9:Hid (Bz w W9):=hb.out.trans (hal.mono hb.out.size);have HO9:Hid (OwnP W9 w.heap.size u3 A2):=ho.out.next hal;have HL8:Hid (OwnR W9 0 u8' (looseM d m)):=hl.out.next hal;have HW9:=hid hW9;have HBF:Hid (wr.heap.size=bf):=hbf.symm;have HFS:=hid hfs;have HFI:=hid hfn;clear HJ HL hA2 hn3 hW9 hbf hal hcs2 hcsl2 hat2 ho hb bb bq hl hfs hfn hfk hff;go_wp2_with fail;rw [← HW9.out,HBF.out];clear a0 a1 a2;refine (refOf_any f.name f.arity pc nc cc _).mono ?_;rintro e w10 ⟨rfl,hb10⟩;have bf10:Hid (Blk w10 bf #[.string f.name,.int .i64 f.arity,.slice pc nc cc] 59):=bf9.out.next hb10;have bm10:Hid (Blk w10 bm #[.string m.name,.slice pe ne ce,.slice (some ⟨g2,off2,none⟩) nf cf] 63):=bm9.out.next hb10;have bp10:Hid (Blk w10 w.heap.size #[.slice (some ⟨g,off,none⟩) n cap] 148):=bp9.out.next hb10;have HB10:Hid (Bz w w10):=HB9.out.trans (hb10.mono HB9.out.size);have HO10:Hid (OwnP w10 w.heap.size u3 A2):=HO9.out.next hb10;have HL10:Hid (OwnR w10 0 u8' (looseM d m)):=HL8.out.next hb10;clear hb10 bf9 bm9 bp9 HB9 HO9 HL8 HW9 HBF;go_wp2_with fail;refine (containsR_any _ _ (looseM d m) f.name f.arity (ORs.rows (HL10.out.tree HLOK.out))).mono ?_;rintro e w11 ⟨rfl,hb11⟩;have bf11:Hid (Blk w11 bf #[.string f.name,.int .i64 f.arity,.slice pc nc cc] 59):=bf10.out.next hb11;have bm11:Hid (Blk w11 bm #[.string m.name,.slice pe ne ce,.slice (some ⟨g2,off2,none⟩) nf cf] 63):=bm10.out.next hb11;have bp11:Hid (Blk w11 w.heap.size #[.slice (some ⟨g,off,none⟩) n cap] 148):=bp10.out.next hb11;have HB11:Hid (Bz w w11):=HB10.out.trans (hb11.mono HB10.out.size);have HO11:Hid (OwnP w11 w.heap.size u3 A2):=HO10.out.next hb11;have HL11:Hid (OwnR w11 0 u8' (looseM d m)):=HL10.out.next hb11;clear hb11 bf10 bm10 bp10 HB10 HO10 HL10;obtain ⟨fz0,fz1,fz2⟩:=sqB3 bf11.out;obtain ⟨mz0,mz1,mz2⟩:=sqB3 bm11.out;have pz0:=bp11.out.cell 0 _ rfl
       cases hLS:(looseM d m).any (sameRf f.name f.arity) with
       | false =>
        have HQ0:Hid (looseQ m d f = []):=(by show _=_;rw [HLQ.out,hLS];rfl);go_wp2_with fail;clear fz0 fz1 fz2 mz0 mz1 mz2 pz0;refine (callProblems_any d _ _ ms _ m _ f (HMS.out _ HB11.out) (HMM.out _ HB11.out) (HFF.out _ HB11.out) HR2.out).mono ?_;rintro e w15 ⟨u15,rfl,o15,hb15⟩;have R15:Hid (Rows w15 All 4 HPb u15 (callQ ms m d f)):=o15.rows;have bm15:Hid (Blk w15 bm #[.string m.name,.slice pe ne ce,.slice (some ⟨g2,off2,none⟩) nf cf] 63):=bm11.out.next hb15;have bp15:Hid (Blk w15 w.heap.size #[.slice (some ⟨g,off,none⟩) n cap] 148):=bp11.out.next hb15;have HB15:Hid (Bz w w15):=HB11.out.trans (hb15.mono HB11.out.size);have HO15:Hid (OwnP w15 w.heap.size u3 A2):=HO11.out.next hb15;have HL15:Hid (OwnR w15 0 u8' (looseM d m)):=HL11.out.next hb15;clear hb15 o15;go_wp2_with (at_builtin;refine wpList_append_own_rows rfl _ _ 98 rfl _ 56 underlying98 info_pb rfl (by decide) HO15.out rfl u15 (callQ ms m d f) rfl R15.out pb_oneCell (by have:=HL9.out;rw [HQ0.out] at this;simp only [List.length_nil] at this;omega) (by decide) ?_;intro v16 w16 ho16 hb16 hap16);have HO16:Hid (OwnP w16 w.heap.size v16 (A1 ++ (m.funs.take (b+1)).flatMap Q9)):=(by show OwnP _ _ _ _;rw [HJ9.out,HQ0.out];simpa using ho16);have HB16:Hid (Bz w w16):=HB15.out.trans hb16;have bp16:Hid (Blk w16 w.heap.size #[.slice (some ⟨g,off,none⟩) n cap] 148):=hap16.blk bp15.out (by decide);have bm16:Hid (Blk w16 bm #[.string m.name,.slice pe ne ce,.slice (some ⟨g2,off2,none⟩) nf cf] 63):=hap16.blk bm15.out (by decide);have HL16:Hid (OwnR w16 0 u8' (looseM d m)):=⟨hap16.owns HL15.out.1 (by decide),Nat.zero_le _⟩;clear ho16 hb16 hap16;go_wp2_with fail;exact ⟨⟨b+1,by omega,by go_num,HO16,HB16,bp16,bm16,HL16⟩,by simp [intOf];omega⟩
       | true =>
        have HQ1:Hid (looseQ m d f = [⟨m.name,f.name,f.arity,cLoose⟩]):=(by show _=_;rw [HLQ.out,hLS];rfl);have HPB:Hid (HPb [.string m.name,.string f.name,.int .i64 f.arity,.string ⟨#[108,111,111,115,101]⟩] ⟨m.name,f.name,f.arity,cLoose⟩):=⟨rfl,HMSN.out,HFS.out,HFI.out,okS_cLoose⟩
        have HL91:Hid (A2.length+1≤16777216):=by
         have:=HL9.out;rw [HQ1.out] at this;show _≤_;simp only [List.length_cons,List.length_nil] at this;omega
        have NXT:Hid (∀ w9,Below w.heap.size w11 w9→ApartE 141 w11 w9→Blk w9 bf #[.string f.name,.int .i64 f.arity,.slice pc nc cc] 59∧Blk w9 bm #[.string m.name,.slice pe ne ce,.slice (some ⟨g2,off2,none⟩) nf cf] 63∧Blk w9 w.heap.size #[.slice (some ⟨g,off,none⟩) n cap] 148∧OwnR w9 0 u8' (looseM d m)∧Bz w w9):=fun w9 hb9 hap9 =>
         ⟨hap9.blk bf11.out (by decide),hap9.blk bm11.out (by decide),hap9.blk bp11.out (by decide),⟨hap9.owns HL11.out.1 (by decide),Nat.zero_le _⟩,HB11.out.trans hb9⟩
        go_wp2_with fail
        go_region_law
         (first
          | (go_simp;go_at_call 93;refine (refOf_any _ _ _ _ _ _).mono ?_;rintro e w12 ⟨rfl,hb12⟩;have K12:Hid (Bz w11 w12):=⟨hb12.os,hb12.tape,hb12.output,hb12.size,hb12.block⟩;have m12:=bm11.out.next K12.out;obtain ⟨mx0,mx1,mx2⟩:=sqB3 m12;clear hb12 m12;dsimp only)
          | (go_simp;go_at_call 153;refine (problemOf_any _ m.name pe (some ⟨g2,off2,none⟩) ne ce nf cf f.name f.arity ⟨#[108,111,111,115,101]⟩).mono ?_;rintro e w13 ⟨rfl,hb13⟩;have K13:Hid (Bz w11 w13):=K12.out.trans (hb13.mono K12.out.size);have HOA:Hid (OwnP (w13.alloc (.cells #[.string m.name,.string f.name,.int .i64 f.arity,.string ⟨#[108,111,111,115,101]⟩] 141)) w.heap.size u3 A2):=(HO11.out.next K13.out).next ((sqN _ _));have HGA:Hid (Blk (w13.alloc (.cells #[.string m.name,.string f.name,.int .i64 f.arity,.string ⟨#[108,111,111,115,101]⟩] 141)) w13.heap.size #[.string m.name,.string f.name,.int .i64 f.arity,.string ⟨#[108,111,111,115,101]⟩] 141):=Blk.new;have KA13:Hid (Bz w11 (w13.alloc (.cells #[.string m.name,.string f.name,.int .i64 f.arity,.string ⟨#[108,111,111,115,101]⟩] 141))):=K13.out.alloc K13.out.size _;clear hb13;dsimp only)
          | (refine step_append_blk (by rfl) _ _ _ (by rfl) _ 56 underlying98 info_pb rfl (by decide) HOA.out w13.heap.size #[.string m.name,.string f.name,.int .i64 f.arity,.string ⟨#[108,111,111,115,101]⟩] HGA.out ⟨m.name,f.name,f.arity,cLoose⟩ HPB.out rfl (pb_oneCell _ _ HPB.out) (by rfl) (by rfl) HL91.out (by decide) ?_;intro v9 w9 ho9 hb9 hap9;have HO14:=hid ho9;have nx9:=NXT.out w9 ((KA13.out.mono HB11.out.size).trans hb9) ((ApartE.of_below KA13.out).trans hap9);have HNX:=hid nx9;obtain ⟨fv0,fv1,fv2⟩:=sqB3 nx9.1;obtain ⟨mv0,mv1,mv2⟩:=sqB3 nx9.2.1;have pv0:=nx9.2.2.1.cell 0 _ rfl;clear ho9 hb9 hap9 nx9))
        all_goals
         go_wp2_with fail;clear fz0 fz1 fz2 mz0 mz1 mz2 pz0 fv0 fv1 fv2 mv0 mv1 mv2 pv0;refine (callProblems_any d _ _ ms _ m _ f (HMS.out _ HNX.out.2.2.2.2) (HMM.out _ HNX.out.2.2.2.2) (HFF.out _ HNX.out.2.2.2.2) HR2.out).mono ?_;rintro e w15 ⟨u15,rfl,o15,hb15⟩;have R15:Hid (Rows w15 All 4 HPb u15 (callQ ms m d f)):=o15.rows;have bm15:Hid (Blk w15 bm #[.string m.name,.slice pe ne ce,.slice (some ⟨g2,off2,none⟩) nf cf] 63):=HNX.out.2.1.next hb15;have bp15:Hid (Blk w15 w.heap.size #[.slice (some ⟨g,off,none⟩) n cap] 148):=HNX.out.2.2.1.next hb15;have HB15:Hid (Bz w w15):=HNX.out.2.2.2.2.trans (hb15.mono HNX.out.2.2.2.2.size);have HO15:Hid (OwnP w15 w.heap.size v9 (A2 ++ [⟨m.name,f.name,f.arity,cLoose⟩])):=HO14.out.next hb15;have HL15:Hid (OwnR w15 0 u8' (looseM d m)):=HNX.out.2.2.2.1.next hb15;clear hb15 o15;go_wp2_with (at_builtin;refine wpList_append_own_rows rfl _ _ 98 rfl _ 56 underlying98 info_pb rfl (by decide) HO15.out rfl u15 (callQ ms m d f) rfl R15.out pb_oneCell (by have:=HL9.out;rw [HQ1.out] at this;simp only [List.length_append,List.length_cons,List.length_nil] at this ⊢;omega) (by decide) ?_;intro v16 w16 ho16 hb16 hap16);have HO16:Hid (OwnP w16 w.heap.size v16 (A1 ++ (m.funs.take (b+1)).flatMap Q9)):=(by show OwnP _ _ _ _;rw [HJ9.out,HQ1.out];simpa using ho16);have HB16:Hid (Bz w w16):=HB15.out.trans hb16;have bp16:Hid (Blk w16 w.heap.size #[.slice (some ⟨g,off,none⟩) n cap] 148):=hap16.blk bp15.out (by decide);have bm16:Hid (Blk w16 bm #[.string m.name,.slice pe ne ce,.slice (some ⟨g2,off2,none⟩) nf cf] 63):=hap16.blk bm15.out (by decide);have HL16:Hid (OwnR w16 0 u8' (looseM d m)):=⟨hap16.owns HL15.out.1 (by decide),Nat.zero_le _⟩;clear ho16 hb16 hap16;go_wp2_with fail;exact ⟨⟨b+1,by omega,by go_num,HO16,HB16,bp16,bm16,HL16⟩,by simp [intOf];omega⟩
     · have HR:Hid (OwnP wr w.heap.size u3 ((ms.take (a+1)).flatMap (modQ ms d))):=by
        have h1:=ho.out;rw [show m.funs.take b=m.funs from List.take_of_length_le (by rw [HN2.out];omega)] at h1;show OwnP _ _ _ _;rw [HJJ.out];exact h1
       clear ho;go_wp2_with fail;exact ⟨⟨a+1,by omega,by go_num,HR,hb,bb⟩,by simp [intOf];omega⟩
  · have HR:Hid (OwnP wr w.heap.size u3 (ms.flatMap (modQ ms d))):=by
     have h1:=ho.out
     rwa [show ms.take a=ms from List.take_of_length_le (by rw [HN.out];omega)] at h1
    clear ho;go_wp2_with fail;go_ret;exact ⟨_,rfl,HR.out,hb.out⟩
end Go.Proofs.YtdhlonogmnkemaaGreatDoor
namespace Go.Proofs.YtdhlonogmnkemaaGreatDoor
open Go.ChangeShapes Go.WideShapes Go.ChangeAt Go.RowKit
set_option linter.unusedVariables false
set_option maxRecDepth 100000
theorem pgOk_mem {d:Nat} {ms:List Md} (h:pgOk d ms=true):∀ m ∈ ms,mdOk d m=true:=by
 intro m hm;obtain ⟨k,hk⟩:=List.mem_iff_getElem?.1 hm;have hl:k<ms.length:=(List.getElem?_eq_some_iff.1 hk).1
 cases hb:mdOk d m with
 | true=>rfl
 | false =>
  have h1:=mdsAt_bad hk hb;unfold pgOk at h;rw [rangeT_at _ _ k hl h1] at h;simp at h
theorem flatMap_none {α β:Type} {f:α→List β}:∀ {l:List α},(∀ x ∈ l,f x = [])→l.flatMap f = []
 | [],_=>rfl
 | x :: l,h=>by rw [List.flatMap_cons,h x List.mem_cons_self,flatMap_none (fun y hy=>h y (List.mem_cons_of_mem _ hy))];rfl
theorem flatMap_same {α β:Type} {f g:α→List β}:∀ {l:List α},(∀ x ∈ l,f x=g x)→l.flatMap f=l.flatMap g
 | [],_=>rfl
 | x :: l,h=>by rw [List.flatMap_cons,List.flatMap_cons,h x List.mem_cons_self,flatMap_same (fun y hy=>h y (List.mem_cons_of_mem _ hy))]
theorem pat_none (ms:List Md) (m:Md):∀ (d:Nat) (x:Ex) (deep:Int),exOk d x true deep=true→(preX d x).flatMap (callL ms m) = []
 | 0,_,_,h=>by simp [exOk] at h
 | d+1,.mk k n t mo ks cs,deep,h=>by
  obtain ⟨h1,h2,h3,h4,h5,h6⟩:=exOk_parts h;have hk:=h4 rfl;have hcs:cs = []:=h1 (by omega);subst hcs;have hc:callL ms m (.mk k n t mo ks []) = []:=(by unfold callL;rw [if_neg (by simp only [Ex.kind];omega)])
  have hkids:ks.flatMap (fun y=>(preX d y).flatMap (callL ms m)) = []:=flatMap_none (fun y hy=>by
   obtain ⟨p,hp,he⟩:=h5 y hy;rw [hp rfl] at he
   exact pat_none ms m d y _ he)
  simp only [preX,Ex.kids,Ex.clauses,List.flatMap_nil,List.append_nil,List.flatMap_cons,hc,List.nil_append,List.flatMap_assoc];exact hkids
theorem pre_codes (ms:List Md) (m:Md):∀ (d:Nat) (x:Ex) (p:Bool) (deep:Int),exOk d x p deep=true→(preX d x).flatMap (callL ms m)=codesX ms m d x
 | 0,_,_,_,h=>by simp [exOk] at h
 | d+1,.mk k n t mo ks cs,p,deep,h=>by
  obtain ⟨h1,h2,h3,h4,h5,h6⟩:=exOk_parts h
  have hkids:ks.flatMap (fun y=>(preX d y).flatMap (callL ms m))=ks.flatMap (codesX ms m d):=flatMap_same (fun y hy=>by
   obtain ⟨q,_,he⟩:=h5 y hy
   exact pre_codes ms m d y q _ he)
  have hcl:cs.flatMap (fun c:Cl=>(c.1.flatMap (preX d) ++ c.2.flatMap (preX d)).flatMap (callL ms m))=cs.flatMap (fun c:Cl=>c.2.flatMap (codesX ms m d)):=flatMap_same (fun c hc=>by
   rw [List.flatMap_append,List.flatMap_assoc,List.flatMap_assoc];rw [flatMap_none (fun y hy=>pat_none ms m d y _ ((h6 c hc).1 y hy)),List.nil_append]
   exact flatMap_same (fun y hy=>pre_codes ms m d y false _ ((h6 c hc).2 y hy)))
  simp only [preX,codesX,withinX,bodiesOf,Ex.kids,Ex.clauses,List.flatMap_cons,List.flatMap_append,List.flatMap_assoc] at *;rw [hkids,hcl]
/-! Codes, each once. -/
theorem onceS_append:∀ (a b l:List ByteArray),onceS l (a ++ b)=onceS (onceS l a) b
 | [],b,l=>rfl
 | y :: a,b,l=>onceS_append a b _
theorem onceS_ahead (pre:List ByteArray):∀ (C l:List ByteArray),(∀ c ∈ C,hasS pre c=false)→onceS (pre ++ l) C=pre ++ onceS l C
 | [],l,_=>rfl
 | y :: C,l,h=>by
  have h1:hasS (pre ++ l) y=hasS l y:=by
   have:=h y List.mem_cons_self;unfold hasS at *;rw [List.any_append,this,Bool.false_or]
  show onceS (if hasS (pre ++ l) y then pre ++ l else (pre ++ l) ++ [y]) C=pre ++ onceS (if hasS l y then l else l ++ [y]) C;rw [h1]
  split
  · exact onceS_ahead pre C l (fun c hc=>h c (List.mem_cons_of_mem _ hc))
  · rw [List.append_assoc]
    exact onceS_ahead pre C _ (fun c hc=>h c (List.mem_cons_of_mem _ hc))
theorem foldC_once (ms:List Md) (m:Md) (d:Nat):∀ (l:List Ex) (o:List ByteArray),l.foldl (fun o b=>onceS o (codesX ms m d b)) o=onceS o (l.flatMap (codesX ms m d))
 | [],o=>rfl
 | x :: l,o=>by
  rw [List.foldl_cons,foldC_once ms m d l,List.flatMap_cons,onceS_append]
theorem codeOf_ne (x:Ex):(codeOf x).toList≠[]:=by unfold codeOf;split <;> simp [cCall,cFar,ByteArray.toList_eq]
theorem codeOf_loose (x:Ex):hasS [cLoose] (codeOf x)=false:=by unfold codeOf;split <;> simp [hasS,cCall,cFar,cLoose,ByteArray.toList_eq]
theorem callL_wrong (ms:List Md) (m:Md) (x:Ex):callL ms m x=if x.kind=8 then (if wrongB ms m x then [codeOf x] else []) else []:=by
 unfold callL;rw [callC_wrong]
 cases wrongB ms m x
 · simp
 · simp only [if_true,if_neg (codeOf_ne x)]
theorem callL_ahead (ms:List Md) (m:Md) (x:Ex):∀ c ∈ callL ms m x,hasS [cLoose] c=false:=by
 rw [callL_wrong]
 split
 · split
   · intro c hc
     rw [List.mem_singleton.1 hc];exact codeOf_loose x
   · intro c hc;cases hc
 · intro c hc;cases hc
theorem codesX_ahead (ms:List Md) (m:Md):∀ (d:Nat) (x:Ex),∀ c ∈ codesX ms m d x,hasS [cLoose] c=false
 | 0,_,c,h=>by cases h
 | d+1,x,c,h=>by
  simp only [codesX,List.mem_append,List.mem_flatMap] at h
  rcases h with h | ⟨y,_,h⟩
  · exact callL_ahead ms m x c h
  · exact codesX_ahead ms m d y c h
theorem st_fold (ms:List Md) (m:Md) (fs:ByteArray) (fn:Int):∀ (L:List Ex) (s:List ByteArray),
 L.foldl (stK fs fn ms m) (s.map fun c=>⟨m.name,fs,fn,c⟩)=(onceS s (L.flatMap (callL ms m))).map fun c=>⟨m.name,fs,fn,c⟩
 | [],s=>rfl
 | x :: L,s=>by
  have hst:stK fs fn ms m (s.map fun c=>⟨m.name,fs,fn,c⟩) x=(onceS s (callL ms m x)).map fun c=>⟨m.name,fs,fn,c⟩:=by
   unfold stK stC;rw [callL_wrong]
   have ha:(s.map fun c=>(⟨m.name,fs,fn,c⟩:Pb)).any (samePb ⟨m.name,fs,fn,codeOf x⟩)=hasS s (codeOf x):=by
    rw [List.any_map];unfold hasS
    congr 1
    funext y
    simp only [Function.comp,samePb,beq_self_eq_true,Bool.true_and];exact Bool.beq_comm
   split
   · rw [ha]
     cases wrongB ms m x
     · simp [onceS]
     · simp only [Bool.true_and,if_true,onceS]
       cases hasS s (codeOf x) <;> simp
   · simp [onceS]
  rw [List.foldl_cons,hst,st_fold ms m fs fn L,List.flatMap_cons,onceS_append]
theorem bodies_pre (f:Fn') (d:Nat):(f.clauses.flatMap fun c:Cl=>c.2.flatMap (preX d))=(bodiesOf f.clauses).flatMap (preX d):=by
 unfold bodiesOf;rw [List.flatMap_assoc]
/-! A function is told by its name and arity. -/
theorem fn_once {d:Nat} {m:Md} (h:mdOk d m=true) {f g:Fn'} (hf:f ∈ m.funs) (hg:g ∈ m.funs) (h1:g.name.toList=f.name.toList) (h2:g.arity=f.arity):g=f:=by
 unfold mdOk fnsB at h;simp only [Bool.and_eq_true,List.all_eq_true] at h;have hall:=h.2.2.2;obtain ⟨i,hi⟩:=List.mem_iff_getElem?.1 hf;obtain ⟨j,hj⟩:=List.mem_iff_getElem?.1 hg
 have key:∀ (i j:Nat) (f g:Fn'),m.funs[i]?=some f→m.funs[j]?=some g→f.name.toList=g.name.toList→f.arity=g.arity→¬ i<j:=by
  intro i j f g hi hj e1 e2 hlt;have hl:j<m.funs.length:=(List.getElem?_eq_some_iff.1 hj).1;have h3:=hall j (by simpa using hl);unfold fnsAt at h3;rw [hj] at h3;simp only [Bool.and_eq_true,Bool.not_eq_true'] at h3
  have h4:=List.any_eq_false.1 h3.2 f (by
   refine List.mem_iff_getElem?.2 ⟨i,?_⟩
   rw [List.getElem?_take_of_lt hlt];exact hi)
  apply h4
  simp [sameR,e1,e2]
 have e1:=key i j f g hi hj h1.symm h2.symm;have e2:=key j i g f hj hi h1 h2;have:i=j:=(by omega);subst this;rw [hi] at hj;exact (Option.some.inj hj).symm
theorem loose_any {d:Nat} {m:Md} (h:mdOk d m=true) {f:Fn'} (hf:f ∈ m.funs):(looseM d m).any (sameRf f.name f.arity)=looseF d f:=by
 unfold looseM;rw [if_pos h]
 cases hl:looseF d f with
 | true =>
  rw [List.any_eq_true];refine ⟨rfOf f,?_,by simp [sameRf,rfOf]⟩;unfold looseL;exact List.mem_map.2 ⟨f,List.mem_filter.2 ⟨hf,hl⟩,rfl⟩
 | false =>
  rw [List.any_eq_false];intro r hr hs;unfold looseL at hr;obtain ⟨g,hg,rfl⟩:=List.mem_map.1 hr;obtain ⟨hg1,hg2⟩:=List.mem_filter.1 hg;simp only [sameRf,rfOf,Bool.and_eq_true,beq_iff_eq] at hs;have:=fn_once h hf hg1 hs.1 hs.2;subst this;rw [hl] at hg2
  cases hg2
theorem funQ_eq {d:Nat} {ms:List Md} {m:Md} (h:mdOk d m=true) {f:Fn'} (hf:f ∈ m.funs):looseQ m d f ++ callQ ms m d f=funP ms m d f:=by
 have hc:=mdOk_clauses h f hf
 have h1:callQ ms m d f=(onceS [] ((bodiesOf f.clauses).flatMap (codesX ms m d))).map fun c=>⟨m.name,f.name,f.arity,c⟩:=by
  unfold callQ;have:=st_fold ms m f.name f.arity (f.clauses.flatMap fun c=>c.2.flatMap (preX d)) [];rw [List.map_nil] at this;rw [this,bodies_pre,List.flatMap_assoc]
  rw [flatMap_same (f:=fun y=>(preX d y).flatMap (callL ms m)) (g:=codesX ms m d) (fun y hy=>by
   unfold bodiesOf at hy;obtain ⟨c,hcm,hy⟩:=List.mem_flatMap.1 hy
   exact pre_codes ms m d y false _ ((hc c hcm).2 y hy))]
 have h2:looseQ m d f=(lsL (looseF d f)).map fun c=>⟨m.name,f.name,f.arity,c⟩:=by
  unfold looseQ lsL;rw [loose_any h hf]
  cases looseF d f <;> rfl
 have h3:funC ms m d f=lsL (looseF d f) ++ onceS [] ((bodiesOf f.clauses).flatMap (codesX ms m d)):=by
  unfold funC;rw [foldC_once]
  have h4:∀ c ∈ (bodiesOf f.clauses).flatMap (codesX ms m d),hasS (lsL (looseF d f)) c=false:=by
   intro c hc;obtain ⟨y,_,hy⟩:=List.mem_flatMap.1 hc;unfold lsL
   split
   · exact codesX_ahead ms m d y c hy
   · rfl
  have:=onceS_ahead (lsL (looseF d f)) _ [] h4
  rwa [List.append_nil] at this
 unfold funP;rw [h3,h1,h2,List.map_append]
theorem modQ_eq {d:Nat} {ms:List Md} {m:Md} (h:mdOk d m=true):modQ ms d m=modP ms d m:=by
 unfold modQ modP;rw [flatMap_same (fun f hf=>funQ_eq h hf)]
theorem allQ_eq {d:Nat} {ms:List Md} (h:pgOk d ms=true):ms.flatMap (modQ ms d)=ms.flatMap (modP ms d) :=
 flatMap_same (fun m hm=>modQ_eq (pgOk_mem h m hm))
/-! The list is short. -/
theorem flat_lenW {α β:Type} (f:α→List β) (g:α→Nat):∀ (l:List α),(∀ x ∈ l,(f x).length≤1+g x)→(l.flatMap f).length≤wtS g l
 | [],_=>by simp [wtS]
 | x :: l,h=>by
  have h1:=flat_lenW f g l (fun y hy=>h y (List.mem_cons_of_mem _ hy));have h2:=h x List.mem_cons_self;rw [List.flatMap_cons,List.length_append];unfold wtS at *;simp only [List.length_cons,List.map_cons,List.sum_cons];omega
theorem preX_len:∀ (d:Nat) (x:Ex),(preX d x).length≤1+wtEx d x
 | 0,x=>by simp [preX]
 | d+1,x=>by
  have h1:=flat_lenW (preX d) (wtEx d) x.kids (fun y _=>preX_len d y)
  have h2:=flat_lenW (fun c:Cl=>c.1.flatMap (preX d) ++ c.2.flatMap (preX d)) (wtCl (wtEx d)) x.clauses (fun c _=>by
   have h3:=flat_lenW (preX d) (wtEx d) c.1 (fun y _=>preX_len d y);have h4:=flat_lenW (preX d) (wtEx d) c.2 (fun y _=>preX_len d y);unfold wtCl;rw [List.length_append]
   omega)
  simp only [preX,wtEx,List.length_cons,List.length_append];omega
theorem stK_len (fs:ByteArray) (fn:Int) (ms:List Md) (m:Md) (s:List Pb) (x:Ex):(stK fs fn ms m s x).length≤s.length+1:=by
 unfold stK stC
 split
 · split
   · simp
   · omega
 · omega
theorem runs_of (fs:ByteArray) (fn:Int) (ms:List Md) (m:Md):∀ (L:List Ex) (s:List Pb),s.length+L.length≤16777216→Runs (fun (s:List Pb) _=>s.length+1≤16777216) (stK fs fn ms m) s L
 | [],s,_=>trivial
 | x :: L,s,h=>by
  simp only [List.length_cons] at h;have:=stK_len fs fn ms m s x;exact ⟨by omega,runs_of fs fn ms m L _ (by omega)⟩
theorem wt_mem {α:Type} (f:α→Nat) {l:List α} {x:α} (h:x ∈ l):f x≤wtS f l:=by
 obtain ⟨k,hk⟩:=List.mem_iff_getElem?.1 h;have h1:=sum_take_succ f l k x hk;have h2:=sum_take_le f l (k+1);unfold wtS;omega
theorem runs_all {d:Nat} {ms:List Md} (hw:wtS (wtMd d) ms≤16777216):∀ m ∈ ms,∀ f ∈ m.funs,Runs (fun (s:List Pb) _=>s.length+1≤16777216) (stK f.name f.arity ms m) [] (f.clauses.flatMap fun c=>c.2.flatMap (preX d)):=by
 intro m hm f hf;refine runs_of _ _ _ _ _ _ ?_;have h1:=wt_mem (wtMd d) hm;have h2:=wt_mem (wtFn d) hf
 have h3:=flat_lenW (fun c:Cl=>c.2.flatMap (preX d)) (wtCl (wtEx d)) f.clauses (fun c _=>by
  have h4:=flat_lenW (preX d) (wtEx d) c.2 (fun y _=>preX_len d y);unfold wtCl
  omega)
 have h5:wtMd d m=m.name.size+wtS wtRf m.exports+wtS (wtFn d) m.funs:=rfl;have h6:wtFn d f=f.name.size+wtS (wtCl (wtEx d)) f.clauses:=rfl;rw [List.length_nil];omega
end Go.Proofs.YtdhlonogmnkemaaGreatDoor
namespace Go.Proofs.YtdhlonogmnkemaaGreatDoor
open Go.ChangeShapes Go.WideShapes Go.ChangeAt Go.RowKit Go.Proofs.Tryz
set_option linter.unusedVariables false
set_option maxRecDepth 100000
def goodB (d:Nat) (ms:List Md):Bool:=pgOk d ms && (checkP d ms).isEmpty
theorem implGood_any (d:Nat) (w:World) (v:Value) (ms:List Md) (hT:Tabs w) (h:Rows w All 3 (HMd w All d) v ms) (hw:wtS (wtMd d) ms≤16777216) :
 Calls prog 68 #[v] w fun e w'=>e=.returned (.bool (goodB d ms))∧Bz w w':=by
 have HTAB:=hid hT;have HMS:Hid (∀ w',Bz w w'→Rows w' All 3 (HMd w' All d) v ms):=fun w' hw=>h.mono (sqO hw) (fun _ h=>h) (fun _ _ _ h=>h.mono (sqO hw) (fun _ h=>h));have HWM:Hid (∀ m ∈ ms,wtMd d m≤16777216):=fun m hm=>Nat.le_trans (wt_mem (wtMd d) hm) hw;have HRUN:=hid (runs_all hw);have HLEN:=hid (Nat.le_trans (allP_len ms ms d) hw);have HO0:=hid h;obtain ⟨p,cap,rfl,-⟩:=h;clear hT hw;go_enter func68,ntmps68;go_wp2_with fail;refine (implProgramOk_any d _ _ ms HTAB.out HO0.out).mono ?_;rintro e w1 ⟨rfl,hb1⟩;have HB1:=hid hb1;clear hb1
 cases hG:pgOk d ms with
 | false =>
  have HC:Hid (goodB d ms=false):=(by show _=_;unfold goodB;rw [hG];rfl);go_wp2_with fail;go_ret;exact ⟨by rw [HC.out];rfl,HB1.out⟩
 | true =>
  have HC:Hid (goodB d ms=(ms.flatMap (modQ ms d)).isEmpty):=(by show _=_;unfold goodB checkP;rw [hG,if_pos rfl,allQ_eq hG,Bool.true_and]);have HLQ:Hid ((ms.flatMap (modQ ms d)).length≤16777216):=(by show _≤_;rw [allQ_eq hG];exact HLEN.out);go_wp2_with fail;refine (problems_any d _ _ ms (HTAB.out.below HB1.out) (HMS.out _ HB1.out) HWM.out HLQ.out HRUN.out).mono ?_;rintro e w2 ⟨u2,rfl,ho2,hb2⟩;obtain ⟨p2,q2,rfl,hm2⟩:=ho2.slice;have HB2:=hid (HB1.out.trans (hb2.mono HB1.out.size));clear ho2 hb2
  cases hL:ms.flatMap (modQ ms d) with
  | nil =>
   have HC2:Hid (goodB d ms=true):=(by show _=_;rw [HC.out,hL];rfl);rw [hL,List.length_nil] at *;go_wp2_with fail;go_ret;exact ⟨by rw [HC2.out];rfl,HB2.out⟩
  | cons q l =>
   have HC2:Hid (goodB d ms=false):=(by show _=_;rw [HC.out,hL];rfl);have hz:¬ (((ms.flatMap (modQ ms d)).length:Nat):Int)=0:=(by rw [hL,List.length_cons];omega);generalize (ms.flatMap (modQ ms d)).length=n2 at *;clear hL HC;go_wp2_with fail;go_ret;exact ⟨by rw [HC2.out];first | rfl | simp,HB2.out⟩
theorem specGood_any (d:Nat) (w:World) (v:Value) (ms:List Md) (h:Rows w All 3 (HMd w All d) v ms) (hw:wtS (wtMd d) ms≤16777216) :
 Calls prog 19 #[v] w fun e w'=>e=.returned (.bool (goodB d ms))∧Bz w w':=by
 have HMS:Hid (∀ w',Bz w w'→Rows w' All 3 (HMd w' All d) v ms):=fun w' hw=>h.mono (sqO hw) (fun _ h=>h) (fun _ _ _ h=>h.mono (sqO hw) (fun _ h=>h));have HO0:=hid h;have HWW:=hid hw;obtain ⟨p,cap,rfl,-⟩:=h;clear hw;go_enter func19,ntmps19;go_wp2_with fail;refine (specProgramOk_any d _ _ ms HO0.out).mono ?_;rintro e w1 ⟨rfl,hb1⟩;have HB1:=hid hb1;clear hb1
 cases hG:pgOk d ms with
 | false =>
  have HC:Hid (goodB d ms=false):=(by show _=_;unfold goodB;rw [hG];rfl);go_wp2_with fail;go_ret;exact ⟨by rw [HC.out];rfl,HB1.out⟩
 | true =>
  have HC:Hid (goodB d ms=(checkP d ms).isEmpty):=(by show _=_;unfold goodB;rw [hG,Bool.true_and]);go_wp2_with fail;refine (specCheck_any d _ _ ms (HMS.out _ HB1.out) HWW.out).mono ?_;rintro e w2 ⟨u2,rfl,ho2,hb2⟩;obtain ⟨p2,q2,rfl,hm2⟩:=ho2.slice;have HB2:=hid (HB1.out.trans (hb2.mono HB1.out.size));clear ho2 hb2
  cases hL:checkP d ms with
  | nil =>
   have HC2:Hid (goodB d ms=true):=(by show _=_;rw [HC.out,hL];rfl);rw [hL,List.length_nil] at *;go_wp2_with fail;go_ret;exact ⟨by rw [HC2.out];rfl,HB2.out⟩
  | cons q l =>
   have HC2:Hid (goodB d ms=false):=(by show _=_;rw [HC.out,hL];rfl);have hz:¬ (((checkP d ms).length:Nat):Int)=0:=(by rw [hL,List.length_cons];omega);generalize (checkP d ms).length=n2 at *;clear hL HC;go_wp2_with fail;go_ret;exact ⟨by rw [HC2.out];first | rfl | simp,HB2.out⟩
def hasT (xs:List ByteArray) (s:ByteArray):Bool:=xs.any fun x=>s.toList == x.toList
theorem indexS_any (w:World) (v:Value) (xs:List ByteArray) (s:ByteArray) (h:StrR w v xs):Calls prog 114 #[v,.string s] w fun e w'=>e=.returned (.int .i64 (findI (fun x=>s.toList == x.toList) xs))∧w'=w:=by
 obtain ⟨p,cap,rfl,hcl,hcm,hx⟩:=h;have hnb:=sqM hcl hcm;generalize hn:xs.length=n at *;have HN:=hid hn
 have HX:Hid (∀ k x,xs[k]?=some x→∃ g off,p=some ⟨g,off,none⟩∧g<w.heap.size∧w.cell? ⟨g,off+k,none⟩=some (.string x)):=fun k x hk=>by
  obtain ⟨g,off,e,_,hg,hat⟩:=hx (by intro e;rw [e] at hk;simp at hk);obtain ⟨cs,_,hcs,rfl,_⟩:=hat k x hk;have:=hcs 0 (by decide);simp only [Nat.mul_one,Nat.add_zero,List.getElem?_cons_zero] at this;exact ⟨g,off,e,hg,this⟩
 clear hx hn;go_enter func114,ntmps114;go_wp2
 go_loop [8] (fun iv=>∃ k:Nat,k≤n∧iv=.int .i64 k∧Hid ((xs.take k).any (fun x=>s.toList == x.toList)=false)) (fun iv=>n - (intOf iv).toNat)
 case atStart=>exact ⟨0,Nat.zero_le _,rfl,by show _=_;simp⟩
 case round =>
  obtain ⟨k,hk,rfl,hno⟩:=hrel;by_cases hlt:k<n
  · obtain ⟨x,hxk⟩:=sqA (l:=xs) (k:=k) HN.out hlt
    obtain ⟨g,off,rfl,hgl,a0⟩:=HX.out k x hxk;have hki:(k:Int)<(n:Int):=(by omega);have hk0:=sqI k
    cases hq:(s.toList == x.toList) with
    | true =>
     have HS:=hid (findI_at hno.out hxk hq);go_wp2;go_ret;exact ⟨by rw [HS.out];rfl,rfl⟩
    | false =>
     have HS:=hid (anyT_succ' _ xs k x hxk hno.out hq);go_wp2
     go_round
     case rel=>exact ⟨k+1,by omega,by go_num,HS⟩
     case measure=>simp [intOf];omega
  · have HS:Hid (findI (fun x=>s.toList == x.toList) xs = -1):=findI_none (by
     have:=hno.out
     rwa [List.take_of_length_le (by rw [HN.out];omega)] at this)
    go_wp2;go_ret;exact ⟨by rw [HS.out];rfl,rfl⟩
theorem containsS_any (w:World) (v:Value) (xs:List ByteArray) (s:ByteArray) (h:StrR w v xs):Calls prog 70 #[v,.string s] w fun e w'=>e=.returned (.bool (hasT xs s))∧w'=w:=by
 have CI:=indexS_any w v xs s h;obtain ⟨p,cap,rfl,-⟩:=h
 rcases findI_cases (fun x:ByteArray=>s.toList == x.toList) xs with ⟨h1,h2⟩ | ⟨k,x,h1,-,-,h4,-⟩
 · rw [h2] at CI
   have HC:=hid CI;have HV:Hid (hasT xs s=false):=h1;clear CI h1 h2;go_enter func70,ntmps70;go_wp2_with fail;refine HC.out.mono ?_;rintro e w1 ⟨rfl,rfl⟩;go_wp2_with fail;go_ret;exact ⟨by rw [HV.out];rfl,rfl⟩
 · rw [h4] at CI
   have HC:=hid CI;have HV:Hid (hasT xs s=true):=h1;have hk:=sqI k;clear CI h1 h4;go_enter func70,ntmps70;go_wp2_with fail;refine HC.out.mono ?_;rintro e w1 ⟨rfl,rfl⟩;go_wp2_with fail;go_ret;exact ⟨by rw [HV.out];first | rfl | simp,rfl⟩
theorem hasT_S (xs:List ByteArray) (s:ByteArray):hasT xs s=hasS xs s:=by
 unfold hasT hasS
 congr 1
 funext x
 exact Bool.eq_iff_iff.2 (by simp only [beq_iff_eq];exact eq_comm)
theorem rows_mem {α:Type} {w:World} {S:Nat→Prop} {c:Nat} {R:List Value→α→Prop} {v:Value} {xs:List α} (h:Rows w S c R v xs) {x:α} (hx:x ∈ xs):∃ cs,R cs x:=by
 obtain ⟨p,cap,-,-,-,h3⟩:=h;obtain ⟨i,hi⟩:=List.mem_iff_getElem?.1 hx;obtain ⟨g,off,-,-,-,hat⟩:=h3 (by intro e;rw [e] at hx;simp at hx);obtain ⟨cs,-,-,hr⟩:=hat i x hi;exact ⟨cs,hr⟩
theorem clause_lies {w:World} {d:Nat} {v:Value} {ms:List Md} {q:Pl} {c:Cl} (h:Rows w All 3 (HMd w All d) v ms) (hc:clauseOf ms q=some c):∃ cs,HCl w All (HEx w All d) cs c:=by
 unfold clauseOf at hc;obtain ⟨f,hf,hc⟩:=Option.bind_eq_some_iff.1 hc;unfold fnOf at hf;obtain ⟨m,hm,hf⟩:=Option.bind_eq_some_iff.1 hf
 split at hc
 · obtain ⟨cs,ev,fv,-,-,-,hfs⟩:=rows_mem h (List.mem_of_find?_eq_some hm)
   obtain ⟨fcs,cv,-,-,-,hcl⟩:=rows_mem hfs (List.mem_of_find?_eq_some hf);exact rows_mem hcl (List.mem_of_getElem? hc)
 · cases hc
theorem varsAt_ok {w:World} {d:Nat} {v:Value} {ms:List Md} (h:Rows w All 3 (HMd w All d) v ms) (q:Pl):∀ s ∈ varsAt d ms q,okS s:=by
 intro s hs;unfold varsAt at hs
 split at hs
 · cases hc:clauseOf ms q with
   | none=>rw [hc] at hs;simp at hs
   | some c =>
    rw [hc] at hs;obtain ⟨cs,hcl⟩:=clause_lies h hc;have h1:=sortS_mem (clauseVars d c) (clauseVars d c).length s (by rw [List.take_of_length_le (sqR _)];exact hs);rw [clauseVars_ex] at h1;exact allV_ok _ _ (clause_txts hcl) s h1
 · simp at hs
def renCode (d:Nat) (ms:List Md) (q:Pl) (sf st:ByteArray):Int :=
 if goodB d ms=false then 1 else if hasT (varsAt d ms q) sf=false then 2 else if varB st=false then 3 else if hasT (varsAt d ms q) st=true then 4 else 0
theorem renameVarCode_any (d:Nat) (w:World) (v:Value) (ms:List Md) (q:Pl) (sf st:ByteArray) (hT:Tabs w) (h:Rows w All 3 (HMd w All d) v ms) (hw:wtS (wtMd d) ms≤16777216) (hst:st.size≤maxLen) :
 Calls prog 27 #[v,.agg #[.string q.mod,.string q.name,.int .i64 q.arity,.int .i64 q.clause],.string sf,.string st] w fun e w'=>e=.returned (.int .i64 (renCode d ms q sf st))∧Bz w w':=by
 have HTAB:=hid hT;have HR:Hid (∀ w',Bz w w'→Rows w' All 3 (HMd w' All d) v ms):=fun w' hw=>h.mono (sqO hw) (fun _ h=>h) (fun _ _ _ h=>h.mono (sqO hw) (fun _ h=>h));have HW:=hid hw;have HST:=hid hst;obtain ⟨W1,hW1⟩:∃ W1,W1=w.alloc (.cells #[.string q.mod,.string q.name,.int .i64 q.arity,.int .i64 q.clause] 31):=⟨_,rfl⟩;have bA:Hid (Blk W1 w.heap.size #[.string q.mod,.string q.name,.int .i64 q.arity,.int .i64 q.clause] 31):=(by show Blk _ _ _ _;rw [hW1];exact Blk.new);have B1:Hid (Bz w W1):=(by show Below _ _ _;rw [hW1];exact (sqN _ _));have HW1:=hid hW1;have HV:Hid (renCode d ms q sf st=if goodB d ms=false then 1 else if hasT (varsAt d ms q) sf=false then 2 else if varB st=false then 3 else if hasT (varsAt d ms q) st=true then 4 else 0):=rfl;have HLV:=hid (varsAt_ok h q);obtain ⟨p,cap,rfl,-⟩:=h;clear hW1 hT hw hst;generalize hX:renCode d ms q sf st=X at *;clear hX;go_enter func27,ntmps27;go_wp2_with fail;rw [← HW1.out];refine (implGood_any d _ _ ms (HTAB.out.below B1.out) (HR.out _ B1.out) HW.out).mono ?_;rintro e w2 ⟨rfl,hb⟩;have B2:=hid (B1.out.trans (hb.mono B1.out.size));have b2:=hid (bA.out.next hb);clear hb
 cases hG:goodB d ms with
 | false =>
  have HX:Hid (X=1):=(by show _=_;rw [HV.out,hG];rfl);go_wp2_with fail;go_ret;exact ⟨by rw [HX.out];rfl,B2.out⟩
 | true =>
  obtain ⟨y0,y1,y2,y3⟩:=sqB4 b2.out;have HG:=hid hG;clear hG;go_wp2_with fail;refine (implVarsAt_any d w2 _ ms q (HTAB.out.below B2.out) (HR.out _ B2.out) HW.out).mono ?_;rintro e w3 ⟨u,rfl,ho,hb⟩;have B3:=hid (B2.out.trans (hb.mono B2.out.size));have S3:=hid (ho.strR HLV.out);have C1:=hid (containsS_any w3 u _ sf S3.out);have C2:=hid (containsS_any w3 u _ st S3.out);obtain ⟨pu,cu,hu,-⟩:=S3.out;subst hu;clear ho hb y0 y1 y2 y3;generalize (varsAt d ms q).length=nv at *;go_wp2_with fail;refine C1.out.mono ?_;rintro e w4 ⟨rfl,rfl⟩
  cases h1:hasT (varsAt d ms q) sf with
  | false =>
   have HX:Hid (X=2):=(by show _=_;rw [HV.out,HG.out,h1];rfl);go_wp2_with fail;go_ret;exact ⟨by rw [HX.out];rfl,B3.out⟩
  | true =>
   have H1:=hid h1;clear h1;go_wp2_with fail;refine (implVarOk_any st _ HST.out).mono ?_;rintro e w5 ⟨rfl,rfl⟩
   cases h2:varB st with
   | false =>
    have HX:Hid (X=3):=(by show _=_;rw [HV.out,HG.out,H1.out,h2];rfl);go_wp2_with fail;go_ret;exact ⟨by rw [HX.out];rfl,B3.out⟩
   | true =>
    have H2:=hid h2;clear h2;go_wp2_with fail;refine C2.out.mono ?_;rintro e w6 ⟨rfl,rfl⟩
    cases h3:hasT (varsAt d ms q) st with
    | true =>
     have HX:Hid (X=4):=(by show _=_;rw [HV.out,HG.out,H1.out,H2.out,h3];rfl);go_wp2_with fail;go_ret;exact ⟨by rw [HX.out];rfl,B3.out⟩
    | false =>
     have HX:Hid (X=0):=(by show _=_;rw [HV.out,HG.out,H1.out,H2.out,h3];rfl);go_wp2_with fail;go_ret;exact ⟨by rw [HX.out];rfl,B3.out⟩
end Go.Proofs.YtdhlonogmnkemaaGreatDoor
namespace Go.Proofs.YtdhlonogmnkemaaGreatDoor
open Go.ChangeShapes Go.WideShapes Go.ChangeAt Go.RowKit
set_option linter.unusedVariables false
set_option maxRecDepth 100000
theorem flat_set {fps:List (List Nat)} {i g:Nat} {f f' fq:List Nat} (hnd:(g :: fps.flatten).Nodup) (hf:fps[i]?=some f) (hn':f'.Nodup) (hs:∀ a ∈ f',a ∈ f∨a ∈ fq) (hd:∀ a ∈ fq,a ∉ g :: fps.flatten) :
 (g :: (fps.set i f').flatten).Nodup∧∀ a ∈ g :: (fps.set i f').flatten,a ∈ g :: fps.flatten∨a ∈ fq:=by
 obtain ⟨h1,h2⟩:=nodup_parts hnd
 have hmem:∀ a ∈ (fps.set i f').flatten,(∃ j fj,j≠i∧fps[j]?=some fj∧a ∈ fj)∨a ∈ f':=by
  intro a ha;obtain ⟨x,hx,hax⟩:=List.mem_flatten.1 ha;obtain ⟨j,hj⟩:=List.mem_iff_getElem?.1 hx;by_cases hji:j=i
  · subst hji
    rw [List.getElem?_set_self (List.getElem?_eq_some_iff.1 hf).1] at hj;obtain rfl:=Option.some.inj hj;exact .inr hax
  · rw [List.getElem?_set_ne (fun h=>hji h.symm)] at hj
    exact .inl ⟨j,x,hji,hj,hax⟩
 have hin:∀ a ∈ f,a ∈ g :: fps.flatten:=fun a ha=>List.mem_cons_of_mem _ (List.mem_flatten.2 ⟨f,List.mem_of_getElem? hf,ha⟩);refine ⟨?_,fun a ha=>?_⟩
 · rw [List.nodup_cons]
   refine ⟨fun hg=>?_,?_⟩
   · rcases hmem g hg with ⟨j,fj,hj,hfj,hgj⟩ | hgf
     · exact (h1 fj (List.mem_of_getElem? hfj)).1 hgj
     · rcases hs g hgf with h | h
       · exact (h1 f (List.mem_of_getElem? hf)).1 h
       · exact hd g h (by simp)
   · unfold List.Nodup
     rw [List.pairwise_flatten];refine ⟨fun x hx=>?_,?_⟩
     · obtain ⟨j,hj⟩:=List.mem_iff_getElem?.1 hx
       by_cases hji:j=i
       · subst hji
         rw [List.getElem?_set_self (List.getElem?_eq_some_iff.1 hf).1] at hj;obtain rfl:=Option.some.inj hj;exact hn'
       · rw [List.getElem?_set_ne (fun h=>hji h.symm)] at hj
         exact (h1 x (List.mem_of_getElem? hj)).2
     · rw [List.pairwise_iff_getElem]
       intro p q hp hq hpq a ha b hb hab;subst hab;obtain ⟨X,e1,ha⟩:∃ X,(fps.set i f')[p]?=some X∧a ∈ X:=⟨_,List.getElem?_eq_getElem hp,ha⟩;obtain ⟨Y,e2,hb⟩:∃ Y,(fps.set i f')[q]?=some Y∧a ∈ Y:=⟨_,List.getElem?_eq_getElem hq,hb⟩
       have key:∀ (u:Nat) fu,u≠i→fps[u]?=some fu→a ∈ fu→a ∈ f'→False:=by
        intro u fu hu hfu hau haf
        rcases hs a haf with h | h
        · exact h2 u i fu f hu hfu hf a hau h
        · exact hd a h (List.mem_cons_of_mem _ (List.mem_flatten.2 ⟨fu,List.mem_of_getElem? hfu,hau⟩))
       have hlen:=(List.getElem?_eq_some_iff.1 hf).1;by_cases hpi:p=i
       · have hqi:q≠i:=by omega
         rw [hpi,List.getElem?_set_self hlen] at e1;rw [List.getElem?_set_ne (fun h=>hqi h.symm)] at e2;obtain rfl:=Option.some.inj e1;exact key q _ hqi e2 hb ha
       · rw [List.getElem?_set_ne (fun h=>hpi h.symm)] at e1
         by_cases hqi:q=i
         · rw [hqi,List.getElem?_set_self hlen] at e2
           obtain rfl:=Option.some.inj e2;exact key p _ hpi e1 ha hb
         · rw [List.getElem?_set_ne (fun h=>hqi h.symm)] at e2
           exact h2 p q _ _ (by omega) e1 e2 a ha hb
 · rcases List.mem_cons.1 ha with rfl | ha
   · exact .inl (by simp)
   · rcases hmem a ha with ⟨j,fj,hj,hfj,haj⟩ | haf
     · exact .inl (List.mem_cons_of_mem _ (List.mem_flatten.2 ⟨fj,List.mem_of_getElem? hfj,haj⟩))
     · rcases hs a haf with h | h
       · exact .inl (hin a h)
       · exact .inr h
theorem ORows.through {α:Type} {w:World} {e:TypeId} {c:Nat} {R:List Value→α→List Nat→Prop} {v:Value} {xs:List α} {fp:List Nat} (h:ORows w e c R v xs fp) (hnd:fp.Nodup) {i:Nat} {x:α} (hi:xs[i]?=some x) :
 ∃ g cap cs f,v=.slice (some ⟨g,0,none⟩) xs.length cap∧g ∈ fp∧(∀ a ∈ f,a ∈ fp)∧g ∉ f∧f.Nodup∧cs.length=c∧(∀ j,j<c→w.cell? ⟨g,i * c+j,none⟩=cs[j]?)∧R cs x f ∧
  ∀ (w':World) (R':List Value→α→List Nat→Prop) (x':α) (f' fq:List Nat) (b:Nat),b ∈ f→(∀ a,a≠b→w'.heap[a]?=w.heap[a]?)→R' cs x' f'→f'.Nodup→(∀ a ∈ f',a ∈ f∨a ∈ fq)→(∀ a ∈ fq,a ∉ fp) →
   (∀ cs y fy,b ∉ fy→R cs y fy→R' cs y fy)→∃ fp',ORows w' e c R' v (xs.set i x') fp'∧fp'.Nodup∧∀ a ∈ fp',a ∈ fp∨a ∈ fq:=by
 have hil:i<xs.length:=(List.getElem?_eq_some_iff.1 hi).1
 rcases h with ⟨rfl,_⟩ | ⟨hne,cells,g,cap,fps,ho,hv,hl,rfl,hat⟩
 · simp at hil
 obtain ⟨f,hf⟩:∃ f,fps[i]?=some f:=⟨fps[i]'(by rw [hl];exact hil),List.getElem?_eq_getElem _⟩;obtain ⟨cs,hcl,hcs,hr⟩:=hat i x f hi hf;obtain ⟨n1,n2⟩:=nodup_parts hnd;have hfm:=List.mem_of_getElem? hf;refine ⟨g,cap,cs,f,hv,by simp,fun a ha=>List.mem_cons_of_mem _ (List.mem_flatten.2 ⟨f,hfm,ha⟩),(n1 f hfm).1,(n1 f hfm).2,hcl,fun j hj=>?_,hr,?_⟩
 · rw [← hcs j hj]
   rw [hv] at ho;refine ho.cellAt (i * c+j) ?_;have:i * c+c≤xs.length * c:=(by rw [← Nat.succ_mul];exact Nat.mul_le_mul_right c hil);omega
 · intro w' R' x' f' fq b hb hk hr' hn' hs hd hR
   have hgb:g≠b:=fun e=>(n1 f hfm).1 (e ▸ hb);obtain ⟨m1,m2⟩:=flat_set hnd hf hn' hs hd;refine ⟨g :: (fps.set i f').flatten,.inr ⟨fun h=>hne (by cases xs with | nil=>rfl | cons a l=>cases i <;> simp at h),cells,g,cap,fps.set i f',?_,by rw [List.length_set];exact hv,by rw [List.length_set,List.length_set];exact hl,rfl,fun j y fy hj hfy=>?_⟩,m1,m2⟩
   · rw [List.length_set]
     exact owns_block ho hv (hk g hgb)
   · by_cases hji:j=i
     · subst hji
       rw [List.getElem?_set_self hil] at hj;obtain rfl:=Option.some.inj hj;rw [List.getElem?_set_self (List.getElem?_eq_some_iff.1 hf).1] at hfy;obtain rfl:=Option.some.inj hfy;exact ⟨cs,hcl,hcs,hr'⟩
     · rw [List.getElem?_set_ne (fun h=>hji h.symm)] at hj hfy
       obtain ⟨cs2,k1,k2,k3⟩:=hat j y fy hj hfy;exact ⟨cs2,k1,k2,hR cs2 y fy (fun hbf=>n2 i j f fy (fun h=>hji h.symm) hf hfy b hb hbf) k3⟩
theorem ORows.store2 {α:Type} {w:World} {e:TypeId} {R:List Value→α→List Nat→Prop} {v:Value} {xs:List α} {fp:List Nat} (h:ORows w e 2 R v xs fp) (hnd:fp.Nodup) {i:Nat} {x:α} (hi:xs[i]?=some x) :
 ∃ g cap,v=.slice (some ⟨g,0,none⟩) xs.length cap∧g ∈ fp ∧
  ∀ (R':List Value→α→List Nat→Prop) (x':α) (d0 d1:Value) (fq:List Nat),R' [d0,d1] x' fq→fq.Nodup→(∀ a ∈ fq,a ∉ fp)→(∀ cs y fy,g ∉ fy→R cs y fy→R' cs y fy) →
   ∃ fp',ORows ((w.setCell ⟨g,i * 2,none⟩ d0).setCell ⟨g,i * 2+1,none⟩ d1) e 2 R' v (xs.set i x') fp'∧fp'.Nodup∧∀ a ∈ fp',a ∈ fp∨a ∈ fq:=by
 have hil:i<xs.length:=(List.getElem?_eq_some_iff.1 hi).1
 rcases h with ⟨rfl,_⟩ | ⟨hne,cells,g,cap,fps,ho,hv,hl,rfl,hat⟩
 · simp at hil
 obtain ⟨f,hf⟩:∃ f,fps[i]?=some f:=⟨fps[i]'(by rw [hl];exact hil),List.getElem?_eq_getElem _⟩;obtain ⟨n1,n2⟩:=nodup_parts hnd;have hfm:=List.mem_of_getElem? hf;refine ⟨g,cap,hv,by simp,?_⟩;intro R' x' d0 d1 fq hr' hn' hd hR;obtain ⟨m1,m2⟩:=flat_set hnd hf hn' (fun a ha=>.inr ha) hd;have ho2:=ho;rw [hv] at ho2;have sd:=stored2 ho2 (i * 2) d0 d1;have hlen:cells.length=xs.length * 2:=ho.1;refine ⟨g :: (fps.set i fq).flatten,.inr ⟨fun h=>hne (by cases xs with | nil=>rfl | cons a l=>cases i <;> simp at h),(cells.set (i * 2) d0).set (i * 2+1) d1,g,cap,fps.set i fq,?_,by rw [List.length_set];exact hv,by rw [List.length_set,List.length_set];exact hl,rfl,fun j y fy hj hfy=>?_⟩,m1,m2⟩
 · rw [List.length_set,hv]
   exact sd.1
 · by_cases hji:j=i
   · subst hji
     rw [List.getElem?_set_self hil] at hj;obtain rfl:=Option.some.inj hj;rw [List.getElem?_set_self (List.getElem?_eq_some_iff.1 hf).1] at hfy;obtain rfl:=Option.some.inj hfy;exact ⟨[d0,d1],rfl,fun p hp=>set2_self (by omega) p hp,hr'⟩
   · rw [List.getElem?_set_ne (fun h=>hji h.symm)] at hj hfy
     obtain ⟨cs2,k1,k2,k3⟩:=hat j y fy hj hfy;refine ⟨cs2,k1,fun p hp=>?_,hR cs2 y fy (fun hg=>(n1 fy (List.mem_of_getElem? hfy)).1 hg) k3⟩;rw [← k2 p hp];rw [List.getElem?_set_ne (by omega),List.getElem?_set_ne (by omega)]
def setCl (ms:List Md) (k j i:Nat) (m:Md) (f:Fn') (c':Cl):List Md:=ms.set k ⟨m.name,m.exports,m.funs.set j ⟨f.name,f.arity,f.clauses.set i c'⟩⟩
structure FirstAt (ms:List Md) (q:Pl) (k j i:Nat) (m:Md) (f:Fn') (c:Cl):Prop where
 at_k:ms[k]?=some m
 nm:named q.mod m=true
 bk:(ms.take k).any (named q.mod)=false
 at_j:m.funs[j]?=some f
 nj:sameR ⟨q.name,q.arity⟩ f=true
 bj:(m.funs.take j).any (sameR ⟨q.name,q.arity⟩)=false
 at_i:f.clauses[i]?=some c
 ci:q.clause=i
def setAt (ms:List Md) (q:Pl) (g:Cl→Cl):List Md :=
 match ms.findIdx? (named q.mod) with
 | none=>ms
 | some k=>match ms[k]? with
  | none=>ms
  | some m=>match m.funs.findIdx? (sameR ⟨q.name,q.arity⟩) with
   | none=>ms
   | some j=>match m.funs[j]? with
    | none=>ms
    | some f=>match f.clauses[q.clause.toNat]? with
     | none=>ms
     | some c=>setCl ms k j q.clause.toNat m f (g c)
theorem findIdx_of {α:Type} {p:α→Bool} {xs:List α} {k:Nat} {x:α} (hx:xs[k]?=some x) (hp:p x=true) (hb:(xs.take k).any p=false):xs.findIdx? p=some k:=by
 rw [List.findIdx?_eq_some_iff_getElem];obtain ⟨hk,he⟩:=List.getElem?_eq_some_iff.1 hx;refine ⟨hk,by rw [he];exact hp,fun j hj=>?_⟩;have:=List.any_eq_false.1 hb (xs[j]) (List.mem_of_getElem? (i:=j) (by rw [List.getElem?_take,if_pos hj];exact List.getElem?_eq_getElem _));exact this
theorem FirstAt.set {ms:List Md} {q:Pl} {k j i:Nat} {m:Md} {f:Fn'} {c:Cl} (h:FirstAt ms q k j i m f c) (g:Cl→Cl):setAt ms q g=setCl ms k j i m f (g c):=by
 have hi:q.clause.toNat=i:=(by rw [h.ci];simp);unfold setAt;rw [findIdx_of h.at_k h.nm h.bk];simp only [h.at_k];rw [findIdx_of h.at_j h.nj h.bj];simp only [h.at_j,hi,h.at_i]
theorem slice_eq {g off n cap g' n' cap':Nat} (h:(.slice (some ⟨g,off,none⟩) n cap:Value)=.slice (some ⟨g',0,none⟩) n' cap'):g=g'∧off=0:=by
 simp only [Value.slice.injEq,Option.some.injEq,Addr.mk.injEq] at h;exact ⟨h.1.1,h.1.2.1⟩
theorem prog_set {w:World} {d:Nat} {ms:List Md} {q:Pl} {v:Value} {fp fq:List Nat} {gc o:Nat} {c c':Cl} {pv bv:Value} (h:ORows w 63 3 (OMd w d) v ms fp) (hnd:fp.Nodup) (hP:ClP d ms q v w gc o c) (hu:OneName ms) (hone:∀ k m,ms[k]?=some m→named q.mod m=true→(ms.take k).any (named q.mod)=false)
 (hc:OCl w (OEx w d) [pv,bv] c' fq) (hfq:fq.Nodup) (hd:∀ a ∈ fq,a ∉ fp) :
 gc ∈ fp∧∃ k j i m f,FirstAt ms q k j i m f c∧∃ fp',ORows ((w.setCell ⟨gc,o,none⟩ pv).setCell ⟨gc,o+1,none⟩ bv) 63 3 (OMd ((w.setCell ⟨gc,o,none⟩ pv).setCell ⟨gc,o+1,none⟩ bv) d) v (setCl ms k j i m f c') fp'∧fp'.Nodup∧∀ a ∈ fp',a ∈ fp∨a ∈ fq:=by
 obtain ⟨gf,og,k,j,m,f,hF,i,oc,cc,hci,hck,hgc,hcell,rfl,-⟩:=hP;obtain ⟨g0,off0,cap0,of,cf,hv0,hcl0,rfl⟩:=hF.lies;obtain ⟨g1,cap1,cs1,f1,hv1,hg1,hs1,hg1f,hnd1,hl1,hcs1,hr1,step1⟩:=h.through hnd hF.at_k;obtain ⟨rfl,rfl⟩:=slice_eq (hv0.symm.trans hv1);obtain ⟨ev,fv,fa,fb,rfl,rfl,ok1,hev,hfv⟩:=hr1;have e1:=hcs1 2 (by omega);simp only [Nat.zero_add] at hcl0;rw [hcl0] at e1;simp only [List.getElem?_cons_succ,List.getElem?_cons_zero,Option.some.injEq] at e1;rw [List.nodup_append] at hnd1;obtain ⟨ndA,ndB,disAB⟩:=hnd1;obtain ⟨g2,cap2,cs2,f2,hv2,hg2,hs2,hg2f,hnd2,hl2,hcs2,hr2,step2⟩:=hfv.through ndB hF.at_j;obtain ⟨rfl,rfl⟩:=slice_eq (e1.trans hv2);obtain ⟨cv,rfl,ok2,ok3,hcv⟩:=hr2;have e2:=hcs2 2 (by omega);simp only [Nat.zero_add] at hcell;rw [hcell] at e2;simp only [List.getElem?_cons_succ,List.getElem?_cons_zero,Option.some.injEq] at e2;obtain ⟨g3,cap3,hv3,hg3,step3⟩:=hcv.store2 hnd2 hck;obtain ⟨rfl,rfl⟩:=slice_eq (e2.trans hv3);simp only [Nat.zero_add];generalize hW:(w.setCell ⟨gc,i * 2,none⟩ pv).setCell ⟨gc,i * 2+1,none⟩ bv=W
 have hoth:∀ a,a≠gc→W.heap[a]?=w.heap[a]?:=fun a ha=>by rw [← hW,Below.heap_setCell _ _ _ _ ha,Below.heap_setCell _ _ _ _ ha]
 have m3:gc ∈ fb:=hs2 gc hg3;have mf:gc ∈ fp:=hs1 gc (List.mem_append_right _ m3);have dq:∀ a ∈ fq,a≠gc:=fun a ha e=>hd a ha (e ▸ mf);have hkq:KeepOn fq w W:=fun a ha=>hoth a (dq a ha)
 have hfirst:FirstAt ms q k j i m f c:=⟨hF.at_k,hF.nm,hone k m hF.at_k hF.nm,hF.at_j,by
  have:=List.find?_some hF.first
  exact this,hF.before,hck,hci⟩
 obtain ⟨fp3,r3,n3,s3⟩:=step3 (OCl W (OEx W d)) c' pv bv fq (OCls.keep hc hkq) hfq (fun a ha hm=>hd a ha (hs1 a (List.mem_append_right _ (hs2 a hm)))) (fun cs y fy hg hr=>OCls.keep hr (fun a ha=>hoth a (fun e=>hg (e ▸ ha))));rw [hW] at r3;obtain ⟨fp2,r2,n2,s2⟩:=step2 W (OFn W d) ⟨f.name,f.arity,f.clauses.set i c'⟩ fp3 fq gc hg3 hoth ⟨cv,rfl,ok2,ok3,r3⟩ n3 s3 (fun a ha hm=>hd a ha (hs1 a (List.mem_append_right _ hm))) (fun cs y fy hg hr=>hr.keep (fun a ha=>hoth a (fun e=>hg (e ▸ ha))));have na:gc ∉ fa:=fun hm=>disAB gc hm gc m3 rfl
 have nn:(fa ++ fp2).Nodup:=by
  rw [List.nodup_append];refine ⟨ndA,n2,fun a ha b hb e=>?_⟩;subst e
  rcases s2 a hb with h' | h'
  · exact disAB a ha a h' rfl
  · exact hd a h' (hs1 a (List.mem_append_left _ ha))
 obtain ⟨fp1,r1,n1,s1⟩:=step1 W (OMd W d) ⟨m.name,m.exports,m.funs.set j ⟨f.name,f.arity,f.clauses.set i c'⟩⟩ (fa ++ fp2) fq gc (List.mem_append_right _ m3) hoth
  ⟨ev,fv,fa,fp2,rfl,rfl,ok1,hev.keep (fun a ha=>hoth a (fun e=>na (e ▸ ha))) (fun cs x f _ _ h=>h),r2⟩ nn (fun a ha=>by
   rcases List.mem_append.1 ha with h' | h'
   · exact .inl (List.mem_append_left _ h')
   · rcases s2 a h' with h2 | h2
     · exact .inl (List.mem_append_right _ h2)
     · exact .inr h2) hd (fun cs y fy hg hr=>hr.keep (fun a ha=>hoth a (fun e=>hg (e ▸ ha))))
 exact ⟨mf,k,j,i,m,f,hfirst,fp1,r1,n1,s1⟩
theorem orows_plain {α:Type} {w:World} {e:TypeId} {c:Nat} {R:List Value→α→List Nat→Prop} {v:Value} {xs:List α} {fp:List Nat} (h:ORows w e c R v xs fp) (hR:∀ cs x f,R cs x f→∀ a ∈ f,PlainAt w a):∀ a ∈ fp,PlainAt w a:=by
 rcases h with ⟨_,rfl,_⟩ | ⟨hne,cells,g,cap',fps,ho,hv',hl,rfl,hat⟩
 · intro a ha;simp at ha
 · intro a ha
   rcases List.mem_cons.1 ha with rfl | ha
   · rcases ho.2 with hn | ⟨g',cap2,cur,hv2,hb,hg,hr⟩
     · rw [hn.1] at hv';cases hv'
     · have:g'=a:=by rw [hv'] at hv2;simp at hv2;exact hv2.1.symm
       subst this;exact ⟨cur,e,hg⟩
   · obtain ⟨f,hf,ha⟩:=List.mem_flatten.1 ha
     obtain ⟨i,hi,rfl⟩:=List.mem_iff_getElem.1 hf;obtain ⟨cs,_,_,hr⟩:=hat i (xs[i]'(by rw [← hl];exact hi)) _ (List.getElem?_eq_getElem _) (List.getElem?_eq_getElem hi);exact hR _ _ _ hr a ha
theorem OCl.plain' {w:World} {O:List Value→Ex→List Nat→Prop} {cs:List Value} {c:Cl} {fp:List Nat} (h:OCl w O cs c fp) (hO:∀ cs x f,O cs x f→∀ a ∈ f,PlainAt w a):∀ a ∈ fp,PlainAt w a:=by
 obtain ⟨pv,bv,f1,f2,rfl,rfl,h1,h2⟩:=h;intro a ha
 rcases List.mem_append.1 ha with ha | ha
 · exact orows_plain h1 hO a ha
 · exact orows_plain h2 hO a ha
theorem OEx.plain {w:World}:∀ {d:Nat} {cs:List Value} {e:Ex} {fp:List Nat},OEx w d cs e fp→∀ a ∈ fp,PlainAt w a
 | 0,_,_,_,h=>h.elim
 | d+1,cs,e,fp,h=>by
  obtain ⟨kv,cv,f1,f2,rfl,rfl,h1,h2,h3,h4,hr,hc⟩:=h;intro a ha
  rcases List.mem_append.1 ha with ha | ha
  · exact orows_plain hr (fun cs x f h=>h.plain) a ha
  · exact orows_plain hc (fun cs x f h=>h.plain' (fun cs x f h=>h.plain)) a ha
theorem OFn.plain {w:World} {d:Nat} {cs:List Value} {f:Fn'} {fp:List Nat} (h:OFn w d cs f fp):∀ a ∈ fp,PlainAt w a:=by
 obtain ⟨cv,rfl,h1,h2,h3⟩:=h;exact orows_plain h3 (fun cs x f h=>h.plain' (fun cs x f h=>h.plain))
theorem OMd.plain {w:World} {d:Nat} {cs:List Value} {m:Md} {fp:List Nat} (h:OMd w d cs m fp):∀ a ∈ fp,PlainAt w a:=by
 obtain ⟨ev,fv,f1,f2,rfl,rfl,h1,h2,h3⟩:=h;intro a ha
 rcases List.mem_append.1 ha with ha | ha
 · exact orows_plain h2 (fun cs x f h=>by rw [h.2];simp) a ha
 · exact orows_plain h3 (fun cs x f h=>h.plain) a ha
theorem mods_plain {w:World} {d:Nat} {v:Value} {ms:List Md} {fp:List Nat} (h:ORows w 63 3 (OMd w d) v ms fp):∀ a ∈ fp,PlainAt w a:=orows_plain h (fun cs x f h=>h.plain)
theorem mods_lt {w:World} {d:Nat} {v:Value} {ms:List Md} {fp:List Nat} (h:ORows w 63 3 (OMd w d) v ms fp):∀ a ∈ fp,a<w.heap.size:=h.lt (fun cs x f h=>h.lt)
theorem mods_tree {w:World} {d:Nat} {v:Value} {ms:List Md} {fp:List Nat} {S:Nat→Prop} (h:ORows w 63 3 (OMd w d) v ms fp) (hS:∀ a ∈ fp,S a):Rows w S 3 (HMd w S d) v ms:=h.rows hS (fun cs x f _ hs h=>h.tree (fun a ha=>hS a (hs a ha)))
theorem mods_keep {w w':World} {d:Nat} {v:Value} {ms:List Md} {fp:List Nat} (h:ORows w 63 3 (OMd w d) v ms fp) (hk:KeepOn fp w w'):ORows w' 63 3 (OMd w' d) v ms fp:=h.keep hk (fun cs x f _ hs h=>h.keep (hk.sub hs))
theorem wtS_map {α:Type} (g:α→α) (f:α→Nat) (b:Nat) (hb:∀ x,1+f (g x)≤b * (1+f x)):∀ xs:List α,wtS f (xs.map g)≤b * wtS f xs
 | []=>by simp [wtS]
 | x :: xs=>by
  have h1:=wtS_map g f b hb xs;have h2:=hb x;have h3:wtS f (x :: xs)=(1+f x)+wtS f xs:=(by simp [wtS];omega);have h4:wtS f ((x :: xs).map g)=(1+f (g x))+wtS f (xs.map g):=(by simp [wtS];omega);rw [h3,h4,Nat.mul_add];omega
theorem ftV_size (sf st:ByteArray) (k:Int) (t m:ByteArray) (n:Nat) (hs:st.size≤10):(ftV sf st k t m n).size≤t.size+10:=by
 unfold ftV;split <;> omega
theorem mapX_wt (sf st:ByteArray) (hs:st.size≤10):∀ (d:Nat) (x:Ex),wtEx d (mapX (fT (ftV sf st)) d x)≤10+11 * wtEx d x
 | 0,_=>by simp [wtEx]
 | d+1,.mk k n t m ks cs=>by
  have hx:∀ y,1+wtEx d (mapX (fT (ftV sf st)) d y)≤11 * (1+wtEx d y):=fun y=>by have:=mapX_wt sf st hs d y;omega
  have h1:=wtS_map (mapX (fT (ftV sf st)) d) (wtEx d) 11 hx ks
  have h2:=wtS_map (mapC (fT (ftV sf st)) d) (wtCl (wtEx d)) 11 (fun c=>by
   have a1:=wtS_map (mapX (fT (ftV sf st)) d) (wtEx d) 11 hx c.1;have a2:=wtS_map (mapX (fT (ftV sf st)) d) (wtEx d) 11 hx c.2;have a3:wtCl (wtEx d) (mapC (fT (ftV sf st)) d c)=wtS (wtEx d) (c.1.map (mapX (fT (ftV sf st)) d))+wtS (wtEx d) (c.2.map (mapX (fT (ftV sf st)) d)):=rfl;have a4:wtCl (wtEx d) c=wtS (wtEx d) c.1+wtS (wtEx d) c.2:=rfl
   rw [a3,a4];omega) cs
  have h3:wtEx (d+1) (mapX (fT (ftV sf st)) (d+1) (.mk k n t m ks cs))=(ftV sf st k t m (ks.map (mapX (fT (ftV sf st)) d)).length).size+m.size+wtS (wtEx d) (ks.map (mapX (fT (ftV sf st)) d))+wtS (wtCl (wtEx d)) (cs.map (mapC (fT (ftV sf st)) d)):=rfl;have h4:wtEx (d+1) (.mk k n t m ks cs)=t.size+m.size+wtS (wtEx d) ks+wtS (wtCl (wtEx d)) cs:=rfl;have h5:=ftV_size sf st k t m (ks.map (mapX (fT (ftV sf st)) d)).length hs;rw [h3,h4];omega
theorem mapC_wt (sf st:ByteArray) (hs:st.size≤10) (d:Nat) (c:Cl):wtCl (wtEx d) (mapC (fT (ftV sf st)) d c)≤11 * wtCl (wtEx d) c:=by
 have hx:∀ y,1+wtEx d (mapX (fT (ftV sf st)) d y)≤11 * (1+wtEx d y):=fun y=>by have:=mapX_wt sf st hs d y;omega
 have a1:=wtS_map (mapX (fT (ftV sf st)) d) (wtEx d) 11 hx c.1;have a2:=wtS_map (mapX (fT (ftV sf st)) d) (wtEx d) 11 hx c.2;have a3:wtCl (wtEx d) (mapC (fT (ftV sf st)) d c)=wtS (wtEx d) (c.1.map (mapX (fT (ftV sf st)) d))+wtS (wtEx d) (c.2.map (mapX (fT (ftV sf st)) d)):=rfl;have a4:wtCl (wtEx d) c=wtS (wtEx d) c.1+wtS (wtEx d) c.2:=rfl;rw [a3,a4];omega
theorem wtS_set {α:Type} (f:α→Nat) (xs:List α) (i:Nat) (x x':α) (hx:xs[i]?=some x):wtS f (xs.set i x')+f x=wtS f xs+f x':=by
 have key:∀ (xs:List α) (i:Nat),xs[i]?=some x→((xs.set i x').map f).sum+f x=(xs.map f).sum+f x':=by
  intro xs
  induction xs with
  | nil=>intro i h;simp at h
  | cons y ys ih =>
   intro i h
   cases i with
   | zero=>simp at h;subst h;simp;omega
   | succ i=>simp at h;have:=ih i h;simp at this ⊢;omega
 have:=key xs i hx;unfold wtS;rw [List.length_set];omega
theorem setCl_wt {d:Nat} {ms:List Md} {q:Pl} {k j i:Nat} {m:Md} {f:Fn'} {c c':Cl} (h:FirstAt ms q k j i m f c) (b:Nat) (hc:wtCl (wtEx d) c'≤wtCl (wtEx d) c+b):wtS (wtMd d) (setCl ms k j i m f c')≤wtS (wtMd d) ms+b:=by
 have h1:=wtS_set (wtCl (wtEx d)) f.clauses i c c' h.at_i;have h2:=wtS_set (wtFn d) m.funs j f ⟨f.name,f.arity,f.clauses.set i c'⟩ h.at_j;have h3:=wtS_set (wtMd d) ms k m ⟨m.name,m.exports,m.funs.set j ⟨f.name,f.arity,f.clauses.set i c'⟩⟩ h.at_k;have e1:wtFn d ⟨f.name,f.arity,f.clauses.set i c'⟩=f.name.size+wtS (wtCl (wtEx d)) (f.clauses.set i c'):=rfl;have e2:wtFn d f=f.name.size+wtS (wtCl (wtEx d)) f.clauses:=rfl;have e3:wtMd d ⟨m.name,m.exports,m.funs.set j ⟨f.name,f.arity,f.clauses.set i c'⟩⟩=m.name.size+wtS wtRf m.exports+wtS (wtFn d) (m.funs.set j ⟨f.name,f.arity,f.clauses.set i c'⟩):=rfl;have e4:wtMd d m=m.name.size+wtS wtRf m.exports+wtS (wtFn d) m.funs:=rfl;unfold setCl;omega
theorem FirstAt.clause {ms:List Md} {q:Pl} {k j i:Nat} {m:Md} {f:Fn'} {c:Cl} (h:FirstAt ms q k j i m f c) {d:Nat}:1+wtCl (wtEx d) c≤wtS (wtMd d) ms:=by
 have h1:=wtS_part (wtCl (wtEx d)) f.clauses i c h.at_i;have h2:=wtS_part (wtFn d) m.funs j f h.at_j;have h3:=wtS_part (wtMd d) ms k m h.at_k;have e2:wtFn d f=f.name.size+wtS (wtCl (wtEx d)) f.clauses:=rfl;have e4:wtMd d m=m.name.size+wtS wtRf m.exports+wtS (wtFn d) m.funs:=rfl;omega
theorem ren_wt {d:Nat} {ms:List Md} {q:Pl} {k j i:Nat} {m:Md} {f:Fn'} {c:Cl} (h:FirstAt ms q k j i m f c) (sf st:ByteArray) (hs:st.size≤10):wtS (wtMd d) (setCl ms k j i m f (mapC (fT (ftV sf st)) d c))≤11 * wtS (wtMd d) ms:=by
 have h1:=mapC_wt sf st hs d c;have h2:=setCl_wt (d:=d) (c':=mapC (fT (ftV sf st)) d c) h (10 * wtCl (wtEx d) c) (by omega);have h3:=h.clause (d:=d);omega
end Go.Proofs.YtdhlonogmnkemaaGreatDoor
namespace Go.Proofs.YtdhlonogmnkemaaGreatDoor
open Go.ChangeShapes Go.WideShapes Go.ChangeAt Go.RowKit Go.Proofs.Tryz
set_option linter.unusedVariables false
set_option maxRecDepth 100000
def finM (d:Nat) (ms0 ms:List Md):List Md × Int:=if goodB d ms=true then (ms,0) else (ms0,6)
def renVar (d:Nat) (ms:List Md) (q:Pl) (sf st:ByteArray):List Md × Int :=
 if renCode d ms q sf st=0 then finM d ms (setAt ms q (mapC (fT (ftV sf st)) d)) else (ms,renCode d ms q sf st)
def EdE (w:World) (d:Nat) (r:List Md × Int) (e:Ending) (w':World):Prop :=
 ∃ u fp,e=.returned (.tuple #[u,.int .i64 r.2])∧ORows w' 63 3 (OMd w' d) u r.1 fp∧fp.Nodup∧(∀ a ∈ fp,w.heap.size≤a∧a<w'.heap.size)∧Bz w w'
theorem finished_any (d:Nat) (w0 w:World) (v0 v:Value) (ms0 ms:List Md) (fp0 fp:List Nat) (hT:Tabs w) (h0:ORows w 63 3 (OMd w d) v0 ms0 fp0) (h:ORows w 63 3 (OMd w d) v ms fp) (hnd:fp.Nodup) (hrg:∀ a ∈ fp,w0.heap.size≤a) (hb0:Bz w0 w)
 (hw0:wtS (wtMd d) ms0≤16777216) (hw:wtS (wtMd d) ms≤16777216) :
 Calls prog 33 #[v0,v] w fun e w'=>EdE w0 d (finM d ms0 ms) e w':=by
 have HTAB:=hid hT;have H0:=hid h0;have H:=hid h;have HND:Hid (fp.Nodup∧∀ a ∈ fp,w0.heap.size≤a):=⟨hnd,hrg⟩;have HB0:=hid hb0;have HW0:=hid hw0;have HW:=hid hw;obtain ⟨p0,c0,rfl,-⟩:=h0.shape;obtain ⟨p1,c1,rfl,-⟩:=h.shape;clear hT h0 h hnd hrg hb0 hw0 hw;go_enter func33,ntmps33;go_wp2_with fail;refine (implGood_any d w _ ms HTAB.out (mods_tree H.out (fun _ _=>trivial)) HW.out).mono ?_;rintro e w2 ⟨rfl,hb⟩;have B2:=hid hb;have BB:=hid (HB0.out.trans (hb.mono HB0.out.size));have O2:=hid (mods_keep H.out (KeepOn.below hb (mods_lt H.out)));have O0:=hid (mods_keep H0.out (KeepOn.below hb (mods_lt H0.out)));clear hb
 cases hG:goodB d ms with
 | true =>
  have FIN:Hid (EdE w0 d (finM d ms0 ms) (.returned (.tuple #[.slice p1 ms.length c1,.int .i64 0])) w2):=by
   show EdE _ _ _ _ _;rw [finM,hG,if_pos rfl];exact ⟨_,fp,rfl,O2.out,HND.out.1,fun a ha=>⟨HND.out.2 a ha,mods_lt O2.out a ha⟩,BB.out⟩
  clear hG;go_wp2_with fail;exact bodyPost_ret (v:=.tuple #[.slice p1 ms.length c1,.int .i64 0]) (by simp [results,results33,go_sem]) rfl FIN.out
 | false =>
  have HG:=hid hG;clear hG;go_wp2_with fail;refine (copyProgram_any d w2 (· ∈ fp0) _ ms0 (mods_tree O0.out (fun a ha=>ha)) (fun g hg=>⟨mods_lt O0.out g hg,mods_plain O0.out g hg⟩) HW0.out).mono ?_;rintro e w3 ⟨u,fq,rfl,ho,hnd,hrg,hb⟩;obtain ⟨pu,cu,rfl,-⟩:=ho.shape
  have FIN:Hid (EdE w0 d (finM d ms0 ms) (.returned (.tuple #[.slice pu ms0.length cu,.int .i64 6])) w3):=by
   show EdE _ _ _ _ _;rw [finM,HG.out,if_neg (by simp)];exact ⟨_,fq,rfl,ho,hnd,fun a ha=>⟨by have:=(hrg a ha).1;have:=BB.out.size;omega,(hrg a ha).2⟩,BB.out.trans (hb.mono BB.out.size)⟩
  clear ho hnd hrg hb;go_wp2_with fail;exact bodyPost_ret (v:=.tuple #[.slice pu ms0.length cu,.int .i64 6]) (by simp [results,results33,go_sem]) rfl FIN.out
theorem clp_rows {d:Nat} {ms:List Md} {q:Pl} {v:Value} {w:World} {gc o:Nat} {c:Cl} {S:Nat→Prop} (hP:ClP d ms q v w gc o c) (hr:Rows w S 3 (HMd w S d) v ms):∃ p1 n1 c1 p2 n2 c2,w.cell? ⟨gc,o,none⟩=some (.slice p1 n1 c1)∧w.cell? ⟨gc,o+1,none⟩=some (.slice p2 n2 c2)∧HCl w S (HEx w S d) [.slice p1 n1 c1,.slice p2 n2 c2] c:=by
 obtain ⟨gf,og,k,j,m,f,hF,i,oc,cc,hci,hck,hgc,hcell,rfl,-⟩:=hP;obtain ⟨g0,off0,cap0,of,cf,rfl,hcl0,rfl⟩:=hF.lies;obtain ⟨p,cap,hv,-,-,hx⟩:=hr;obtain ⟨g,off,hp,-,-,hat⟩:=hx (by intro e;have:=hF.at_k;rw [e] at this;simp at this);simp only [Value.slice.injEq] at hv;rw [hp] at hv;simp only [Option.some.injEq,Addr.mk.injEq] at hv;obtain ⟨⟨rfl,rfl,-⟩,-⟩:=hv;obtain ⟨cs,-,hcs,ev,fv,rfl,-,-,hfs⟩:=hat k m hF.at_k;have e1:=hcs 2 (by omega);rw [hcl0] at e1;simp only [List.getElem?_cons_succ,List.getElem?_cons_zero,Option.some.injEq] at e1;subst e1;obtain ⟨p',cap',hv',-,-,hx'⟩:=hfs;obtain ⟨g',off',hp',-,-,hat'⟩:=hx' (by intro e;have:=hF.at_j;rw [e] at this;simp at this);simp only [Value.slice.injEq] at hv';rw [hp'] at hv';simp only [Option.some.injEq,Addr.mk.injEq] at hv';obtain ⟨⟨rfl,rfl,-⟩,-⟩:=hv';obtain ⟨cs2,-,hcs2,cv,rfl,-,-,hcv⟩:=hat' j f hF.at_j;have e2:=hcs2 2 (by omega);rw [hcell] at e2;simp only [List.getElem?_cons_succ,List.getElem?_cons_zero,Option.some.injEq] at e2;subst e2;obtain ⟨p3,cap3,hv3,-,-,hx3⟩:=hcv;obtain ⟨g3,off3,hp3,-,-,hat3⟩:=hx3 (by intro e;rw [e] at hck;simp at hck);simp only [Value.slice.injEq] at hv3;rw [hp3] at hv3;simp only [Option.some.injEq,Addr.mk.injEq] at hv3;obtain ⟨⟨rfl,rfl,-⟩,-⟩:=hv3;obtain ⟨cs3,-,hcs3,hcl⟩:=hat3 i c hck;have hcl2:=hcl;obtain ⟨pv,bv,rfl,⟨pa,ca,rfl,-⟩,⟨pb,cb,rfl,-⟩⟩:=hcl2;obtain ⟨a0,a1⟩:=sqC2 hcs3 (by omega);clear hcs3;exact ⟨_,_,_,_,_,_,by simpa using a0,by simpa using a1,hcl⟩
theorem ClP.later {d:Nat} {ms:List Md} {q:Pl} {v:Value} {w w':World} {gc o:Nat} {c:Cl} (hP:ClP d ms q v w gc o c) (hb:Bz w w'):ClP d ms q v w' gc o c:=by
 obtain ⟨gf,og,k,j,m,f,hF,i,oc,cc,hci,hck,hgc,hcell,rfl,cs,l1,l2,l3⟩:=hP;exact ⟨gf,og,k,j,m,f,hF.next hb,i,oc,cc,hci,hck,Nat.lt_of_lt_of_le hgc hb.size,cell_next hb hcell,rfl,cs,l1,fun i' hi'=>(hb.cell (p:=⟨gc,_,none⟩) hgc).trans (l2 i' hi'),l3.mono (sqO hb) (fun _ h=>h) (fun _ _ h=>h.mono (sqO hb) (fun _ h=>h))⟩
theorem renCode_ok {d:Nat} {ms:List Md} {q:Pl} {sf st:ByteArray} (h:renCode d ms q sf st=0):goodB d ms=true∧pgOk d ms=true∧varB st=true∧∃ c,clauseOf ms q=some c:=by
 unfold renCode at h
 split at h
 · cases h
 · rename_i hg
   have hg':goodB d ms=true:=(by simpa using hg);have hp:pgOk d ms=true:=(by unfold goodB at hg';simp only [Bool.and_eq_true] at hg';exact hg'.1)
   split at h
   · cases h
   · rename_i hs
     split at h
     · cases h
     · rename_i hv
       refine ⟨hg',hp,by simpa using hv,?_⟩;unfold varsAt at hs;rw [if_pos hp] at hs
       cases hc:clauseOf ms q with
       | none=>rw [hc] at hs;simp [hasT] at hs
       | some c=>exact ⟨c,rfl⟩
theorem one_first {d:Nat} {ms:List Md} (h:pgOk d ms=true) (s:ByteArray):∀ k m,ms[k]?=some m→named s m=true→(ms.take k).any (named s)=false:=by
 intro k m hk hn;rw [List.any_eq_false];intro y hy hq;obtain ⟨j,hj⟩:=List.mem_iff_getElem?.1 hy;rw [List.getElem?_take] at hj
 split at hj
 · rename_i hjk
   have h1:=pgOk_less h hjk hj hk;have e1:y.name.toList=s.toList:=(by simpa [named] using hq);have e2:m.name.toList=s.toList:=(by simpa [named] using hn);rw [e1,e2,less_self] at h1
   cases h1
 · cases hj
theorem varB_size {s:ByteArray} (h:varB s=true):s.size≤10:=by
 unfold varB nameB at h;simp only [Bool.and_eq_true,decide_eq_true_eq] at h;omega
def lawW:Nat:=2 ^ 20
theorem lawW_le:11 * lawW≤16777216:=by decide
theorem clp_first {d:Nat} {ms:List Md} {q:Pl} {v:Value} {w:World} {gc o:Nat} {c:Cl} (hP:ClP d ms q v w gc o c) (hone:∀ k m,ms[k]?=some m→named q.mod m=true→(ms.take k).any (named q.mod)=false):∃ k j i m f,FirstAt ms q k j i m f c:=by
 obtain ⟨gf,og,k,j,m,f,hF,i,oc,cc,hci,hck,hgc,hcell,rfl,-⟩:=hP
 exact ⟨k,j,i,m,f,hF.at_k,hF.nm,hone k m hF.at_k hF.nm,hF.at_j,by
  have:=List.find?_some hF.first
  exact this,hF.before,hck,hci⟩
theorem renClause_at (d:Nat) (w w6 w7:World) (v:Value) (ms:List Md) (q:Pl) (sf st:ByteArray) (fp1:List Nat) (gc o:Nat) (c:Cl) (pa pb:Option Addr) (na ca nb cb:Nat)
 (hO:ORows w6 63 3 (OMd w6 d) v ms fp1) (hnd:fp1.Nodup) (hr:∀ a ∈ fp1,w.heap.size+3≤a∧a<w6.heap.size) (hP:ClP d ms q v w6 gc o c) (hpg:pgOk d ms=true) (hs:varB st=true) (hW:11 * wtS (wtMd d) ms≤16777216)
 (hcl:HCl w6 (· ∈ fp1) (HEx w6 (· ∈ fp1) d) [.slice pa na ca,.slice pb nb cb] c) (hf:Blk w6 (w.heap.size+1) #[.string sf] 9) (ht:Blk w6 (w.heap.size+2) #[.string st] 9) (a0:w6.cell? ⟨gc,o,none⟩=some (.slice pa na ca)) (a1:w6.cell? ⟨gc,o+1,none⟩=some (.slice pb nb cb))
 (hb:Bz w6 w7) (hm:MapSt w7 (w6.heap.size+1) #[]) (hs7:w7.heap.size=w6.heap.size+2) (hB:Bz w w6) :
 Calls prog 32 #[.agg #[.func (.func 31) #[] #[.pointer (some ⟨w.heap.size+1,0,none⟩),.pointer (some ⟨w.heap.size+2,0,none⟩)],.map (some (w6.heap.size+1))],.agg #[.slice pa na ca,.slice pb nb cb]] w7 fun e w8 =>
  ∃ p1 n1 q1 p2 n2 q2,e=.returned (.agg #[.slice p1 n1 q1,.slice p2 n2 q2])∧w8.cell? ⟨gc,o,none⟩=some (.slice pa na ca)∧w8.cell? ⟨gc,o+1,none⟩=some (.slice pb nb cb)∧w8.frozen? ⟨gc,o,none⟩=false∧w8.frozen? ⟨gc,o+1,none⟩=false ∧
   Hid (∃ fp',ORows ((w8.setCell ⟨gc,o,none⟩ (.slice p1 n1 q1)).setCell ⟨gc,o+1,none⟩ (.slice p2 n2 q2)) 63 3 (OMd ((w8.setCell ⟨gc,o,none⟩ (.slice p1 n1 q1)).setCell ⟨gc,o+1,none⟩ (.slice p2 n2 q2)) d) v (setAt ms q (mapC (fT (ftV sf st)) d)) fp'∧fp'.Nodup∧(∀ a ∈ fp',w.heap.size≤a)∧wtS (wtMd d) (setAt ms q (mapC (fT (ftV sf st)) d))≤16777216 ∧
    Bz w ((w8.setCell ⟨gc,o,none⟩ (.slice p1 n1 q1)).setCell ⟨gc,o+1,none⟩ (.slice p2 n2 q2))):=by
 have hst:okS st:=by have:=varB_size hs;unfold okS maxLen;omega
 have hwt:wtCl (wtEx d) c≤16777216:=by
  obtain ⟨k,j,i,m,f,hF⟩:=clp_first hP (one_first hpg q.mod);have:=hF.clause (d:=d);omega
 have CLS:=RemV.clause (chgV (w6.heap.size+2) (w6.heap.size+1) (w.heap.size+1) (w.heap.size+2) sf st) (fun k t m n h=>ftV_ok hst h) d;unfold RemV.ClR RemV.RV at CLS;have hsm:SameOn (· ∈ fp1) w6 w7:=sqO hb;have hcl7:HCl w7 (· ∈ fp1) (HEx w7 (· ∈ fp1) d) [.slice pa na ca,.slice pb nb cb] c:=hcl.mono hsm (fun _ h=>h) (fun _ _ h=>h.mono hsm (fun _ h=>h));have hwl:=ht.lt
 have hctx:Ctx (CapV (w6.heap.size+2) (w6.heap.size+1) (w.heap.size+1) (w.heap.size+2) sf st) w7 (w6.heap.size+2) (w6.heap.size+1) (· ∈ fp1) #[] (SizeOf.sizeOf c):=by
  refine ⟨fun g hg=>?_,hm,KeysIn.none _ _ _,by omega,by omega,hf.next hb,ht.next hb,by omega,by omega,by omega,by omega⟩;have h1:=hr g hg;obtain ⟨cs,t,h2⟩:=mods_plain hO g hg;exact ⟨by omega,by omega,cs,t,(hb.block g h1.2).trans h2⟩
 refine (CLS w7 (w6.heap.size+2) (w6.heap.size+1) (· ∈ fp1) #[] (SizeOf.sizeOf c) _ c (capV _ _ _ _ _ _) hctx hcl7 (sqR _) hwt).mono ?_;rintro e w8 ⟨u,fq,rfl,⟨cs',rfl,hx⟩,hqn,hqr,hof,-⟩;obtain ⟨p1,n1,q1,p2,n2,q2,rfl⟩:=OCls.shape hx;have hb8:Bz w6 w8:=hb.trans (hof.below hb.size (by omega));have hO8:=mods_keep hO (KeepOn.below hb8 (mods_lt hO));have hP8:=hP.later hb8
 have hdis:∀ a ∈ fq,a ∉ fp1:=fun a ha hm=>by have:=(hqr a ha).1;have:=(hr a hm).2;omega
 obtain ⟨hgc,k,j,i,m,f,hF,fp',ho,hn',hsub⟩:=prog_set hO8 hnd hP8 (pgOk_one hpg) (one_first hpg q.mod) hx hqn hdis;have hg:=hr gc hgc;have hset:=hF.set (mapC (fT (ftV sf st)) d);obtain ⟨cs0,t0,h0⟩:=mods_plain hO8 gc hgc;have hB8:Bz w w8:=hB.trans (hb8.mono hB.size);refine ⟨p1,n1,q1,p2,n2,q2,rfl,(hb8.cell (p:=⟨gc,o,none⟩) hg.2).trans a0,(hb8.cell (p:=⟨gc,o+1,none⟩) hg.2).trans a1,Blk.frozen (cs:=cs0) (t:=t0) h0 _,Blk.frozen (cs:=cs0) (t:=t0) h0 _,fp',by rw [hset];exact ho,hn',fun a ha=>?_,by rw [hset];have:=ren_wt (d:=d) hF sf st (varB_size hs);omega,(hB8.setCell (p:=⟨gc,o,none⟩) (by show _≤gc;omega) _).setCell (p:=⟨gc,o+1,none⟩) (by show _≤gc;omega) _⟩
 rcases hsub a ha with h | h
 · have:=(hr a h).1;omega
 · have:=(hqr a h).1;omega
theorem implRenameVar_any (d:Nat) (w:World) (v:Value) (ms:List Md) (q:Pl) (sf st:ByteArray) (fp0:List Nat) (hT:Tabs w) (h:ORows w 63 3 (OMd w d) v ms fp0) (hw:wtS (wtMd d) ms≤lawW) (hst:st.size≤maxLen) :
 Calls prog 10 #[v,.agg #[.string q.mod,.string q.name,.int .i64 q.arity,.int .i64 q.clause],.string sf,.string st] w fun e w'=>EdE w d (renVar d ms q sf st) e w':=by
 have HTAB:=hid hT;have H0:Hid (∀ w',Bz w w'→ORows w' 63 3 (OMd w' d) v ms fp0):=fun w' hb=>mods_keep h (KeepOn.below hb (mods_lt h));have HW:=hid (Nat.le_trans hw (Nat.le_trans (by unfold lawW;decide) lawW_le));have HW2:=hid (Nat.le_trans (Nat.mul_le_mul_left _ hw) lawW_le);have HST:=hid hst;obtain ⟨p0,c0,rfl,-⟩:=h.shape;obtain ⟨W3,hW3⟩:∃ W3,W3=((w.alloc (.cells #[.string q.mod,.string q.name,.int .i64 q.arity,.int .i64 q.clause] 31)).alloc (.cells #[.string sf] 9)).alloc (.cells #[.string st] 9):=⟨_,rfl⟩;have HW3:=hid hW3;have B3:Hid (Bz w W3):=(by show Below _ _ _;rw [hW3];exact (((sqN _ _)).alloc (by simp) _).alloc (by simp only [alloc_hs];omega) _);have S3:Hid (W3.heap.size=w.heap.size+3):=(by show _=_;rw [hW3,alloc_hs,alloc_hs,alloc_hs]);have q3:Hid (Blk W3 w.heap.size #[.string q.mod,.string q.name,.int .i64 q.arity,.int .i64 q.clause] 31):=(by show Blk _ _ _ _;rw [hW3];exact Blk.new.alloc.alloc)
 have f3:Hid (Blk W3 (w.heap.size+1) #[.string sf] 9):=by
  have:=Blk.new (w:=w.alloc (.cells #[.string q.mod,.string q.name,.int .i64 q.arity,.int .i64 q.clause] 31)) (cs:=#[.string sf]) (t:=9);rw [alloc_hs] at this;show Blk _ _ _ _;rw [hW3];exact this.alloc
 have t3:Hid (Blk W3 (w.heap.size+2) #[.string st] 9):=by
  have:=Blk.new (w:=(w.alloc (.cells #[.string q.mod,.string q.name,.int .i64 q.arity,.int .i64 q.clause] 31)).alloc (.cells #[.string sf] 9)) (cs:=#[.string st]) (t:=9);rw [alloc_hs,alloc_hs] at this;show Blk _ _ _ _;rw [hW3];exact this
 have CC:=hid (renameVarCode_any d W3 _ ms q sf st (HTAB.out.below B3.out) (mods_tree (H0.out _ B3.out) (fun _ _=>trivial)) HW.out HST.out);have HRV:Hid (renVar d ms q sf st=if renCode d ms q sf st=0 then finM d ms (setAt ms q (mapC (fT (ftV sf st)) d)) else (ms,renCode d ms q sf st)):=rfl;have HRC:Hid (renCode d ms q sf st=0→goodB d ms=true∧pgOk d ms=true∧varB st=true∧∃ c,clauseOf ms q=some c):=renCode_ok;obtain ⟨y0,y1,y2,y3⟩:=sqB4 q3.out;have x0:=f3.out.cell 0 _ rfl;have z0:=t3.out.cell 0 _ rfl;clear hW3 hT h hw hst;generalize hRR:renVar d ms q sf st=RR at *;clear hRR;go_enter func10,ntmps10;go_wp2_with fail;rw [← HW3.out];refine CC.out.mono ?_;rintro e w4 ⟨rfl,hb⟩;have K4:=hid hb;have B4:=hid (B3.out.trans (hb.mono B3.out.size));have q4:=hid (q3.out.next hb);have f4:=hid (f3.out.next hb);have t4:=hid (t3.out.next hb);have CP:=hid (copyProgram_any d w4 (· ∈ fp0) _ ms (mods_tree (H0.out _ B4.out) (fun a ha=>ha)) (fun g hg=>⟨mods_lt (H0.out _ B4.out) g hg,mods_plain (H0.out _ B4.out) g hg⟩) HW.out);clear hb y0 y1 y2 y3 x0 z0 CC;by_cases hz:renCode d ms q sf st=0
 · obtain ⟨hg,hp,hvb,c,hc⟩:=HRC.out hz
   have HX:Hid (RR=finM d ms (setAt ms q (mapC (fT (ftV sf st)) d))):=(by show _=_;rw [HRV.out,if_pos hz]);have HPG:=hid hp;have HVB:=hid hvb;have HCL:=hid hc;rw [hz];clear hg hp hvb hc hz HRC HRV;go_wp2_with fail;refine CP.out.mono ?_;rintro e w5 ⟨u5,fp1,rfl,ho5,hnd5,hrg5,hb5⟩;obtain ⟨p1,c1,hu5,-⟩:=ho5.shape;subst hu5;have O5:=hid ho5;have ND5:Hid (fp1.Nodup∧∀ a ∈ fp1,w4.heap.size≤a∧a<w5.heap.size):=⟨hnd5,hrg5⟩;have B5:=hid (B4.out.trans (hb5.mono B4.out.size));have q5:=hid (q4.out.next hb5);have f5:=hid (f4.out.next hb5);have t5:=hid (t4.out.next hb5);have S45:=hid hb5.size;obtain ⟨y0,y1,y2,y3⟩:=sqB4 q5.out;clear ho5 hnd5 hrg5 hb5;go_wp2_with fail;refine (clauseAt_any d w5 _ ms q (mods_tree O5.out (fun _ _=>trivial)) (pgOk_one HPG.out)).mono ?_;rintro e w6 ⟨hq6,hb6⟩;have K6:=hid hb6;have B6:=hid (B5.out.trans (hb6.mono B5.out.size));have O6:=hid (mods_keep O5.out (KeepOn.below hb6 (mods_lt O5.out)));have f6:=hid (f5.out.next hb6);have t6:=hid (t5.out.next hb6);clear hb6 y0 y1 y2 y3
   rcases hq6 with ⟨rfl,hno⟩ | ⟨gc,o,c',rfl,hc',hP6⟩
   · rw [HCL.out] at hno
     cases hno
   have ec:c'=c:=Option.some.inj (hc'.symm.trans HCL.out);subst ec;have P6:=hid hP6;obtain ⟨pa,na,ca,pb,nb,cb,a0,a1,hcl6⟩:=clp_rows hP6 (mods_tree O6.out (S:=(· ∈ fp1)) (fun a ha=>ha));have A0:Hid (w6.cell? ⟨gc,o,none⟩=some (.slice pa na ca)∧w6.cell? ⟨gc,o+1,none⟩=some (.slice pb nb cb)):=⟨a0,a1⟩;have HC6:=hid hcl6
   have CL:Hid (∀ w7,Bz w6 w7→MapSt w7 (w6.heap.size+1) #[]→w7.heap.size=w6.heap.size+2→Calls prog 32 #[.agg #[.func (.func 31) #[] #[.pointer (some ⟨w.heap.size+1,0,none⟩),.pointer (some ⟨w.heap.size+2,0,none⟩)],.map (some (w6.heap.size+1))],.agg #[.slice pa na ca,.slice pb nb cb]] w7 fun e w8 =>
    ∃ p2 n2 q2 p3 n3 q3,e=.returned (.agg #[.slice p2 n2 q2,.slice p3 n3 q3])∧w8.cell? ⟨gc,o,none⟩=some (.slice pa na ca)∧w8.cell? ⟨gc,o+1,none⟩=some (.slice pb nb cb)∧w8.frozen? ⟨gc,o,none⟩=false∧w8.frozen? ⟨gc,o+1,none⟩=false ∧
     Hid (∃ fp',ORows ((w8.setCell ⟨gc,o,none⟩ (.slice p2 n2 q2)).setCell ⟨gc,o+1,none⟩ (.slice p3 n3 q3)) 63 3 (OMd ((w8.setCell ⟨gc,o,none⟩ (.slice p2 n2 q2)).setCell ⟨gc,o+1,none⟩ (.slice p3 n3 q3)) d) (.slice p1 ms.length c1) (setAt ms q (mapC (fT (ftV sf st)) d)) fp'∧fp'.Nodup∧(∀ a ∈ fp',w.heap.size≤a)∧wtS (wtMd d) (setAt ms q (mapC (fT (ftV sf st)) d))≤16777216 ∧
      Bz w ((w8.setCell ⟨gc,o,none⟩ (.slice p2 n2 q2)).setCell ⟨gc,o+1,none⟩ (.slice p3 n3 q3)))):=fun w7 hb hm hs=>renClause_at d w w6 w7 _ ms q sf st fp1 gc o c' pa pb na ca nb cb O6.out ND5.out.1 (fun a ha=>⟨by have:=(ND5.out.2 a ha).1;have:=S3.out;have:=K4.out.size;omega,by have:=(ND5.out.2 a ha).2;have:=K6.out.size;omega⟩) P6.out HPG.out HVB.out HW2.out HC6.out f6.out t6.out A0.out.1 A0.out.2 hb hm hs B6.out
   clear hc' hP6 a0 a1 hcl6;go_wp2_with fail;have a0:=A0.out.1;have a1:=A0.out.2
   go_region_law
    (first
     | (go_simp;go_at_call 30;refine (remake_any _ _ _ _).mono ?_;rintro e w7 ⟨rfl,hm7,hb,hs7⟩;have M7:=hid hm7;have K7:Hid (Bz w6 w7):=(by first | exact hb | exact ⟨hb.os,hb.tape,hb.output,hb.size,hb.block⟩);have S7:=hid hs7;have e0:=cell_next K7.out a0;have e1:=cell_next K7.out a1;clear hm7 hs7 hb;dsimp only)
     | (go_simp;go_at_call 32;refine (CL.out w7 K7.out M7.out S7.out).mono ?_;rintro e w8 ⟨p2,n2,q2,p3,n3,q3,rfl,i0,i1,j0,j1,h9⟩;dsimp only))
   all_goals
    obtain ⟨fp9,o9,nd9,rg9,wt9,b9⟩:=h9.out;have FIN:=finished_any d w _ (.slice p0 ms.length c0) (.slice p1 ms.length c1) ms (setAt ms q (mapC (fT (ftV sf st)) d)) fp0 fp9 (HTAB.out.below b9) (H0.out _ b9) o9 nd9 rg9 b9 HW.out wt9;rw [← HX.out] at FIN;have HFIN:=hid FIN;clear o9 nd9 rg9 wt9 b9 FIN h9 a0 a1 e0 e1 i0 i1 j0 j1;go_wp2_with fail;refine HFIN.out.mono ?_;rintro e w10 ⟨u,fpz,rfl,hz⟩;have HZ:Hid (EdE w d RR (.returned (.tuple #[u,.int .i64 RR.2])) w10):=⟨u,fpz,rfl,hz⟩;obtain ⟨pz,cz,hpz,-⟩:=hz.1.shape;subst hpz;clear hz;go_wp2_with fail;exact bodyPost_ret (v:=.tuple #[_,.int .i64 RR.2]) (by simp [results,results10,go_sem]) rfl HZ.out
 · have HX:Hid (RR=(ms,renCode d ms q sf st)):=by show _=_;rw [HRV.out,if_neg hz]
   generalize renCode d ms q sf st=rc at *;go_wp2_with fail;refine CP.out.mono ?_;rintro e w5 ⟨u,fp,rfl,ho,hnd,hrg,hb⟩;obtain ⟨pu,cu,rfl,-⟩:=ho.shape
   have FIN:Hid (EdE w d RR (.returned (.tuple #[.slice pu ms.length cu,.int .i64 rc])) w5):=by
    show EdE _ _ _ _ _;rw [HX.out];exact ⟨_,fp,rfl,ho,hnd,fun a ha=>⟨by have:=(hrg a ha).1;have:=B4.out.size;omega,(hrg a ha).2⟩,B4.out.trans (hb.mono B4.out.size)⟩
   clear ho hnd hrg hb;go_wp2_with fail;exact bodyPost_ret (v:=.tuple #[.slice pu ms.length cu,.int .i64 rc]) (by simp [results,results10,go_sem]) rfl FIN.out
theorem prog_at {w:World} {d:Nat} {ms:List Md} {q:Pl} {v:Value} {fp:List Nat} {k j i:Nat} {m:Md} {f:Fn'} {c:Cl} (h:ORows w 63 3 (OMd w d) v ms fp) (hnd:fp.Nodup) (hF:FirstAt ms q k j i m f c) (hff:m.funs.find? (sameR ⟨q.name,q.arity⟩)=some f) :
 ∃ g0 c0 gf cf gc cc,v=.slice (some ⟨g0,0,none⟩) ms.length c0∧w.cell? ⟨g0,k * 3+2,none⟩=some (.slice (some ⟨gf,0,none⟩) m.funs.length cf)∧w.cell? ⟨gf,j * 3+2,none⟩=some (.slice (some ⟨gc,0,none⟩) f.clauses.length cc)∧g0 ∈ fp∧gf ∈ fp∧gc ∈ fp∧g0≠gc∧gf≠gc∧ClP d ms q v w gc (i * 2) c:=by
 obtain ⟨g0,c0,cs1,f1,hv,hg0,hs1,hg0f,hnd1,hl1,hcs1,hr1,-⟩:=h.through hnd hF.at_k;obtain ⟨ev,fv,fa,fb,rfl,rfl,ok1,hev,hfv⟩:=hr1;have e1:=hcs1 2 (by omega);simp only [List.getElem?_cons_succ,List.getElem?_cons_zero] at e1;rw [List.nodup_append] at hnd1;obtain ⟨ndA,ndB,disAB⟩:=hnd1;obtain ⟨gf,cf,cs2,f2,hv2,hgf,hs2,hgff,hnd2,hl2,hcs2,hr2,-⟩:=hfv.through ndB hF.at_j;have HFn:HFn w All d cs2 f:=hr2.tree (fun _ _=>trivial);obtain ⟨cv,rfl,ok2,ok3,hcv⟩:=hr2;have e2:=hcs2 2 (by omega);simp only [List.getElem?_cons_succ,List.getElem?_cons_zero] at e2;obtain ⟨gc,cc,cs3,f3,hv3,hgc,hs3,hgcf,hnd3,hl3,hcs3,hr3,-⟩:=hcv.through hnd2 hF.at_i;subst hv2;subst hv3;have m2:gf ∈ fa ++ fb:=List.mem_append_right _ hgf;have m3:gc ∈ fa ++ fb:=List.mem_append_right _ (hs2 gc hgc);have glt:gf<w.heap.size:=mods_lt h gf (hs1 gf m2);have gclt:gc<w.heap.size:=mods_lt h gc (hs1 gc m3);refine ⟨g0,c0,gf,cf,gc,cc,hv,e1,e2,hg0,hs1 gf m2,hs1 gc m3,fun e=>hg0f (e ▸ m3),fun e=>hgff (e ▸ hgc),gf,j * 3,k,j,m,f,⟨hF.at_k,hF.nm,hF.at_j,hff,hF.bj,glt,⟨g0,0,c0,0,cf,hv,by rw [Nat.zero_add];exact e1,by rw [Nat.zero_add]⟩,⟨_,rfl,fun t ht=>hcs2 t ht,HFn⟩⟩,i,0,cc,hF.ci,hF.at_i,gclt,e2,by rw [Nat.zero_add],cs3,hl3,fun t ht=>hcs3 t ht,OCls.tree hr3 (fun _ _=>trivial)⟩
theorem renClauseS_at (d:Nat) (w w6 w7:World) (v fv tv:Value) (ms:List Md) (q:Pl) (sf st:ByteArray) (fp1:List Nat) (gc i:Nat) (c:Cl) (pv bv:Value)
 (hO:ORows w6 63 3 (OMd w6 d) v ms fp1) (hnd:fp1.Nodup) (hr:∀ a ∈ fp1,w.heap.size≤a∧a<w6.heap.size) (hP:ClP d ms q v w6 gc (i * 2) c) (hpg:pgOk d ms=true) (hs:varB st=true) (hW:11 * wtS (wtMd d) ms≤16777216)
 (hcl:HCl w7 All (HEx w7 All d) [pv,bv] c) (hcap:CapL w7 fv tv [sf] [st])
 (hb:Bz w6 w7) (hB:Bz w w6) :
 Calls prog 24 #[.agg #[pv,bv],fv,tv] w7 fun e w8 =>
  ∃ p1 n1 q1 p2 n2 q2 x0 x1,e=.returned (.agg #[.slice p1 n1 q1,.slice p2 n2 q2])∧w8.cell? ⟨gc,i * 2,none⟩=some x0∧w8.cell? ⟨gc,i * 2+1,none⟩=some x1∧w8.frozen? ⟨gc,i * 2,none⟩=false∧w8.frozen? ⟨gc,i * 2+1,none⟩=false∧Hid (Bz w7 w8) ∧
   Hid (∃ fp',ORows ((w8.setCell ⟨gc,i * 2,none⟩ (.slice p1 n1 q1)).setCell ⟨gc,i * 2+1,none⟩ (.slice p2 n2 q2)) 63 3 (OMd ((w8.setCell ⟨gc,i * 2,none⟩ (.slice p1 n1 q1)).setCell ⟨gc,i * 2+1,none⟩ (.slice p2 n2 q2)) d) v (setAt ms q (mapC (fT (ftV sf st)) d)) fp'∧fp'.Nodup∧(∀ a ∈ fp',w.heap.size≤a)∧wtS (wtMd d) (setAt ms q (mapC (fT (ftV sf st)) d))≤16777216 ∧
    Bz w ((w8.setCell ⟨gc,i * 2,none⟩ (.slice p1 n1 q1)).setCell ⟨gc,i * 2+1,none⟩ (.slice p2 n2 q2))):=by
 have hwt:wtCl (wtEx d) c≤16777216:=by
  obtain ⟨k,j,i,m,f,hF⟩:=clp_first hP (one_first hpg q.mod);have:=hF.clause (d:=d);omega
 have CL:=CpV.clause (fv:=fv) (tv:=tv) (fs:=[sf]) (ts:=[st]) d w7 [pv,bv] c hcap hcl hwt;rw [ftL_one] at CL;refine CL.mono ?_;rintro e w8 ⟨u,fq,rfl,⟨cs',rfl,hx⟩,hqn,hqr,hb8'⟩;obtain ⟨p1,n1,q1,p2,n2,q2,rfl⟩:=OCls.shape hx;have hb8:Bz w6 w8:=hb.trans (hb8'.mono hb.size);have hO8:=mods_keep hO (KeepOn.below hb8 (mods_lt hO));have hP8:=hP.later hb8
 have hdis:∀ a ∈ fq,a ∉ fp1:=fun a ha hm=>by have:=(hqr a ha).1;have:=(hr a hm).2;have:=hb.size;omega
 obtain ⟨hgc,k,j,i',m,f,hF,fp',ho,hn',hsub⟩:=prog_set hO8 hnd hP8 (pgOk_one hpg) (one_first hpg q.mod) hx hqn hdis;have hg:=hr gc hgc;have hset:=hF.set (mapC (fT (ftV sf st)) d);obtain ⟨cs0,t0,h0⟩:=mods_plain hO8 gc hgc;have hB8:Bz w w8:=hB.trans (hb8.mono hB.size);obtain ⟨p1',n1',c1',p2',n2',c2',a0,a1,-⟩:=clp_rows hP8 (mods_tree hO8 (S:=(· ∈ fp1)) (fun a ha=>ha));refine ⟨p1,n1,q1,p2,n2,q2,_,_,rfl,a0,a1,Blk.frozen (cs:=cs0) (t:=t0) h0 _,Blk.frozen (cs:=cs0) (t:=t0) h0 _,hb8',fp',by rw [hset];exact ho,hn',fun a ha=>?_,by rw [hset];have:=ren_wt (d:=d) hF sf st (varB_size hs);omega,(hB8.setCell (p:=⟨gc,i * 2,none⟩) (by show _≤gc;omega) _).setCell (p:=⟨gc,i * 2+1,none⟩) (by show _≤gc;omega) _⟩
 rcases hsub a ha with h | h
 · exact (hr a h).1
 · have:=(hqr a h).1;have:=hb.size;have:=hB.size;omega
theorem l07Done_any (d:Nat) (w0 w:World) (v0 v:Value) (ms0 ms:List Md) (fp:List Nat) (h0:Rows w All 3 (HMd w All d) v0 ms0) (h:ORows w 63 3 (OMd w d) v ms fp) (hnd:fp.Nodup) (hrg:∀ a ∈ fp,w0.heap.size≤a) (hb0:Bz w0 w)
 (hw0:wtS (wtMd d) ms0≤16777216) (hw:wtS (wtMd d) ms≤16777216) :
 Calls prog 25 #[v0,v] w fun e w'=>EdE w0 d (finM d ms0 ms) e w':=by
 have H0:=hid h0;have H:=hid h;have HND:Hid (fp.Nodup∧∀ a ∈ fp,w0.heap.size≤a):=⟨hnd,hrg⟩;have HB0:=hid hb0;have HW0:=hid hw0;have HW:=hid hw;obtain ⟨p0,c0,rfl,-⟩:=h0;obtain ⟨p1,c1,rfl,-⟩:=h.shape;clear h hnd hrg hb0 hw0 hw;go_enter func25,ntmps25;go_wp2_with fail;refine (specGood_any d w _ ms (mods_tree H.out (fun _ _=>trivial)) HW.out).mono ?_;rintro e w2 ⟨rfl,hb⟩;have BB:=hid (HB0.out.trans (hb.mono HB0.out.size));have O2:=hid (mods_keep H.out (KeepOn.below hb (mods_lt H.out)));have O0:=hid (H0.out.mono (sqO hb) (fun _ h=>h) (fun _ _ _ h=>h.mono (sqO hb) (fun _ h=>h)));clear hb
 cases hG:goodB d ms with
 | true =>
  have FIN:Hid (EdE w0 d (finM d ms0 ms) (.returned (.tuple #[.slice p1 ms.length c1,.int .i64 0])) w2):=by
   show EdE _ _ _ _ _;rw [finM,hG,if_pos rfl];exact ⟨_,fp,rfl,O2.out,HND.out.1,fun a ha=>⟨HND.out.2 a ha,mods_lt O2.out a ha⟩,BB.out⟩
  clear hG;go_wp2_with fail;exact bodyPost_ret (v:=.tuple #[.slice p1 ms.length c1,.int .i64 0]) (by simp [results,results25,go_sem]) rfl FIN.out
 | false =>
  have HG:=hid hG;clear hG;go_wp2_with fail;refine (l07Copy_any d w2 _ ms0 O0.out HW0.out).mono ?_;rintro e w3 ⟨u,fq,rfl,ho,hnd,hrg,hb⟩;obtain ⟨pu,cu,rfl,-⟩:=ho.shape
  have FIN:Hid (EdE w0 d (finM d ms0 ms) (.returned (.tuple #[.slice pu ms0.length cu,.int .i64 6])) w3):=by
   show EdE _ _ _ _ _;rw [finM,HG.out,if_neg (by simp)];exact ⟨_,fq,rfl,ho,hnd,fun a ha=>⟨by have:=(hrg a ha).1;have:=BB.out.size;omega,(hrg a ha).2⟩,BB.out.trans (hb.mono BB.out.size)⟩
  clear ho hnd hrg hb;go_wp2_with fail;exact bodyPost_ret (v:=.tuple #[.slice pu ms0.length cu,.int .i64 6]) (by simp [results,results25,go_sem]) rfl FIN.out
theorem strR_one {w:World} {g:Nat} {s:ByteArray} (h:Blk w g #[.string s] 9) (hs:okS s):StrR w (.slice (some ⟨g,0,none⟩) 1 1) [s]:=by
 refine ⟨_,1,rfl,Nat.le_refl _,by unfold maxLen;omega,fun _=>⟨g,0,rfl,trivial,h.lt,fun i x hi=>?_⟩⟩
 cases i with
 | succ i=>simp at hi
 | zero =>
  simp at hi;subst hi;refine ⟨[.string s],rfl,fun j hj=>?_,rfl,hs⟩;obtain rfl:j=0:=(by omega);exact h.cell 0 _ rfl
theorem specRenameVar_any (d:Nat) (w:World) (v:Value) (ms:List Md) (q:Pl) (sf st:ByteArray) (h:Rows w All 3 (HMd w All d) v ms) (hw:wtS (wtMd d) ms≤lawW) (hst:okS st) (hsf:okS sf) :
 Calls prog 7 #[v,.agg #[.string q.mod,.string q.name,.int .i64 q.arity,.int .i64 q.clause],.string sf,.string st] w fun e w'=>EdE w d (renVar d ms q sf st) e w':=by
 obtain ⟨qm,qn,qa,qc⟩:=q;simp only at *;have HR:Hid (∀ w',Bz w w'→Rows w' All 3 (HMd w' All d) v ms):=fun w' hw=>h.mono (sqO hw) (fun _ h=>h) (fun _ _ _ h=>h.mono (sqO hw) (fun _ h=>h));have HW:=hid (Nat.le_trans hw (Nat.le_trans (by unfold lawW;decide) lawW_le));have HW2:=hid (Nat.le_trans (Nat.mul_le_mul_left _ hw) lawW_le);have HST:Hid (okS st∧okS sf):=⟨hst,hsf⟩;obtain ⟨W1,hW1⟩:∃ W1,W1=w.alloc (.cells #[.string qm,.string qn,.int .i64 qa,.int .i64 qc] 31):=⟨_,rfl⟩;have bA:Hid (Blk W1 w.heap.size #[.string qm,.string qn,.int .i64 qa,.int .i64 qc] 31):=(by show Blk _ _ _ _;rw [hW1];exact Blk.new);have B1:Hid (Bz w W1):=(by show Below _ _ _;rw [hW1];exact (sqN _ _));have S1:Hid (W1.heap.size=w.heap.size+1):=(by show _=_;rw [hW1,alloc_hs]);have HW1:=hid hW1;have HRV:Hid (renVar d ms ⟨qm,qn,qa,qc⟩ sf st=if renCode d ms ⟨qm,qn,qa,qc⟩ sf st=0 then finM d ms (setAt ms ⟨qm,qn,qa,qc⟩ (mapC (fT (ftV sf st)) d)) else (ms,renCode d ms ⟨qm,qn,qa,qc⟩ sf st)):=rfl;have HRC:Hid (renCode d ms ⟨qm,qn,qa,qc⟩ sf st=if goodB d ms=false then 1 else if hasT (varsAt d ms ⟨qm,qn,qa,qc⟩) sf=false then 2 else if varB st=false then 3 else if hasT (varsAt d ms ⟨qm,qn,qa,qc⟩) st=true then 4 else 0):=rfl
 have HV:Hid (goodB d ms=true→pgOk d ms=true∧varsAt d ms ⟨qm,qn,qa,qc⟩=(match clauseOf ms ⟨qm,qn,qa,qc⟩ with | none=>[] | some c=>sortS (clauseVars d c))):=fun hg=>by
  have hp:pgOk d ms=true:=(by unfold goodB at hg;simp only [Bool.and_eq_true] at hg;exact hg.1);refine ⟨hp,?_⟩;unfold varsAt;rw [if_pos hp];rfl
 have HLV:Hid (∀ s ∈ varsAt d ms ⟨qm,qn,qa,qc⟩,okS s):=varsAt_ok h _;obtain ⟨p,cap,rfl,-⟩:=h;generalize hRR:renVar d ms ⟨qm,qn,qa,qc⟩ sf st=RR at *;clear hRR hW1 hw hst hsf;go_enter func7,ntmps7;go_wp2_with fail;rw [← HW1.out];refine (l07Copy_any d W1 _ ms (HR.out _ B1.out) HW.out).mono ?_;rintro e w2 ⟨u,fpo,rfl,ho,hnd,hrg,hb⟩;obtain ⟨po,co,hu,-⟩:=ho.shape;subst hu;have B2:=hid (B1.out.trans (hb.mono B1.out.size));have b2:=hid (bA.out.next hb);have O2:=hid ho;have NDO:Hid (fpo.Nodup∧∀ a ∈ fpo,w.heap.size+1≤a∧a<w2.heap.size):=⟨hnd,fun a ha=>⟨by have:=(hrg a ha).1;have:=S1.out;omega,(hrg a ha).2⟩⟩;obtain ⟨y0,y1,y2,y3⟩:=sqB4 b2.out;clear ho hnd hrg hb;go_wp2_with fail;refine (l07Clause_any d w2 _ ms ⟨qm,qn,qa,qc⟩ (HR.out _ B2.out)).mono ?_;rintro e w3 ⟨⟨pv,bv,ok,rfl,hr⟩,hb⟩;have HCR:=hid hr;have B3:=hid (B2.out.trans (hb.mono B2.out.size));have b3:=hid (b2.out.next hb);have L3:=hid hb
 have HSH:Hid (∃ p1 n1 c1 p2 n2 c2,pv=.slice p1 n1 c1∧bv=.slice p2 n2 c2):=by
  rcases hr with ⟨_,_,he⟩ | ⟨_,c,_,hc⟩
  · simp at he
    exact ⟨_,_,_,_,_,_,he.1,he.2⟩
  · obtain ⟨p',b',he,⟨p1,c1,h1,-⟩,⟨p2,c2,h2,-⟩⟩:=hc
    simp at he;exact ⟨_,_,_,_,_,_,he.1.trans h1,he.2.trans h2⟩
 obtain ⟨p1,n1,c1,p2,n2,c2,rfl,rfl⟩:=HSH.out;obtain ⟨W4,hW4⟩:∃ W4,W4=w3.alloc (.cells #[.slice p1 n1 c1,.slice p2 n2 c2] 46):=⟨_,rfl⟩;have HW4:=hid hW4;have K4:Hid (Bz w3 W4):=(by show Below _ _ _;rw [hW4];exact (sqN _ _));have B4:=hid (B3.out.trans (K4.out.mono B3.out.size));have bC:Hid (Blk W4 w3.heap.size #[.slice p1 n1 c1,.slice p2 n2 c2] 46):=(by show Blk _ _ _ _;rw [hW4];exact Blk.new);clear hr hb y0 y1 y2 y3 HSH hW4 HW1;go_wp2_with (first | (rw [← HW4.out];go_at_call 19;fail));rw [← HW4.out];refine (specGood_any d W4 _ ms (HR.out _ B4.out) HW.out).mono ?_;rintro e w5 ⟨rfl,hb5⟩;have K5:=hid (L3.out.trans ((K4.out.mono L3.out.size).trans (hb5.mono (Nat.le_trans L3.out.size K4.out.size))));have B5:=hid (B4.out.trans (hb5.mono B4.out.size));have O5:=hid (mods_keep O2.out (KeepOn.below K5.out (mods_lt O2.out)));have c5:=hid (bC.out.next hb5);have b5:Hid (Blk w5 w.heap.size #[.string qm,.string qn,.int .i64 qa,.int .i64 qc] 31):=(b3.out.next K4.out).next hb5;have L5:=hid (K4.out.trans (hb5.mono K4.out.size));clear hb5
 cases hG:goodB d ms with
 | false =>
  have HX:Hid (RR=(ms,1)):=(by show _=_;rw [HRV.out,HRC.out,hG];rfl);clear hG
  have FIN:Hid (EdE w d RR (.returned (.tuple #[.slice po ms.length co,.int .i64 1])) w5):=by
   show EdE _ _ _ _ _;rw [HX.out];exact ⟨_,fpo,rfl,O5.out,NDO.out.1,fun a ha=>⟨by have:=(NDO.out.2 a ha).1;omega,mods_lt O5.out a ha⟩,B5.out⟩
  go_wp2_with fail;exact bodyPost_ret (v:=.tuple #[.slice po ms.length co,.int .i64 1]) (by simp [results,results7,go_sem]) rfl FIN.out
 | true =>
  obtain ⟨hpg,hva⟩:=HV.out hG;have HG:Hid (goodB d ms=true∧pgOk d ms=true):=⟨hG,hpg⟩;have HVA:=hid hva;clear hG hpg hva HV
  rcases HCR.out with ⟨rfl,hno,-⟩ | ⟨rfl,c,hc,hcl⟩
  · have HX:Hid (RR=(ms,2)):=by
     show _=_;have e1:varsAt d ms ⟨qm,qn,qa,qc⟩ = []:=(by rw [HVA.out,hno]);rw [HRV.out,HRC.out,HG.out.1,e1];rfl
    clear hno HCR
    have FIN:Hid (EdE w d RR (.returned (.tuple #[.slice po ms.length co,.int .i64 2])) w5):=by
     show EdE _ _ _ _ _;rw [HX.out];exact ⟨_,fpo,rfl,O5.out,NDO.out.1,fun a ha=>⟨by have:=(NDO.out.2 a ha).1;omega,mods_lt O5.out a ha⟩,B5.out⟩
    go_wp2_with fail;exact bodyPost_ret (v:=.tuple #[.slice po ms.length co,.int .i64 2]) (by simp [results,results7,go_sem]) rfl FIN.out
  · have HC:=hid hc
    have HVS:Hid (varsAt d ms ⟨qm,qn,qa,qc⟩=sortS (clauseVars d c)):=(by show _=_;rw [HVA.out,hc]);have HCL:Hid (∀ w',Bz w3 w'→HCl w' All (HEx w' All d) [.slice p1 n1 c1,.slice p2 n2 c2] c):=fun w' hw=>hcl.mono (sqO hw) (fun _ h=>h) (fun _ _ h=>h.mono (sqO hw) (fun _ h=>h));have HWC:=hid (Nat.le_trans (clauseOf_wt1 hc) HW.out);clear hc hcl HCR;obtain ⟨z0,z1⟩:=sqB2 c5.out;go_wp2_with fail;refine (l07Vars_any d w5 _ c (HCL.out _ L5.out) HWC.out).mono ?_;rintro e w6 ⟨u6,rfl,ho6,hb6⟩;have T6:=hid (ho6.strR (by rw [← HVS.out];exact HLV.out));have CS:=hid (hasS_any w6 u6 _ sf T6.out);have K6:=hid (K5.out.trans (hb6.mono K5.out.size));have B6:=hid (B5.out.trans (hb6.mono B5.out.size));have O6:=hid (mods_keep O2.out (KeepOn.below K6.out (mods_lt O2.out)));have c6:=hid (c5.out.next hb6);have b6:=hid (b5.out.next hb6);have L6:=hid (L5.out.trans (hb6.mono L5.out.size));have CV:=hid (specVarOk_any st w6 HST.out.1);obtain ⟨pu6,cu6,hu6,-⟩:=T6.out;subst hu6;generalize (sortS (clauseVars d c)).length=nv at *
    have HRC2:Hid (renCode d ms ⟨qm,qn,qa,qc⟩ sf st=if hasS (sortS (clauseVars d c)) sf=false then 2 else if varB st=false then 3 else if hasS (sortS (clauseVars d c)) st=true then 4 else 0):=by
     show _=_;rw [HRC.out,HG.out.1,HVS.out,hasT_S,hasT_S];rfl
    clear ho6 hb6 z0 z1 c5 b5 K5 B5 O5 T6;go_wp2_with fail;refine CS.out.mono ?_;rintro e w7 ⟨rfl,rfl⟩
    cases h1:hasS (sortS (clauseVars d c)) sf with
    | false =>
     have HX:Hid (RR=(ms,2)):=(by show _=_;rw [HRV.out,HRC2.out,h1];rfl);clear h1
     have FIN:Hid (EdE w d RR (.returned (.tuple #[.slice po ms.length co,.int .i64 2])) w7):=by
      show EdE _ _ _ _ _;rw [HX.out];exact ⟨_,fpo,rfl,O6.out,NDO.out.1,fun a ha=>⟨by have:=(NDO.out.2 a ha).1;omega,mods_lt O6.out a ha⟩,B6.out⟩
     go_wp2_with fail;exact bodyPost_ret (v:=.tuple #[.slice po ms.length co,.int .i64 2]) (by simp [results,results7,go_sem]) rfl FIN.out
    | true =>
     have H1:=hid h1;clear h1;go_wp2_with fail;refine CV.out.mono ?_;rintro e w8 ⟨rfl,rfl⟩
     cases h2:varB st with
     | false =>
      have HX:Hid (RR=(ms,3)):=(by show _=_;rw [HRV.out,HRC2.out,H1.out,h2];rfl);clear h2
      have FIN:Hid (EdE w d RR (.returned (.tuple #[.slice po ms.length co,.int .i64 3])) w8):=by
       show EdE _ _ _ _ _;rw [HX.out];exact ⟨_,fpo,rfl,O6.out,NDO.out.1,fun a ha=>⟨by have:=(NDO.out.2 a ha).1;omega,mods_lt O6.out a ha⟩,B6.out⟩
      go_wp2_with fail;exact bodyPost_ret (v:=.tuple #[.slice po ms.length co,.int .i64 3]) (by simp [results,results7,go_sem]) rfl FIN.out
     | true =>
      have H2:=hid h2;obtain ⟨z0,z1⟩:=sqB2 c6.out;clear h2;go_wp2_with fail;refine (l07Vars_any d w8 _ c (HCL.out _ L6.out) HWC.out).mono ?_;rintro e w9 ⟨u9,rfl,ho9,hb9⟩;have T9:=hid (ho9.strR (by rw [← HVS.out];exact HLV.out));have CS9:=hid (hasS_any w9 u9 _ st T9.out);have K9:=hid (K6.out.trans (hb9.mono K6.out.size));have B9:=hid (B6.out.trans (hb9.mono B6.out.size));have O9:=hid (mods_keep O2.out (KeepOn.below K9.out (mods_lt O2.out)));have c9:=hid (c6.out.next hb9);have b9:=hid (b6.out.next hb9);have L9:=hid (L6.out.trans (hb9.mono L6.out.size));obtain ⟨pu9,cu9,hu9,-⟩:=T9.out;subst hu9;generalize (sortS (clauseVars d c)).length=nv9 at *;clear ho9 hb9 z0 z1 c6 b6 K6 B6 O6 T9 CS CV;go_wp2_with fail;refine CS9.out.mono ?_;rintro e w10 ⟨rfl,rfl⟩
      cases h3:hasS (sortS (clauseVars d c)) st with
      | true =>
       have HX:Hid (RR=(ms,4)):=(by show _=_;rw [HRV.out,HRC2.out,H1.out,H2.out,h3];rfl);clear h3
       have FIN:Hid (EdE w d RR (.returned (.tuple #[.slice po ms.length co,.int .i64 4])) w10):=by
        show EdE _ _ _ _ _;rw [HX.out];exact ⟨_,fpo,rfl,O9.out,NDO.out.1,fun a ha=>⟨by have:=(NDO.out.2 a ha).1;omega,mods_lt O9.out a ha⟩,B9.out⟩
       go_wp2_with fail;exact bodyPost_ret (v:=.tuple #[.slice po ms.length co,.int .i64 4]) (by simp [results,results7,go_sem]) rfl FIN.out
      | false =>
       have HX:Hid (RR=finM d ms (setAt ms ⟨qm,qn,qa,qc⟩ (mapC (fT (ftV sf st)) d))):=(by show _=_;rw [HRV.out,HRC2.out,H1.out,H2.out,h3];rfl);obtain ⟨y0,y1,y2,y3⟩:=sqB4 b9.out;clear h3 CS9;go_wp2_with fail;refine (l07Find_any d w10 _ ms ⟨qm,qn,qa,qc⟩ (HR.out _ B9.out)).mono ?_;rintro e w11 ⟨⟨a,b,ok,rfl,hfr⟩,hb11⟩;have K11:=hid (K9.out.trans (hb11.mono K9.out.size));have B11:=hid (B9.out.trans (hb11.mono B9.out.size));have O11:=hid (mods_keep O2.out (KeepOn.below K11.out (mods_lt O2.out)));have c11:=hid (c9.out.next hb11);have b11:=hid (b9.out.next hb11);have L11:=hid (L9.out.trans (hb11.mono L9.out.size));clear hb11 y0 y1 y2 y3
       rcases hfr with ⟨rfl,hno⟩ | ⟨rfl,k,j,m,f,rfl,rfl,hk,hkf,hj,hjf,hbk,hbj⟩
       · have h9:=HC.out
         rw [clauseOf_none hno] at h9
         cases h9
       have hfo:fnOf ms ⟨qm,qn,qa,qc⟩=some f:=by
        have h9:(ms.find? (named qm)).bind (fun m=>m.funs.find? (sameR ⟨qn,qa⟩))=some f:=(by rw [hkf];exact hjf);exact h9
       obtain ⟨i,hqi,hci⟩:∃ i:Nat,qc=i∧f.clauses[i]?=some c:=by
        have h9:=HC.out;unfold clauseOf at h9;rw [hfo] at h9;simp only [Option.bind_some] at h9
        split at h9
        · rename_i hin
          refine ⟨qc.toNat,?_,h9⟩;unfold inB at hin;simp only [decide_eq_true_eq] at hin;omega
        · cases h9
       subst hqi;have HFA:Hid (FirstAt ms ⟨qm,qn,qa,(i:Nat)⟩ k j i m f c):=⟨hk,by have:=List.find?_some hkf;exact this,hbk,hj,by have:=List.find?_some hjf;exact this,hbj,hci,rfl⟩;obtain ⟨g0,c0,gf,cf,gc,cc,hv0,e1,e2,m0,m1,m2,d1,d2,hP⟩:=prog_at O11.out NDO.out.1 HFA.out hjf;simp only [Value.slice.injEq] at hv0;obtain ⟨rfl,-,rfl⟩:=hv0;have HP:=hid hP;have hkl:(k:Int)<(ms.length:Int):=(by have:=(List.getElem?_eq_some_iff.1 hk).1;omega);have hjl:(j:Int)<(m.funs.length:Int):=(by have:=(List.getElem?_eq_some_iff.1 hj).1;omega);have hil:(i:Int)<(f.clauses.length:Int):=(by have:=(List.getElem?_eq_some_iff.1 hci).1;omega);have hk0:=sqI k;have hj0:=sqI j;have hi0:=sqI i;have r0:=NDO.out.2 g0 m0;have r1:=NDO.out.2 gf m1;have r2:=NDO.out.2 gc m2;have l3:=L3.out.size;have l11:=L11.out.size;have lc:=c11.out.lt;have lb:=b11.out.lt;have SS0:Hid (∀ w',Bz w11 w'→w'.cell? ⟨g0,k * 3+2,none⟩=some (.slice (some ⟨gf,0,none⟩) m.funs.length cf)∧w'.cell? ⟨gf,j * 3+2,none⟩=some (.slice (some ⟨gc,0,none⟩) f.clauses.length cc)∧w'.cell? ⟨w.heap.size,3,none⟩=some (.int .i64 (i:Nat))∧w'.cell? ⟨w3.heap.size,0,none⟩=some (.slice p1 n1 c1)∧w'.cell? ⟨w3.heap.size,1,none⟩=some (.slice p2 n2 c2)):=fun w' hb=>⟨cell_next hb e1,cell_next hb e2,cell_next hb (b11.out.cell 3 _ rfl),cell_next hb (c11.out.cell 0 _ rfl),cell_next hb (c11.out.cell 1 _ rfl)⟩
       have SSS:Hid (∀ w',Bz w11 w'→∀ a b,((w'.setCell ⟨gc,i * 2,none⟩ a).setCell ⟨gc,i * 2+1,none⟩ b).cell? ⟨g0,k * 3+2,none⟩=some (.slice (some ⟨gf,0,none⟩) m.funs.length cf)∧((w'.setCell ⟨gc,i * 2,none⟩ a).setCell ⟨gc,i * 2+1,none⟩ b).cell? ⟨gf,j * 3+2,none⟩=some (.slice (some ⟨gc,0,none⟩) f.clauses.length cc)∧((w'.setCell ⟨gc,i * 2,none⟩ a).setCell ⟨gc,i * 2+1,none⟩ b).cell? ⟨w.heap.size,3,none⟩=some (.int .i64 (i:Nat))∧((w'.setCell ⟨gc,i * 2,none⟩ a).setCell ⟨gc,i * 2+1,none⟩ b).cell? ⟨w3.heap.size,0,none⟩=some (.slice p1 n1 c1)∧((w'.setCell ⟨gc,i * 2,none⟩ a).setCell ⟨gc,i * 2+1,none⟩ b).cell? ⟨w3.heap.size,1,none⟩=some (.slice p2 n2 c2)):=fun w' hb a b=>by
        obtain ⟨s0,s1,s2,s3,s4⟩:=SS0.out w' hb
        have hh:∀ g,g≠gc→((w'.setCell ⟨gc,i * 2,none⟩ a).setCell ⟨gc,i * 2+1,none⟩ b).heap[g]?=w'.heap[g]?:=fun g hg=>by rw [Below.heap_setCell _ _ _ _ hg,Below.heap_setCell _ _ _ _ hg]
        exact ⟨(sqK (hh g0 d1)).trans s0,(sqK (hh gf d2)).trans s1,(sqK (hh w.heap.size (by omega))).trans s2,(sqK (hh w3.heap.size (by omega))).trans s3,(sqK (hh w3.heap.size (by omega))).trans s4⟩
       have CL:Hid (∀ w7 fv tv,Bz w11 w7→CapL w7 fv tv [sf] [st]→Calls prog 24 #[.agg #[.slice p1 n1 c1,.slice p2 n2 c2],fv,tv] w7 fun e w8=>∃ x1 y1 z1 x2 y2 z2 e0 e1,e=.returned (.agg #[.slice x1 y1 z1,.slice x2 y2 z2])∧w8.cell? ⟨gc,i * 2,none⟩=some e0∧w8.cell? ⟨gc,i * 2+1,none⟩=some e1∧w8.frozen? ⟨gc,i * 2,none⟩=false∧w8.frozen? ⟨gc,i * 2+1,none⟩=false∧Hid (Bz w7 w8) ∧
        Hid (∃ fp',ORows ((w8.setCell ⟨gc,i * 2,none⟩ (.slice x1 y1 z1)).setCell ⟨gc,i * 2+1,none⟩ (.slice x2 y2 z2)) 63 3 (OMd ((w8.setCell ⟨gc,i * 2,none⟩ (.slice x1 y1 z1)).setCell ⟨gc,i * 2+1,none⟩ (.slice x2 y2 z2)) d) (.slice (some ⟨g0,0,none⟩) ms.length co) (setAt ms ⟨qm,qn,qa,(i:Nat)⟩ (mapC (fT (ftV sf st)) d)) fp'∧fp'.Nodup∧(∀ a ∈ fp',w.heap.size≤a)∧wtS (wtMd d) (setAt ms ⟨qm,qn,qa,(i:Nat)⟩ (mapC (fT (ftV sf st)) d))≤16777216 ∧
         Bz w ((w8.setCell ⟨gc,i * 2,none⟩ (.slice x1 y1 z1)).setCell ⟨gc,i * 2+1,none⟩ (.slice x2 y2 z2)))):=fun w7 fv tv hb hcap=>renClauseS_at d w w11 w7 _ fv tv ms ⟨qm,qn,qa,(i:Nat)⟩ sf st fpo gc i c _ _ O11.out NDO.out.1 (fun a ha=>by have:=NDO.out.2 a ha;have:=K11.out.size;omega) HP.out HG.out.2 H2.out HW2.out (HCL.out _ (L11.out.trans (hb.mono L11.out.size))) hcap hb B11.out
       obtain ⟨X1,hX1⟩:∃ X1,X1=(w11.alloc (.cells #[.string sf] 9)).drew:=⟨_,rfl⟩;obtain ⟨X2,hX2⟩:∃ X2,X2=((w11.alloc (.cells #[.string sf] 9)).alloc (.cells #[.string st] 9)).drew:=⟨_,rfl⟩;obtain ⟨Y1,hY1⟩:∃ Y1,Y1=(w11.alloc (.cells #[.string st] 9)).drew:=⟨_,rfl⟩;obtain ⟨Y2,hY2⟩:∃ Y2,Y2=((w11.alloc (.cells #[.string st] 9)).alloc (.cells #[.string sf] 9)).drew:=⟨_,rfl⟩;have HX1:=hid hX1;have HX2:=hid hX2;have HY1:=hid hY1;have HY2:=hid hY2;have KX1:Hid (Bz w11 X1):=(by show Below _ _ _;rw [hX1];exact ((sqN _ _)).drew);have KX2:Hid (Bz w11 X2):=(by show Below _ _ _;rw [hX2];exact (((sqN _ _)).alloc (by simp) _).drew);have KY1:Hid (Bz w11 Y1):=(by show Below _ _ _;rw [hY1];exact ((sqN _ _)).drew);have KY2:Hid (Bz w11 Y2):=(by show Below _ _ _;rw [hY2];exact (((sqN _ _)).alloc (by simp) _).drew)
       have CX:Hid (CapL X2 (.slice (some ⟨w11.heap.size,0,none⟩) 1 1) (.slice (some ⟨w11.heap.size+1,0,none⟩) 1 1) [sf] [st]):=by
        have h1:Blk X2 w11.heap.size #[.string sf] 9:=by rw [hX2];exact (Blk.new (w:=w11)).alloc
        have h2:Blk X2 (w11.heap.size+1) #[.string st] 9:=by
         have:=Blk.new (w:=w11.alloc (.cells #[.string sf] 9)) (cs:=#[.string st]) (t:=9);rw [alloc_hs] at this;rw [hX2];exact this
        exact ⟨strR_one h1 HST.out.2,strR_one h2 HST.out.1,Nat.le_refl _⟩
       have CY:Hid (CapL Y2 (.slice (some ⟨w11.heap.size+1,0,none⟩) 1 1) (.slice (some ⟨w11.heap.size,0,none⟩) 1 1) [sf] [st]):=by
        have h1:Blk Y2 w11.heap.size #[.string st] 9:=by rw [hY2];exact (Blk.new (w:=w11)).alloc
        have h2:Blk Y2 (w11.heap.size+1) #[.string sf] 9:=by
         have:=Blk.new (w:=w11.alloc (.cells #[.string st] 9)) (cs:=#[.string sf]) (t:=9);rw [alloc_hs] at this;rw [hY2];exact this
        exact ⟨strR_one h2 HST.out.2,strR_one h1 HST.out.1,Nat.le_refl _⟩
       obtain ⟨s0,s1,s2,s3,s4⟩:=SS0.out w11 (Below.refl _ _);clear hX1 hX2 hY1 hY2 hk hkf hj hjf hbk hbj hfo hci e1 e2 m0 m1 m2 d1 d2 hP r0 r1 r2 l3 l11 lc lb;go_wp2_with fail
       go_region_held3 (fun w'=>w'.cell? ⟨g0,k * 3+2,none⟩=some (.slice (some ⟨gf,0,none⟩) m.funs.length cf)∧w'.cell? ⟨gf,j * 3+2,none⟩=some (.slice (some ⟨gc,0,none⟩) f.clauses.length cc)∧w'.cell? ⟨w.heap.size,3,none⟩=some (.int .i64 (i:Nat))∧w'.cell? ⟨w3.heap.size,0,none⟩=some (.slice p1 n1 c1)∧w'.cell? ⟨w3.heap.size,1,none⟩=some (.slice p2 n2 c2))
        (first
         | with_reducible exact SSS.out _ K12.out _ _
         | with_reducible exact SS0.out _ K12.out
         | (rw [← HX2.out];exact SS0.out _ KX2.out)
         | (rw [← HY2.out];exact SS0.out _ KY2.out)
         | (rw [← HX1.out];exact SS0.out _ KX1.out)
         | (rw [← HY1.out];exact SS0.out _ KY1.out)
         | with_reducible exact SS0.out _ (Below.refl _ _).drew)
        (first
         | (go_at_call 24;rw [← HX2.out];refine (CL.out X2 _ _ KX2.out CX.out).mono ?_;rintro e w12 ⟨x1,y1,z1,x2,y2,z2,e0,e1,rfl,t0,t1,t2,t3,hb12,h13⟩;have K12:=hid (KX2.out.trans (hb12.out.mono KX2.out.size)))
         | (go_at_call 24;rw [← HY2.out];refine (CL.out Y2 _ _ KY2.out CY.out).mono ?_;rintro e w12 ⟨x1,y1,z1,x2,y2,z2,e0,e1,rfl,t0,t1,t2,t3,hb12,h13⟩;have K12:=hid (KY2.out.trans (hb12.out.mono KY2.out.size))))
       all_goals
        obtain ⟨fp9,o9,nd9,rg9,wt9,b9'⟩:=h13.out;have FIN:=l07Done_any d w _ (.slice p ms.length cap) (.slice (some ⟨g0,0,none⟩) ms.length co) ms (setAt ms ⟨qm,qn,qa,(i:Nat)⟩ (mapC (fT (ftV sf st)) d)) fp9 (HR.out _ b9') o9 nd9 rg9 b9' HW.out wt9;rw [← HX.out] at FIN;have HFIN:=hid FIN;clear o9 nd9 rg9 wt9 b9' FIN h13 s0 s1 s2 s3 s4 t0 t1 t2 t3;go_split_ands;go_wp2_with fail;refine HFIN.out.mono ?_;rintro e w13 ⟨u,fpz,rfl,hz⟩;have HZ:Hid (EdE w d RR (.returned (.tuple #[u,.int .i64 RR.2])) w13):=⟨u,fpz,rfl,hz⟩;obtain ⟨pz,cz,hpz,-⟩:=hz.1.shape;subst hpz;clear hz;go_wp2_with fail;exact bodyPost_ret (v:=.tuple #[_,.int .i64 RR.2]) (by simp [results,results7,go_sem]) rfl HZ.out
variable {N:Nat}
theorem szExpS_of {d:Nat} (hE:SzC 221 (fun w v e=>∃ cs,v=.agg cs.toArray∧HEx w (fun g=>g<N) d cs e) (wtEx d)) :
 SzC 204 (fun w v es=>Rows w (fun g=>g<N) 6 (HEx w (fun g=>g<N) d) v es) (wtS (wtEx d)):=by
 intro w v es left h hl;obtain ⟨p,cap,rfl,hcl,hcm,hx⟩:=h;generalize hn:es.length=n at *;have HN:=hid hn;have HX:Hid _:=hx;have hnb:=sqM hcl hcm;clear hx hn;by_cases h0:left<n
 · have hr:leftOf left (wtS (wtEx d) es) = -1:=leftOf_lt (by unfold wtS;rw [HN.out];omega)
   have HR:Hid (leftOf left (wtS (wtEx d) es) = -1):=hr;clear hr;go_enter func204,ntmps204;go_wp2;go_ret;exact ⟨by rw [HR.out];rfl,Below.refl _ _⟩
 · go_enter func204,ntmps204
   go_wp2
   go_loopw [1,5] (fun lv iv wr=>∃ k r:Nat,k≤n∧iv=.int .i64 k∧lv=.int .i64 r∧Hid (r+n+((es.take k).map (wtEx d)).sum=left)∧Bz w wr) (fun _ iv _=>n - (intOf iv).toNat)
   case atStart=>exact ⟨0,left - n,Nat.zero_le _,rfl,by go_num,(by show left - n+n+_=left;simp;omega),Below.refl _ _⟩
   case round =>
    obtain ⟨k,r,hk,rfl,rfl,hrs,hb⟩:=hrel;have HB:=hid hb;by_cases hlt:k<n
    · obtain ⟨x,hxk⟩:=sqA (l:=es) (k:=k) HN.out hlt
      obtain ⟨g,off,rfl,hg,hgl,hat⟩:=HX.out (sqE hxk);obtain ⟨cs,hcl6,hcs,hex⟩:=hat k x hxk;have hex':HEx wr (fun g=>g<N) d cs x:=hex.mono (sqO hb) (fun _ h=>h);obtain ⟨c0,c1,c2,c3,c4,c5,rfl⟩:=len6 hcl6;obtain ⟨a0,a1,a2,a3,a4,a5⟩:=sqC6 hcs (by omega);rw [← hb.cell (p:=⟨g,_,none⟩) hgl] at a0 a1 a2 a3 a4 a5;simp at a0 a1 a2 a3 a4 a5;clear hb hcs hat hex hcl6;have hrb:r≤16777216:=(by have:=hrs.out;omega);have hst:=sum_take_succ (wtEx d) es k x hxk;have HST:=hid hst;have hle:=sum_take_le (wtEx d) es (k+1);have HLE:=hid hle;clear hst hle;generalize hwx:wtEx d x=y at *;have HY:=hid hwx;by_cases hy:r<y
      · have hr:leftOf left (wtS (wtEx d) es) = -1:=leftOf_lt (by unfold wtS;have:=hrs.out;have:=HLE.out;have:=HST.out;rw [HN.out];omega)
        have HR:Hid (leftOf left (wtS (wtEx d) es) = -1):=hr;have hr2:leftOf r y = -1:=leftOf_lt hy;clear hr hwx;go_wp2_with (go_at_call 221;go_must (refine (hE _ _ x r ⟨_,rfl,hex'⟩ hrb).mono ?_;rintro e w1 ⟨rfl,hb1⟩;rw [HY.out,hr2];have HB1:Hid _:=hb1;clear hb1));go_ret;exact ⟨by rw [HR.out];rfl,HB.out.trans (HB1.out.mono HB.out.size)⟩
      · have hr2:leftOf r y=((r - y:Nat):Int):=leftOf_ge (by omega)
        clear hwx;go_wp2_with (go_at_call 221;go_must (refine (hE _ _ x r ⟨_,rfl,hex'⟩ hrb).mono ?_;rintro e w1 ⟨rfl,hb1⟩;rw [HY.out,hr2];have HB1:Hid _:=hb1;clear hb1));exact ⟨⟨k+1,r - y,by omega,by go_num,rfl,(by have:=hrs.out;have:=HST.out;show r - y+n+_=left;omega),HB.out.trans (HB1.out.mono HB.out.size)⟩,by simp [intOf];omega⟩
    · have hr:leftOf left (wtS (wtEx d) es)=(r:Int):=by
       have h1:=hrs.out;rw [List.take_of_length_le (by rw [HN.out];omega)] at h1;rw [leftOf_ge (by unfold wtS;rw [HN.out];omega)];unfold wtS;rw [HN.out];omega
      have HR:Hid (leftOf left (wtS (wtEx d) es)=(r:Int)):=hr;clear hr;go_wp2;go_ret;exact ⟨by rw [HR.out];rfl,HB.out⟩
theorem szClauseS_of {d:Nat} (hE:SzC 176 (fun w v e=>∃ cs,v=.agg cs.toArray∧HCl w (fun g=>g<N) (HEx w (fun g=>g<N) d) cs e) (wtCl (wtEx d))) :
 SzC 143 (fun w v es=>Rows w (fun g=>g<N) 2 (HCl w (fun g=>g<N) (HEx w (fun g=>g<N) d)) v es) (wtS (wtCl (wtEx d))):=by
 intro w v es left h hl;obtain ⟨p,cap,rfl,hcl,hcm,hx⟩:=h;generalize hn:es.length=n at *;have HN:=hid hn;have HX:Hid _:=hx;have hnb:=sqM hcl hcm;clear hx hn;by_cases h0:left<n
 · have hr:leftOf left (wtS (wtCl (wtEx d)) es) = -1:=leftOf_lt (by unfold wtS;rw [HN.out];omega)
   have HR:Hid (leftOf left (wtS (wtCl (wtEx d)) es) = -1):=hr;clear hr;go_enter func143,ntmps143;go_wp2;go_ret;exact ⟨by rw [HR.out];rfl,Below.refl _ _⟩
 · go_enter func143,ntmps143
   go_wp2
   go_loopw [1,5] (fun lv iv wr=>∃ k r:Nat,k≤n∧iv=.int .i64 k∧lv=.int .i64 r∧Hid (r+n+((es.take k).map (wtCl (wtEx d))).sum=left)∧Bz w wr) (fun _ iv _=>n - (intOf iv).toNat)
   case atStart=>exact ⟨0,left - n,Nat.zero_le _,rfl,by go_num,(by show left - n+n+_=left;simp;omega),Below.refl _ _⟩
   case round =>
    obtain ⟨k,r,hk,rfl,rfl,hrs,hb⟩:=hrel;have HB:=hid hb;by_cases hlt:k<n
    · obtain ⟨x,hxk⟩:=sqA (l:=es) (k:=k) HN.out hlt
      obtain ⟨g,off,rfl,hg,hgl,hat⟩:=HX.out (sqE hxk);obtain ⟨cs,hcl6,hcs,hex⟩:=hat k x hxk;have hex':HCl wr (fun g=>g<N) (HEx wr (fun g=>g<N) d) cs x:=hex.mono (sqO hb) (fun _ h=>h) (fun _ _=>HEx.mono (sqO hb) (fun _ h=>h));obtain ⟨c0,c1,rfl⟩:=len2 hcl6;obtain ⟨a0,a1⟩:=sqC2 hcs (by omega);rw [← hb.cell (p:=⟨g,_,none⟩) hgl] at a0 a1;simp at a0 a1;clear hb hcs hat hex hcl6;have hrb:r≤16777216:=(by have:=hrs.out;omega);have hst:=sum_take_succ (wtCl (wtEx d)) es k x hxk;have HST:=hid hst;have hle:=sum_take_le (wtCl (wtEx d)) es (k+1);have HLE:=hid hle;clear hst hle;generalize hwx:wtCl (wtEx d) x=y at *;have HY:=hid hwx;by_cases hy:r<y
      · have hr:leftOf left (wtS (wtCl (wtEx d)) es) = -1:=leftOf_lt (by unfold wtS;have:=hrs.out;have:=HLE.out;have:=HST.out;rw [HN.out];omega)
        have HR:Hid (leftOf left (wtS (wtCl (wtEx d)) es) = -1):=hr;have hr2:leftOf r y = -1:=leftOf_lt hy;clear hr hwx;go_wp2_with (go_at_call 176;go_must (refine (hE _ _ x r ⟨_,rfl,hex'⟩ hrb).mono ?_;rintro e w1 ⟨rfl,hb1⟩;rw [HY.out,hr2];have HB1:Hid _:=hb1;clear hb1));go_ret;exact ⟨by rw [HR.out];rfl,HB.out.trans (HB1.out.mono HB.out.size)⟩
      · have hr2:leftOf r y=((r - y:Nat):Int):=leftOf_ge (by omega)
        clear hwx;go_wp2_with (go_at_call 176;go_must (refine (hE _ _ x r ⟨_,rfl,hex'⟩ hrb).mono ?_;rintro e w1 ⟨rfl,hb1⟩;rw [HY.out,hr2];have HB1:Hid _:=hb1;clear hb1));exact ⟨⟨k+1,r - y,by omega,by go_num,rfl,(by have:=hrs.out;have:=HST.out;show r - y+n+_=left;omega),HB.out.trans (HB1.out.mono HB.out.size)⟩,by simp [intOf];omega⟩
    · have hr:leftOf left (wtS (wtCl (wtEx d)) es)=(r:Int):=by
       have h1:=hrs.out;rw [List.take_of_length_le (by rw [HN.out];omega)] at h1;rw [leftOf_ge (by unfold wtS;rw [HN.out];omega)];unfold wtS;rw [HN.out];omega
      have HR:Hid (leftOf left (wtS (wtCl (wtEx d)) es)=(r:Int)):=hr;clear hr;go_wp2;go_ret;exact ⟨by rw [HR.out];rfl,HB.out⟩
theorem szFunS_of {d:Nat} (hE:SzC 99 (fun w v e=>∃ cs,v=.agg cs.toArray∧HFn w (fun g=>g<N) d cs e) (wtFn d)) :
 SzC 53 (fun w v es=>Rows w (fun g=>g<N) 3 (HFn w (fun g=>g<N) d) v es) (wtS (wtFn d)):=by
 intro w v es left h hl;obtain ⟨p,cap,rfl,hcl,hcm,hx⟩:=h;generalize hn:es.length=n at *;have HN:=hid hn;have HX:Hid _:=hx;have hnb:=sqM hcl hcm;clear hx hn;by_cases h0:left<n
 · have hr:leftOf left (wtS (wtFn d) es) = -1:=leftOf_lt (by unfold wtS;rw [HN.out];omega)
   have HR:Hid (leftOf left (wtS (wtFn d) es) = -1):=hr;clear hr;go_enter func53,ntmps53;go_wp2;go_ret;exact ⟨by rw [HR.out];rfl,Below.refl _ _⟩
 · go_enter func53,ntmps53
   go_wp2
   go_loopw [1,5] (fun lv iv wr=>∃ k r:Nat,k≤n∧iv=.int .i64 k∧lv=.int .i64 r∧Hid (r+n+((es.take k).map (wtFn d)).sum=left)∧Bz w wr) (fun _ iv _=>n - (intOf iv).toNat)
   case atStart=>exact ⟨0,left - n,Nat.zero_le _,rfl,by go_num,(by show left - n+n+_=left;simp;omega),Below.refl _ _⟩
   case round =>
    obtain ⟨k,r,hk,rfl,rfl,hrs,hb⟩:=hrel;have HB:=hid hb;by_cases hlt:k<n
    · obtain ⟨x,hxk⟩:=sqA (l:=es) (k:=k) HN.out hlt
      obtain ⟨g,off,rfl,hg,hgl,hat⟩:=HX.out (sqE hxk);obtain ⟨cs,hcl6,hcs,hex⟩:=hat k x hxk;have hex':HFn wr (fun g=>g<N) d cs x:=hex.mono (sqO hb) (fun _ h=>h);obtain ⟨c0,c1,c2,rfl⟩:=len3 hcl6;obtain ⟨a0,a1,a2⟩:=sqC3 hcs (by omega);rw [← hb.cell (p:=⟨g,_,none⟩) hgl] at a0 a1 a2;simp at a0 a1 a2;clear hb hcs hat hex hcl6;have hrb:r≤16777216:=(by have:=hrs.out;omega);have hst:=sum_take_succ (wtFn d) es k x hxk;have HST:=hid hst;have hle:=sum_take_le (wtFn d) es (k+1);have HLE:=hid hle;clear hst hle;generalize hwx:wtFn d x=y at *;have HY:=hid hwx;by_cases hy:r<y
      · have hr:leftOf left (wtS (wtFn d) es) = -1:=leftOf_lt (by unfold wtS;have:=hrs.out;have:=HLE.out;have:=HST.out;rw [HN.out];omega)
        have HR:Hid (leftOf left (wtS (wtFn d) es) = -1):=hr;have hr2:leftOf r y = -1:=leftOf_lt hy;clear hr hwx;go_wp2_with (go_at_call 99;go_must (refine (hE _ _ x r ⟨_,rfl,hex'⟩ hrb).mono ?_;rintro e w1 ⟨rfl,hb1⟩;rw [HY.out,hr2];have HB1:Hid _:=hb1;clear hb1));go_ret;exact ⟨by rw [HR.out];rfl,HB.out.trans (HB1.out.mono HB.out.size)⟩
      · have hr2:leftOf r y=((r - y:Nat):Int):=leftOf_ge (by omega)
        clear hwx;go_wp2_with (go_at_call 99;go_must (refine (hE _ _ x r ⟨_,rfl,hex'⟩ hrb).mono ?_;rintro e w1 ⟨rfl,hb1⟩;rw [HY.out,hr2];have HB1:Hid _:=hb1;clear hb1));exact ⟨⟨k+1,r - y,by omega,by go_num,rfl,(by have:=hrs.out;have:=HST.out;show r - y+n+_=left;omega),HB.out.trans (HB1.out.mono HB.out.size)⟩,by simp [intOf];omega⟩
    · have hr:leftOf left (wtS (wtFn d) es)=(r:Int):=by
       have h1:=hrs.out;rw [List.take_of_length_le (by rw [HN.out];omega)] at h1;rw [leftOf_ge (by unfold wtS;rw [HN.out];omega)];unfold wtS;rw [HN.out];omega
      have HR:Hid (leftOf left (wtS (wtFn d) es)=(r:Int)):=hr;clear hr;go_wp2;go_ret;exact ⟨by rw [HR.out];rfl,HB.out⟩
theorem szRefS_of {d:Nat} (hE:SzC 98 (fun w v e=>∃ cs,v=.agg cs.toArray∧HRf cs e) (wtRf)) :
 SzC 52 (fun w v es=>Rows w (fun g=>g<N) 2 (HRf) v es) (wtS (wtRf)):=by
 intro w v es left h hl;obtain ⟨p,cap,rfl,hcl,hcm,hx⟩:=h;generalize hn:es.length=n at *;have HN:=hid hn;have HX:Hid _:=hx;have hnb:=sqM hcl hcm;clear hx hn;by_cases h0:left<n
 · have hr:leftOf left (wtS (wtRf) es) = -1:=leftOf_lt (by unfold wtS;rw [HN.out];omega)
   have HR:Hid (leftOf left (wtS (wtRf) es) = -1):=hr;clear hr;go_enter func52,ntmps52;go_wp2;go_ret;exact ⟨by rw [HR.out];rfl,Below.refl _ _⟩
 · go_enter func52,ntmps52
   go_wp2
   go_loopw [1,5] (fun lv iv wr=>∃ k r:Nat,k≤n∧iv=.int .i64 k∧lv=.int .i64 r∧Hid (r+n+((es.take k).map (wtRf)).sum=left)∧Bz w wr) (fun _ iv _=>n - (intOf iv).toNat)
   case atStart=>exact ⟨0,left - n,Nat.zero_le _,rfl,by go_num,(by show left - n+n+_=left;simp;omega),Below.refl _ _⟩
   case round =>
    obtain ⟨k,r,hk,rfl,rfl,hrs,hb⟩:=hrel;have HB:=hid hb;by_cases hlt:k<n
    · obtain ⟨x,hxk⟩:=sqA (l:=es) (k:=k) HN.out hlt
      obtain ⟨g,off,rfl,hg,hgl,hat⟩:=HX.out (sqE hxk);obtain ⟨cs,hcl6,hcs,hex⟩:=hat k x hxk;have hex':HRf cs x:=hex;obtain ⟨c0,c1,rfl⟩:=len2 hcl6;obtain ⟨a0,a1⟩:=sqC2 hcs (by omega);rw [← hb.cell (p:=⟨g,_,none⟩) hgl] at a0 a1;simp at a0 a1;clear hb hcs hat hex hcl6;have hrb:r≤16777216:=(by have:=hrs.out;omega);have hst:=sum_take_succ (wtRf) es k x hxk;have HST:=hid hst;have hle:=sum_take_le (wtRf) es (k+1);have HLE:=hid hle;clear hst hle;generalize hwx:wtRf x=y at *;have HY:=hid hwx;by_cases hy:r<y
      · have hr:leftOf left (wtS (wtRf) es) = -1:=leftOf_lt (by unfold wtS;have:=hrs.out;have:=HLE.out;have:=HST.out;rw [HN.out];omega)
        have HR:Hid (leftOf left (wtS (wtRf) es) = -1):=hr;have hr2:leftOf r y = -1:=leftOf_lt hy;clear hr hwx;go_wp2_with (go_at_call 98;go_must (refine (hE _ _ x r ⟨_,rfl,hex'⟩ hrb).mono ?_;rintro e w1 ⟨rfl,hb1⟩;rw [HY.out,hr2];have HB1:Hid _:=hb1;clear hb1));go_ret;exact ⟨by rw [HR.out];rfl,HB.out.trans (HB1.out.mono HB.out.size)⟩
      · have hr2:leftOf r y=((r - y:Nat):Int):=leftOf_ge (by omega)
        clear hwx;go_wp2_with (go_at_call 98;go_must (refine (hE _ _ x r ⟨_,rfl,hex'⟩ hrb).mono ?_;rintro e w1 ⟨rfl,hb1⟩;rw [HY.out,hr2];have HB1:Hid _:=hb1;clear hb1));exact ⟨⟨k+1,r - y,by omega,by go_num,rfl,(by have:=hrs.out;have:=HST.out;show r - y+n+_=left;omega),HB.out.trans (HB1.out.mono HB.out.size)⟩,by simp [intOf];omega⟩
    · have hr:leftOf left (wtS (wtRf) es)=(r:Int):=by
       have h1:=hrs.out;rw [List.take_of_length_le (by rw [HN.out];omega)] at h1;rw [leftOf_ge (by unfold wtS;rw [HN.out];omega)];unfold wtS;rw [HN.out];omega
      have HR:Hid (leftOf left (wtS (wtRf) es)=(r:Int)):=hr;clear hr;go_wp2;go_ret;exact ⟨by rw [HR.out];rfl,HB.out⟩
theorem szExp_of {d:Nat} (h1:SzC 204 (fun w v es=>Rows w (fun g=>g<N) 6 (HEx w (fun g=>g<N) d) v es) (wtS (wtEx d))) (h2:SzC 143 (fun w v es=>Rows w (fun g=>g<N) 2 (HCl w (fun g=>g<N) (HEx w (fun g=>g<N) d)) v es) (wtS (wtCl (wtEx d)))) :
 SzC 221 (fun w v e=>∃ cs,v=.agg cs.toArray∧HEx w (fun g=>g<N) (d+1) cs e) (wtEx (d+1)):=by
 intro w v e left h hl;obtain ⟨cs,rfl,kv,cv,rfl,hk,hn,ht,hm,hks,hcs⟩:=h;have hb0:e.text.size≤9223372036854775807:=(by have:=ht;unfold okS maxLen at this;omega);have hb1:e.mod.size≤9223372036854775807:=(by have:=hm;unfold okS maxLen at this;omega);have hal:SameOn (fun g=>g<N) w (w.alloc (.cells #[.int .i64 e.kind,.int .i64 e.n,.string e.text,.string e.mod,kv,cv] 263)):=sqO ((sqN _ _))
 replace hks:=hks.mono hal (fun _ h=>h) (fun _ _ _=>HEx.mono hal (fun _ h=>h))
 replace hcs:=hcs.mono hal (fun _ h=>h) (fun _ _ _ h=>h.mono hal (fun _ h=>h) (fun _ _=>HEx.mono hal (fun _ h=>h)))
 have HW:Hid (wtEx (d+1) e=e.text.size+e.mod.size+wtS (wtEx d) e.kids+wtS (wtCl (wtEx d)) e.clauses):=rfl;generalize wtEx (d+1) e=W at *;have hx0:∃ x0:Nat,e.text.size=x0:=⟨_,rfl⟩;obtain ⟨x0,hx0⟩:=hx0;rw [hx0] at hb0;have hx1:∃ x1:Nat,e.mod.size=x1:=⟨_,rfl⟩;obtain ⟨x1,hx1⟩:=hx1;rw [hx1] at hb1;generalize hx2:wtS (wtEx d) e.kids=x2 at *;have HX2:=hid hx2;clear hx2;generalize hx3:wtS (wtCl (wtEx d)) e.clauses=x3 at *;have HX3:=hid hx3;clear hx3;by_cases t0:left<x0
 · have HR:Hid (leftOf left W = -1):=by
    have:=HW.out;show leftOf left W=_;exact leftOf_lt (by omega)
   clear HW;go_enter func221,ntmps221;go_wp2;go_ret;exact ⟨by rw [HR.out];first | rfl | (congr 2;omega) | (simp;omega),((sqN _ _))⟩
 by_cases t1:left - x0<x1
 · have HR:Hid (leftOf left W = -1):=by
    have:=HW.out;show leftOf left W=_;exact leftOf_lt (by omega)
   clear HW;go_enter func221,ntmps221;go_wp2;go_ret;exact ⟨by rw [HR.out];first | rfl | (congr 2;omega) | (simp;omega),((sqN _ _))⟩
 by_cases t2:left - x0 - x1<x2
 · have HR:Hid (leftOf left W = -1):=by
    have:=HW.out;show leftOf left W=_;exact leftOf_lt (by omega)
   have hr2:leftOf (left - x0 - x1) x2 = -1:=leftOf_lt t2;clear HW;go_enter func221,ntmps221;go_wp2_with (first | (go_at_call 204;go_must (refine (h1.at (w:=_) (v:=_) e.kids _ (left - x0 - x1) (by omega) hks (by omega)).mono ?_;rintro e w2 ⟨rfl,hb2⟩;rw [HX2.out,hr2];have HB2:Hid _:=hb2;have hk2:=(hb2.cell (p:=⟨w.heap.size,5,none⟩) (by simp)).trans (cell_new _ _ _ 5 cv rfl);clear hb2)) );go_ret;exact ⟨by rw [HR.out];first | rfl | (congr 2;omega) | (simp;omega),(((sqN _ _)).trans (HB2.out.mono ((sqN _ _)).size))⟩
 by_cases t3:left - x0 - x1 - x2<x3
 · have HR:Hid (leftOf left W = -1):=by
    have:=HW.out;show leftOf left W=_;exact leftOf_lt (by omega)
   have hr2:leftOf (left - x0 - x1) x2=((left - x0 - x1 - x2:Nat):Int):=(by rw [leftOf_ge (by omega)]);have hr3:leftOf (left - x0 - x1 - x2) x3 = -1:=leftOf_lt t3;clear HW;go_enter func221,ntmps221;go_wp2_with (first | (go_at_call 143;go_must (refine (h2.at (w:=_) (v:=_) e.clauses _ (left - x0 - x1 - x2) (by omega) (hcs.mono (sqO HB2.out) (fun _ h=>h) (fun _ _ _ h=>h.mono (sqO HB2.out) (fun _ h=>h) (fun _ _=>HEx.mono (sqO HB2.out) (fun _ h=>h)))) (by omega)).mono ?_;rintro e w3 ⟨rfl,hb3⟩;rw [HX3.out,hr3];have HB3:Hid _:=hb3;clear hb3)) | (go_at_call 204;go_must (refine (h1.at (w:=_) (v:=_) e.kids _ (left - x0 - x1) (by omega) hks (by omega)).mono ?_;rintro e w2 ⟨rfl,hb2⟩;rw [HX2.out,hr2];have HB2:Hid _:=hb2;have hk2:=(hb2.cell (p:=⟨w.heap.size,5,none⟩) (by simp)).trans (cell_new _ _ _ 5 cv rfl);clear hb2)) );go_ret;exact ⟨by rw [HR.out];first | rfl | (congr 2;omega) | (simp;omega),((((sqN _ _)).trans (HB2.out.mono ((sqN _ _)).size)).trans (HB3.out.mono (((sqN _ _)).trans (HB2.out.mono ((sqN _ _)).size)).size))⟩
 have HR:Hid (leftOf left W=((left - x0 - x1 - x2 - x3:Nat):Int)):=by
  have:=HW.out;show leftOf left W=_;rw [leftOf_ge (by omega)];omega
 have hr2:leftOf (left - x0 - x1) x2=((left - x0 - x1 - x2:Nat):Int):=(by rw [leftOf_ge (by omega)]);have hr3:leftOf (left - x0 - x1 - x2) x3=((left - x0 - x1 - x2 - x3:Nat):Int):=(by rw [leftOf_ge (by omega)]);clear HW;go_enter func221,ntmps221;go_wp2_with (first | (go_at_call 143;go_must (refine (h2.at (w:=_) (v:=_) e.clauses _ (left - x0 - x1 - x2) (by omega) (hcs.mono (sqO HB2.out) (fun _ h=>h) (fun _ _ _ h=>h.mono (sqO HB2.out) (fun _ h=>h) (fun _ _=>HEx.mono (sqO HB2.out) (fun _ h=>h)))) (by omega)).mono ?_;rintro e w3 ⟨rfl,hb3⟩;rw [HX3.out,hr3];have HB3:Hid _:=hb3;clear hb3)) | (go_at_call 204;go_must (refine (h1.at (w:=_) (v:=_) e.kids _ (left - x0 - x1) (by omega) hks (by omega)).mono ?_;rintro e w2 ⟨rfl,hb2⟩;rw [HX2.out,hr2];have HB2:Hid _:=hb2;have hk2:=(hb2.cell (p:=⟨w.heap.size,5,none⟩) (by simp)).trans (cell_new _ _ _ 5 cv rfl);clear hb2)) );go_ret;exact ⟨by rw [HR.out];first | rfl | (congr 2;omega) | (simp;omega),((((sqN _ _)).trans (HB2.out.mono ((sqN _ _)).size)).trans (HB3.out.mono (((sqN _ _)).trans (HB2.out.mono ((sqN _ _)).size)).size))⟩
theorem szClause_of {d:Nat} (h1:SzC 204 (fun w v es=>Rows w (fun g=>g<N) 6 (HEx w (fun g=>g<N) d) v es) (wtS (wtEx d))) (h2:SzC 204 (fun w v es=>Rows w (fun g=>g<N) 6 (HEx w (fun g=>g<N) d) v es) (wtS (wtEx d))) :
 SzC 176 (fun w v e=>∃ cs,v=.agg cs.toArray∧HCl w (fun g=>g<N) (HEx w (fun g=>g<N) d) cs e) (wtCl (wtEx d)):=by
 intro w v e left h hl;obtain ⟨cs,rfl,kv,cv,rfl,hks,hcs⟩:=h;have hal:SameOn (fun g=>g<N) w (w.alloc (.cells #[kv,cv] 220)):=sqO ((sqN _ _))
 replace hks:=hks.mono hal (fun _ h=>h) (fun _ _ _=>HEx.mono hal (fun _ h=>h))
 replace hcs:=hcs.mono hal (fun _ h=>h) (fun _ _ _=>HEx.mono hal (fun _ h=>h))
 have HW:Hid (wtCl (wtEx d) e=wtS (wtEx d) e.1+wtS (wtEx d) e.2):=rfl;generalize wtCl (wtEx d) e=W at *;generalize hx0:wtS (wtEx d) e.1=x0 at *;have HX0:=hid hx0;clear hx0;generalize hx1:wtS (wtEx d) e.2=x1 at *;have HX1:=hid hx1;clear hx1;by_cases t0:left<x0
 · have HR:Hid (leftOf left W = -1):=by
    have:=HW.out;show leftOf left W=_;exact leftOf_lt (by omega)
   have hr0:leftOf (left) x0 = -1:=leftOf_lt t0;clear HW;go_enter func176,ntmps176;go_wp2_with (first | (go_at_call 204;(refine (h1.at (w:=_) (v:=_) e.1 _ (left) (by omega) hks (by omega)).mono ?_;rintro e w0 ⟨rfl,hb0⟩;rw [HX0.out,hr0];have HB0:Hid _:=hb0;have hk0:=(hb0.cell (p:=⟨w.heap.size,1,none⟩) (by simp)).trans (cell_new _ _ _ 1 cv rfl);clear hb0)) );go_ret;exact ⟨by rw [HR.out];first | rfl | (congr 2;omega) | (simp;omega),(((sqN _ _)).trans (HB0.out.mono ((sqN _ _)).size))⟩
 by_cases t1:left - x0<x1
 · have HR:Hid (leftOf left W = -1):=by
    have:=HW.out;show leftOf left W=_;exact leftOf_lt (by omega)
   have hr0:leftOf (left) x0=((left - x0:Nat):Int):=(by rw [leftOf_ge (by omega)]);have hr1:leftOf (left - x0) x1 = -1:=leftOf_lt t1;clear HW;go_enter func176,ntmps176;go_wp2_with (first | (go_at_call 204;(refine (h2.at (w:=_) (v:=_) e.2 _ (left - x0) (by omega) (hcs.mono (sqO HB0.out) (fun _ h=>h) (fun _ _ _=>HEx.mono (sqO HB0.out) (fun _ h=>h))) (by omega)).mono ?_;rintro e w1 ⟨rfl,hb1⟩;rw [HX1.out,hr1];have HB1:Hid _:=hb1;clear hb1)) | (go_at_call 204;(refine (h1.at (w:=_) (v:=_) e.1 _ (left) (by omega) hks (by omega)).mono ?_;rintro e w0 ⟨rfl,hb0⟩;rw [HX0.out,hr0];have HB0:Hid _:=hb0;have hk0:=(hb0.cell (p:=⟨w.heap.size,1,none⟩) (by simp)).trans (cell_new _ _ _ 1 cv rfl);clear hb0)) );go_ret;exact ⟨by rw [HR.out];first | rfl | (congr 2;omega) | (simp;omega),((((sqN _ _)).trans (HB0.out.mono ((sqN _ _)).size)).trans (HB1.out.mono (((sqN _ _)).trans (HB0.out.mono ((sqN _ _)).size)).size))⟩
 have HR:Hid (leftOf left W=((left - x0 - x1:Nat):Int)):=by
  have:=HW.out;show leftOf left W=_;rw [leftOf_ge (by omega)];omega
 have hr0:leftOf (left) x0=((left - x0:Nat):Int):=(by rw [leftOf_ge (by omega)]);have hr1:leftOf (left - x0) x1=((left - x0 - x1:Nat):Int):=(by rw [leftOf_ge (by omega)]);clear HW;go_enter func176,ntmps176;go_wp2_with (first | (go_at_call 204;(refine (h2.at (w:=_) (v:=_) e.2 _ (left - x0) (by omega) (hcs.mono (sqO HB0.out) (fun _ h=>h) (fun _ _ _=>HEx.mono (sqO HB0.out) (fun _ h=>h))) (by omega)).mono ?_;rintro e w1 ⟨rfl,hb1⟩;rw [HX1.out,hr1];have HB1:Hid _:=hb1;clear hb1)) | (go_at_call 204;(refine (h1.at (w:=_) (v:=_) e.1 _ (left) (by omega) hks (by omega)).mono ?_;rintro e w0 ⟨rfl,hb0⟩;rw [HX0.out,hr0];have HB0:Hid _:=hb0;have hk0:=(hb0.cell (p:=⟨w.heap.size,1,none⟩) (by simp)).trans (cell_new _ _ _ 1 cv rfl);clear hb0)) );go_ret;exact ⟨by rw [HR.out];first | rfl | (congr 2;omega) | (simp;omega),((((sqN _ _)).trans (HB0.out.mono ((sqN _ _)).size)).trans (HB1.out.mono (((sqN _ _)).trans (HB0.out.mono ((sqN _ _)).size)).size))⟩
theorem szFun_of {d:Nat} (h1:SzC 143 (fun w v es=>Rows w (fun g=>g<N) 2 (HCl w (fun g=>g<N) (HEx w (fun g=>g<N) d)) v es) (wtS (wtCl (wtEx d)))) :
 SzC 99 (fun w v e=>∃ cs,v=.agg cs.toArray∧HFn w (fun g=>g<N) d cs e) (wtFn d):=by
 intro w v e left h hl;obtain ⟨cs,rfl,cv,rfl,ht,hn,hcs⟩:=h;have hb0:e.name.size≤9223372036854775807:=(by have:=ht;unfold okS maxLen at this;omega);have hal:SameOn (fun g=>g<N) w (w.alloc (.cells #[.string e.name,.int .i64 e.arity,cv] 137)):=sqO ((sqN _ _))
 replace hcs:=hcs.mono hal (fun _ h=>h) (fun _ _ _ h=>h.mono hal (fun _ h=>h) (fun _ _=>HEx.mono hal (fun _ h=>h)))
 have HW:Hid (wtFn d e=e.name.size+wtS (wtCl (wtEx d)) e.clauses):=rfl;generalize wtFn d e=W at *;have hx0:∃ x0:Nat,e.name.size=x0:=⟨_,rfl⟩;obtain ⟨x0,hx0⟩:=hx0;rw [hx0] at hb0;generalize hx1:wtS (wtCl (wtEx d)) e.clauses=x1 at *;have HX1:=hid hx1;clear hx1;by_cases t0:left<x0
 · have HR:Hid (leftOf left W = -1):=by
    have:=HW.out;show leftOf left W=_;exact leftOf_lt (by omega)
   clear HW;go_enter func99,ntmps99;go_wp2;go_ret;exact ⟨by rw [HR.out];first | rfl | (congr 2;omega) | (simp;omega),((sqN _ _))⟩
 by_cases t1:left - x0<x1
 · have HR:Hid (leftOf left W = -1):=by
    have:=HW.out;show leftOf left W=_;exact leftOf_lt (by omega)
   have hr1:leftOf (left - x0) x1 = -1:=leftOf_lt t1;clear HW;go_enter func99,ntmps99;go_wp2_with (first | (go_at_call 143;go_must (refine (h1.at (w:=_) (v:=_) e.clauses _ (left - x0) (by omega) hcs (by omega)).mono ?_;rintro e w1 ⟨rfl,hb1⟩;rw [HX1.out,hr1];have HB1:Hid _:=hb1;clear hb1)) );go_ret;exact ⟨by rw [HR.out];first | rfl | (congr 2;omega) | (simp;omega),(((sqN _ _)).trans (HB1.out.mono ((sqN _ _)).size))⟩
 have HR:Hid (leftOf left W=((left - x0 - x1:Nat):Int)):=by
  have:=HW.out;show leftOf left W=_;rw [leftOf_ge (by omega)];omega
 have hr1:leftOf (left - x0) x1=((left - x0 - x1:Nat):Int):=(by rw [leftOf_ge (by omega)]);clear HW;go_enter func99,ntmps99;go_wp2_with (first | (go_at_call 143;go_must (refine (h1.at (w:=_) (v:=_) e.clauses _ (left - x0) (by omega) hcs (by omega)).mono ?_;rintro e w1 ⟨rfl,hb1⟩;rw [HX1.out,hr1];have HB1:Hid _:=hb1;clear hb1)) );go_ret;exact ⟨by rw [HR.out];first | rfl | (congr 2;omega) | (simp;omega),(((sqN _ _)).trans (HB1.out.mono ((sqN _ _)).size))⟩
theorem szRef_of {d:Nat}  :
 SzC 98 (fun w v e=>∃ cs,v=.agg cs.toArray∧HRf cs e) (wtRf):=by
 intro w v e left h hl;obtain ⟨cs,rfl,rfl,ht,hn⟩:=h;have hb0:e.name.size≤9223372036854775807:=(by have:=ht;unfold okS maxLen at this;omega);have HW:Hid (wtRf e=e.name.size):=rfl;generalize wtRf e=W at *;have hx0:∃ x0:Nat,e.name.size=x0:=⟨_,rfl⟩;obtain ⟨x0,hx0⟩:=hx0;rw [hx0] at hb0;by_cases t0:left<x0
 · have HR:Hid (leftOf left W = -1):=by
    have:=HW.out;show leftOf left W=_;exact leftOf_lt (by omega)
   clear HW;go_enter func98,ntmps98;go_wp2;go_ret;exact ⟨by rw [HR.out];first | rfl | (congr 2;omega) | (simp;omega),((sqN _ _))⟩
 have HR:Hid (leftOf left W=((left - x0:Nat):Int)):=by
  have:=HW.out;show leftOf left W=_;rw [leftOf_ge (by omega)];omega
 clear HW;go_enter func98,ntmps98;go_wp2;go_ret;exact ⟨by rw [HR.out];first | rfl | (congr 2;omega) | (simp;omega),((sqN _ _))⟩
theorem szModule_of {d:Nat} (h1:SzC 52 (fun w v es=>Rows w (fun g=>g<N) 2 (HRf) v es) (wtS (wtRf))) (h2:SzC 53 (fun w v es=>Rows w (fun g=>g<N) 3 (HFn w (fun g=>g<N) d) v es) (wtS (wtFn d))) :
 SzC 16 (fun w v e=>∃ cs,v=.agg cs.toArray∧HMd w (fun g=>g<N) d cs e) (wtMd d):=by
 intro w v e left h hl;obtain ⟨cs,rfl,kv,cv,rfl,ht,hks,hcs⟩:=h;have hb0:e.name.size≤9223372036854775807:=(by have:=ht;unfold okS maxLen at this;omega);have hal:SameOn (fun g=>g<N) w (w.alloc (.cells #[.string e.name,kv,cv] 42)):=sqO ((sqN _ _))
 replace hks:=hks.mono hal (fun _ h=>h) (fun _ _ _ h=>h)
 replace hcs:=hcs.mono hal (fun _ h=>h) (fun _ _ _ h=>h.mono hal (fun _ h=>h))
 have HW:Hid (wtMd d e=e.name.size+wtS wtRf e.exports+wtS (wtFn d) e.funs):=rfl;generalize wtMd d e=W at *;have hx0:∃ x0:Nat,e.name.size=x0:=⟨_,rfl⟩;obtain ⟨x0,hx0⟩:=hx0;rw [hx0] at hb0;generalize hx1:wtS wtRf e.exports=x1 at *;have HX1:=hid hx1;clear hx1;generalize hx2:wtS (wtFn d) e.funs=x2 at *;have HX2:=hid hx2;clear hx2;by_cases t0:left<x0
 · have HR:Hid (leftOf left W = -1):=by
    have:=HW.out;show leftOf left W=_;exact leftOf_lt (by omega)
   clear HW;go_enter func16,ntmps16;go_wp2;go_ret;exact ⟨by rw [HR.out];first | rfl | (congr 2;omega) | (simp;omega),((sqN _ _))⟩
 by_cases t1:left - x0<x1
 · have HR:Hid (leftOf left W = -1):=by
    have:=HW.out;show leftOf left W=_;exact leftOf_lt (by omega)
   have hr1:leftOf (left - x0) x1 = -1:=leftOf_lt t1;clear HW;go_enter func16,ntmps16;go_wp2_with (first | (go_at_call 52;go_must (refine (h1.at (w:=_) (v:=_) e.exports _ (left - x0) (by omega) hks (by omega)).mono ?_;rintro e w1 ⟨rfl,hb1⟩;rw [HX1.out,hr1];have HB1:Hid _:=hb1;have hk1:=(hb1.cell (p:=⟨w.heap.size,2,none⟩) (by simp)).trans (cell_new _ _ _ 2 cv rfl);clear hb1)) );go_ret;exact ⟨by rw [HR.out];first | rfl | (congr 2;omega) | (simp;omega),(((sqN _ _)).trans (HB1.out.mono ((sqN _ _)).size))⟩
 by_cases t2:left - x0 - x1<x2
 · have HR:Hid (leftOf left W = -1):=by
    have:=HW.out;show leftOf left W=_;exact leftOf_lt (by omega)
   have hr1:leftOf (left - x0) x1=((left - x0 - x1:Nat):Int):=(by rw [leftOf_ge (by omega)]);have hr2:leftOf (left - x0 - x1) x2 = -1:=leftOf_lt t2;clear HW;go_enter func16,ntmps16;go_wp2_with (first | (go_at_call 53;go_must (refine (h2.at (w:=_) (v:=_) e.funs _ (left - x0 - x1) (by omega) (hcs.mono (sqO HB1.out) (fun _ h=>h) (fun _ _ _ h=>h.mono (sqO HB1.out) (fun _ h=>h))) (by omega)).mono ?_;rintro e w2 ⟨rfl,hb2⟩;rw [HX2.out,hr2];have HB2:Hid _:=hb2;clear hb2)) | (go_at_call 52;go_must (refine (h1.at (w:=_) (v:=_) e.exports _ (left - x0) (by omega) hks (by omega)).mono ?_;rintro e w1 ⟨rfl,hb1⟩;rw [HX1.out,hr1];have HB1:Hid _:=hb1;have hk1:=(hb1.cell (p:=⟨w.heap.size,2,none⟩) (by simp)).trans (cell_new _ _ _ 2 cv rfl);clear hb1)) );go_ret;exact ⟨by rw [HR.out];first | rfl | (congr 2;omega) | (simp;omega),((((sqN _ _)).trans (HB1.out.mono ((sqN _ _)).size)).trans (HB2.out.mono (((sqN _ _)).trans (HB1.out.mono ((sqN _ _)).size)).size))⟩
 have HR:Hid (leftOf left W=((left - x0 - x1 - x2:Nat):Int)):=by
  have:=HW.out;show leftOf left W=_;rw [leftOf_ge (by omega)];omega
 have hr1:leftOf (left - x0) x1=((left - x0 - x1:Nat):Int):=(by rw [leftOf_ge (by omega)]);have hr2:leftOf (left - x0 - x1) x2=((left - x0 - x1 - x2:Nat):Int):=(by rw [leftOf_ge (by omega)]);clear HW;go_enter func16,ntmps16;go_wp2_with (first | (go_at_call 53;go_must (refine (h2.at (w:=_) (v:=_) e.funs _ (left - x0 - x1) (by omega) (hcs.mono (sqO HB1.out) (fun _ h=>h) (fun _ _ _ h=>h.mono (sqO HB1.out) (fun _ h=>h))) (by omega)).mono ?_;rintro e w2 ⟨rfl,hb2⟩;rw [HX2.out,hr2];have HB2:Hid _:=hb2;clear hb2)) | (go_at_call 52;go_must (refine (h1.at (w:=_) (v:=_) e.exports _ (left - x0) (by omega) hks (by omega)).mono ?_;rintro e w1 ⟨rfl,hb1⟩;rw [HX1.out,hr1];have HB1:Hid _:=hb1;have hk1:=(hb1.cell (p:=⟨w.heap.size,2,none⟩) (by simp)).trans (cell_new _ _ _ 2 cv rfl);clear hb1)) );go_ret;exact ⟨by rw [HR.out];first | rfl | (congr 2;omega) | (simp;omega),((((sqN _ _)).trans (HB1.out.mono ((sqN _ _)).size)).trans (HB2.out.mono (((sqN _ _)).trans (HB1.out.mono ((sqN _ _)).size)).size))⟩
theorem szExp_all:∀ d,SzC 221 (fun w v e=>∃ cs,v=.agg cs.toArray∧HEx w (fun g=>g<N) d cs e) (wtEx d)
 | 0=>fun w v x left ⟨_,_,h⟩ _=>h.elim
 | d+1=>szExp_of (szExpS_of (szExp_all d)) (szClauseS_of (szClause_of (szExpS_of (szExp_all d)) (szExpS_of (szExp_all d))))
theorem szClauseS_all (d:Nat):SzC 143 (fun w v es=>Rows w (fun g=>g<N) 2 (HCl w (fun g=>g<N) (HEx w (fun g=>g<N) d)) v es) (wtS (wtCl (wtEx d))) :=
 szClauseS_of (szClause_of (szExpS_of (szExp_all d)) (szExpS_of (szExp_all d)))
theorem szModule_all (d:Nat):SzC 16 (fun w v m=>∃ cs,v=.agg cs.toArray∧HMd w (fun g=>g<N) d cs m) (wtMd d) :=
 szModule_of (szRefS_of (d:=0) (szRef_of (d:=0))) (szFunS_of (szFun_of (szClauseS_all d)))
section
variable {N:Nat}
theorem szModuleS_of {d:Nat} (hE:SzC 16 (fun w v e=>∃ cs,v=.agg cs.toArray∧HMd w (fun g=>g<N) d cs e) (wtMd d)) :
 SzC 5 (fun w v es=>Rows w (fun g=>g<N) 3 (HMd w (fun g=>g<N) d) v es) (wtS (wtMd d)):=by
 intro w v es left h hl;obtain ⟨p,cap,rfl,hcl,hcm,hx⟩:=h;generalize hn:es.length=n at *;have HN:=hid hn;have HX:Hid _:=hx;have hnb:=sqM hcl hcm;clear hx hn;by_cases h0:left<n
 · have hr:leftOf left (wtS (wtMd d) es) = -1:=leftOf_lt (by unfold wtS;rw [HN.out];omega)
   have HR:=hid hr;clear hr;go_enter func5,ntmps5;go_wp2;go_ret;exact ⟨by rw [HR.out];rfl,Below.refl _ _⟩
 · go_enter func5,ntmps5
   go_wp2
   go_loopw [1,5] (fun lv iv wr=>∃ k r:Nat,k≤n∧iv=.int .i64 k∧lv=.int .i64 r∧Hid (r+n+((es.take k).map (wtMd d)).sum=left)∧Bz w wr) (fun _ iv _=>n - (intOf iv).toNat)
   case atStart=>exact ⟨0,left - n,Nat.zero_le _,rfl,by go_num,(by show left - n+n+_=left;simp;omega),Below.refl _ _⟩
   case round =>
    obtain ⟨k,r,hk,rfl,rfl,hrs,hb⟩:=hrel;have HB:=hid hb;by_cases hlt:k<n
    · obtain ⟨x,hxk⟩:=sqA (l:=es) (k:=k) HN.out hlt
      obtain ⟨g,off,rfl,hg,hgl,hat⟩:=HX.out (sqE hxk);obtain ⟨cs,hcl6,hcs,hex⟩:=hat k x hxk;have hex':HMd wr (fun g=>g<N) d cs x:=hex.mono (sqO hb) (fun _ h=>h);obtain ⟨c0,c1,c2,rfl⟩:=len3 hcl6;obtain ⟨a0,a1,a2⟩:=sqC3 hcs (by omega);rw [← hb.cell (p:=⟨g,_,none⟩) hgl] at a0 a1 a2;simp at a0 a1 a2;clear hb hcs hat hex hcl6;have hrb:r≤16777216:=(by have:=hrs.out;omega);have hst:=sum_take_succ (wtMd d) es k x hxk;have HST:=hid hst;have hle:=sum_take_le (wtMd d) es (k+1);have HLE:=hid hle;clear hst hle;generalize hwx:wtMd d x=y at *;have HY:=hid hwx;by_cases hy:r<y
      · have hr:leftOf left (wtS (wtMd d) es) = -1:=leftOf_lt (by unfold wtS;have:=hrs.out;have:=HLE.out;have:=HST.out;rw [HN.out];omega)
        have HR:=hid hr;have hr2:leftOf r y = -1:=leftOf_lt hy;clear hr hwx;go_wp2_with (go_at_call 16;go_must (refine (hE _ _ x r ⟨_,rfl,hex'⟩ hrb).mono ?_;rintro e w1 ⟨rfl,hb1⟩;rw [HY.out,hr2];have HB1:Hid _:=hb1;clear hb1));go_ret;exact ⟨by rw [HR.out];rfl,HB.out.trans (HB1.out.mono HB.out.size)⟩
      · have hr2:leftOf r y=((r - y:Nat):Int):=leftOf_ge (by omega)
        clear hwx;go_wp2_with (go_at_call 16;go_must (refine (hE _ _ x r ⟨_,rfl,hex'⟩ hrb).mono ?_;rintro e w1 ⟨rfl,hb1⟩;rw [HY.out,hr2];have HB1:Hid _:=hb1;clear hb1));exact ⟨⟨k+1,r - y,by omega,by go_num,rfl,(by have:=hrs.out;have:=HST.out;show r - y+n+_=left;omega),HB.out.trans (HB1.out.mono HB.out.size)⟩,by simp [intOf];omega⟩
    · have hr:leftOf left (wtS (wtMd d) es)=(r:Int):=by
       have h1:=hrs.out;rw [List.take_of_length_le (by rw [HN.out];omega)] at h1;rw [leftOf_ge (by unfold wtS;rw [HN.out];omega)];unfold wtS;rw [HN.out];omega
      have HR:=hid hr;clear hr;go_wp2;go_ret;exact ⟨by rw [HR.out];rfl,HB.out⟩
theorem szModuleS_all (d:Nat):SzC 5 (fun w v es=>Rows w (fun g=>g<N) 3 (HMd w (fun g=>g<N) d) v es) (wtS (wtMd d)):=szModuleS_of (szModule_all d)
end
theorem eqExpS_of {d:Nat} (hE:EqC 228 (fun w v e=>∃ cs,v=.agg cs.toArray∧HEx w All d cs e)) :
 EqC 219 (fun w v es=>Rows w All 6 (HEx w All d) v es):=by
 intro w v1 v2 es h1 h2;obtain ⟨p,cap,rfl,hcl,hcm,hx⟩:=h1;obtain ⟨q,cap',rfl,hcl',hcm',hy⟩:=h2;generalize hn:es.length=n at *;have HN:=hid hn;have HX:Hid _:=hx;have HY:Hid _:=hy;have hnb:=sqM hcl hcm;clear hx hy hn;go_enter func219,ntmps219;go_wp2
 go_loopw [5] (fun iv wr=>∃ k:Nat,k≤n∧iv=.int .i64 k∧Bz w wr) (fun iv _=>n - (intOf iv).toNat)
 case atStart=>exact ⟨0,Nat.zero_le _,rfl,Below.refl _ _⟩
 case round =>
  obtain ⟨k,hk,rfl,hb⟩:=hrel;have HB:=hid hb;by_cases hlt:k<n
  · obtain ⟨x,hxk⟩:=sqA (l:=es) (k:=k) HN.out hlt
    have hne:es≠[]:=(sqE hxk);obtain ⟨g,off,rfl,_,hgl,hat⟩:=HX.out hne;obtain ⟨g',off',rfl,_,hgl',hat'⟩:=HY.out hne;obtain ⟨cs,hcl6,hcs,hex⟩:=hat k x hxk;obtain ⟨cs',hcl6',hcs',hex'⟩:=hat' k x hxk;have E1:∀ w',SameOn All wr w'→HEx w' All d cs x:=fun w' hw=>hex.mono (SameOn.trans (sqO hb) hw) (fun _ h=>h);have E2:∀ w',SameOn All wr w'→HEx w' All d cs' x:=fun w' hw=>hex'.mono (SameOn.trans (sqO hb) hw) (fun _ h=>h);obtain ⟨c0,c1,c2,c3,c4,c5,rfl⟩:=len6 hcl6;obtain ⟨d0,d1,d2,d3,d4,d5,rfl⟩:=len6 hcl6';have a0:=hcs 0 (by omega);have b0:=hcs' 0 (by omega);have a1:=hcs 1 (by omega);have b1:=hcs' 1 (by omega);have a2:=hcs 2 (by omega);have b2:=hcs' 2 (by omega);have a3:=hcs 3 (by omega);have b3:=hcs' 3 (by omega);have a4:=hcs 4 (by omega);have b4:=hcs' 4 (by omega);have a5:=hcs 5 (by omega);have b5:=hcs' 5 (by omega);rw [← hb.cell (p:=⟨g,_,none⟩) hgl] at a0 a1 a2 a3 a4 a5;rw [← hb.cell (p:=⟨g',_,none⟩) hgl'] at b0 b1 b2 b3 b4 b5;simp at a0 a1 a2 a3 a4 a5 b0 b1 b2 b3 b4 b5;clear hb hcs hat hex hcl6 hcs' hat' hex' hcl6' hne;go_wp2
    go_region_with ((go_at_call 228;refine (hE _ _ _ x ⟨_,rfl,E1 _ (by exact ⟨Nat.le_refl _,fun _ _ _=>rfl⟩)⟩ ⟨_,rfl,E2 _ (by exact ⟨Nat.le_refl _,fun _ _ _=>rfl⟩)⟩).mono ?_;rintro e w1 ⟨rfl,hb1⟩;have HB1:Hid _:=hb1;clear hb1))
    all_goals go_wp2
    all_goals
     have hbe:Bz w w1:=by
      refine Below.trans ?_ (HB1.out.mono (by exact HB.out.size))
      repeat (first | exact HB.out | apply Below.drew)
     exact ⟨⟨k+1,by omega,by go_num,hbe⟩,by simp [intOf];omega⟩
  · go_wp2
    go_ret;exact ⟨rfl,HB.out⟩
theorem eqClauseS_of {d:Nat} (hE:EqC 197 (fun w v e=>∃ cs,v=.agg cs.toArray∧HCl w All (HEx w All d) cs e)) :
 EqC 162 (fun w v es=>Rows w All 2 (HCl w All (HEx w All d)) v es):=by
 intro w v1 v2 es h1 h2;obtain ⟨p,cap,rfl,hcl,hcm,hx⟩:=h1;obtain ⟨q,cap',rfl,hcl',hcm',hy⟩:=h2;generalize hn:es.length=n at *;have HN:=hid hn;have HX:Hid _:=hx;have HY:Hid _:=hy;have hnb:=sqM hcl hcm;clear hx hy hn;go_enter func162,ntmps162;go_wp2
 go_loopw [5] (fun iv wr=>∃ k:Nat,k≤n∧iv=.int .i64 k∧Bz w wr) (fun iv _=>n - (intOf iv).toNat)
 case atStart=>exact ⟨0,Nat.zero_le _,rfl,Below.refl _ _⟩
 case round =>
  obtain ⟨k,hk,rfl,hb⟩:=hrel;have HB:=hid hb;by_cases hlt:k<n
  · obtain ⟨x,hxk⟩:=sqA (l:=es) (k:=k) HN.out hlt
    have hne:es≠[]:=(sqE hxk);obtain ⟨g,off,rfl,_,hgl,hat⟩:=HX.out hne;obtain ⟨g',off',rfl,_,hgl',hat'⟩:=HY.out hne;obtain ⟨cs,hcl6,hcs,hex⟩:=hat k x hxk;obtain ⟨cs',hcl6',hcs',hex'⟩:=hat' k x hxk;have E1:∀ w',SameOn All wr w'→HCl w' All (HEx w' All d) cs x:=fun w' hw=>hex.mono (SameOn.trans (sqO hb) hw) (fun _ h=>h) (fun _ _=>HEx.mono (SameOn.trans (sqO hb) hw) (fun _ h=>h));have E2:∀ w',SameOn All wr w'→HCl w' All (HEx w' All d) cs' x:=fun w' hw=>hex'.mono (SameOn.trans (sqO hb) hw) (fun _ h=>h) (fun _ _=>HEx.mono (SameOn.trans (sqO hb) hw) (fun _ h=>h));obtain ⟨c0,c1,rfl⟩:=len2 hcl6;obtain ⟨d0,d1,rfl⟩:=len2 hcl6';have a0:=hcs 0 (by omega);have b0:=hcs' 0 (by omega);have a1:=hcs 1 (by omega);have b1:=hcs' 1 (by omega);rw [← hb.cell (p:=⟨g,_,none⟩) hgl] at a0 a1;rw [← hb.cell (p:=⟨g',_,none⟩) hgl'] at b0 b1;simp at a0 a1 b0 b1;clear hb hcs hat hex hcl6 hcs' hat' hex' hcl6' hne;go_wp2
    go_region_with ((go_at_call 197;refine (hE _ _ _ x ⟨_,rfl,E1 _ (by exact ⟨Nat.le_refl _,fun _ _ _=>rfl⟩)⟩ ⟨_,rfl,E2 _ (by exact ⟨Nat.le_refl _,fun _ _ _=>rfl⟩)⟩).mono ?_;rintro e w1 ⟨rfl,hb1⟩;have HB1:Hid _:=hb1;clear hb1))
    all_goals go_wp2
    all_goals
     have hbe:Bz w w1:=by
      refine Below.trans ?_ (HB1.out.mono (by exact HB.out.size))
      repeat (first | exact HB.out | apply Below.drew)
     exact ⟨⟨k+1,by omega,by go_num,hbe⟩,by simp [intOf];omega⟩
  · go_wp2
    go_ret;exact ⟨rfl,HB.out⟩
theorem eqFunS_of {d:Nat} (hE:EqC 123 (fun w v e=>∃ cs,v=.agg cs.toArray∧HFn w All d cs e)) :
 EqC 78 (fun w v es=>Rows w All 3 (HFn w All d) v es):=by
 intro w v1 v2 es h1 h2;obtain ⟨p,cap,rfl,hcl,hcm,hx⟩:=h1;obtain ⟨q,cap',rfl,hcl',hcm',hy⟩:=h2;generalize hn:es.length=n at *;have HN:=hid hn;have HX:Hid _:=hx;have HY:Hid _:=hy;have hnb:=sqM hcl hcm;clear hx hy hn;go_enter func78,ntmps78;go_wp2
 go_loopw [5] (fun iv wr=>∃ k:Nat,k≤n∧iv=.int .i64 k∧Bz w wr) (fun iv _=>n - (intOf iv).toNat)
 case atStart=>exact ⟨0,Nat.zero_le _,rfl,Below.refl _ _⟩
 case round =>
  obtain ⟨k,hk,rfl,hb⟩:=hrel;have HB:=hid hb;by_cases hlt:k<n
  · obtain ⟨x,hxk⟩:=sqA (l:=es) (k:=k) HN.out hlt
    have hne:es≠[]:=(sqE hxk);obtain ⟨g,off,rfl,_,hgl,hat⟩:=HX.out hne;obtain ⟨g',off',rfl,_,hgl',hat'⟩:=HY.out hne;obtain ⟨cs,hcl6,hcs,hex⟩:=hat k x hxk;obtain ⟨cs',hcl6',hcs',hex'⟩:=hat' k x hxk;have E1:∀ w',SameOn All wr w'→HFn w' All d cs x:=fun w' hw=>hex.mono (SameOn.trans (sqO hb) hw) (fun _ h=>h);have E2:∀ w',SameOn All wr w'→HFn w' All d cs' x:=fun w' hw=>hex'.mono (SameOn.trans (sqO hb) hw) (fun _ h=>h);obtain ⟨c0,c1,c2,rfl⟩:=len3 hcl6;obtain ⟨d0,d1,d2,rfl⟩:=len3 hcl6';have a0:=hcs 0 (by omega);have b0:=hcs' 0 (by omega);have a1:=hcs 1 (by omega);have b1:=hcs' 1 (by omega);have a2:=hcs 2 (by omega);have b2:=hcs' 2 (by omega);rw [← hb.cell (p:=⟨g,_,none⟩) hgl] at a0 a1 a2;rw [← hb.cell (p:=⟨g',_,none⟩) hgl'] at b0 b1 b2;simp at a0 a1 a2 b0 b1 b2;clear hb hcs hat hex hcl6 hcs' hat' hex' hcl6' hne;go_wp2
    go_region_with ((go_at_call 123;refine (hE _ _ _ x ⟨_,rfl,E1 _ (by exact ⟨Nat.le_refl _,fun _ _ _=>rfl⟩)⟩ ⟨_,rfl,E2 _ (by exact ⟨Nat.le_refl _,fun _ _ _=>rfl⟩)⟩).mono ?_;rintro e w1 ⟨rfl,hb1⟩;have HB1:Hid _:=hb1;clear hb1))
    all_goals go_wp2
    all_goals
     have hbe:Bz w w1:=by
      refine Below.trans ?_ (HB1.out.mono (by exact HB.out.size))
      repeat (first | exact HB.out | apply Below.drew)
     exact ⟨⟨k+1,by omega,by go_num,hbe⟩,by simp [intOf];omega⟩
  · go_wp2
    go_ret;exact ⟨rfl,HB.out⟩
theorem eqRefS_of {d:Nat} (hE:EqC 122 (fun w v e=>∃ cs,v=.agg cs.toArray∧HRf cs e)) :
 EqC 77 (fun w v es=>Rows w All 2 (HRf) v es):=by
 intro w v1 v2 es h1 h2;obtain ⟨p,cap,rfl,hcl,hcm,hx⟩:=h1;obtain ⟨q,cap',rfl,hcl',hcm',hy⟩:=h2;generalize hn:es.length=n at *;have HN:=hid hn;have HX:Hid _:=hx;have HY:Hid _:=hy;have hnb:=sqM hcl hcm;clear hx hy hn;go_enter func77,ntmps77;go_wp2
 go_loopw [5] (fun iv wr=>∃ k:Nat,k≤n∧iv=.int .i64 k∧Bz w wr) (fun iv _=>n - (intOf iv).toNat)
 case atStart=>exact ⟨0,Nat.zero_le _,rfl,Below.refl _ _⟩
 case round =>
  obtain ⟨k,hk,rfl,hb⟩:=hrel;have HB:=hid hb;by_cases hlt:k<n
  · obtain ⟨x,hxk⟩:=sqA (l:=es) (k:=k) HN.out hlt
    have hne:es≠[]:=(sqE hxk);obtain ⟨g,off,rfl,_,hgl,hat⟩:=HX.out hne;obtain ⟨g',off',rfl,_,hgl',hat'⟩:=HY.out hne;obtain ⟨cs,hcl6,hcs,hex⟩:=hat k x hxk;obtain ⟨cs',hcl6',hcs',hex'⟩:=hat' k x hxk;have E1:∀ w',SameOn All wr w'→HRf cs x:=fun w' hw=>hex;have E2:∀ w',SameOn All wr w'→HRf cs' x:=fun w' hw=>hex';obtain ⟨c0,c1,rfl⟩:=len2 hcl6;obtain ⟨d0,d1,rfl⟩:=len2 hcl6';have a0:=hcs 0 (by omega);have b0:=hcs' 0 (by omega);have a1:=hcs 1 (by omega);have b1:=hcs' 1 (by omega);rw [← hb.cell (p:=⟨g,_,none⟩) hgl] at a0 a1;rw [← hb.cell (p:=⟨g',_,none⟩) hgl'] at b0 b1;simp at a0 a1 b0 b1;clear hb hcs hat hex hcl6 hcs' hat' hex' hcl6' hne;go_wp2
    go_region_with ((go_at_call 122;refine (hE _ _ _ x ⟨_,rfl,E1 _ (by exact ⟨Nat.le_refl _,fun _ _ _=>rfl⟩)⟩ ⟨_,rfl,E2 _ (by exact ⟨Nat.le_refl _,fun _ _ _=>rfl⟩)⟩).mono ?_;rintro e w1 ⟨rfl,hb1⟩;have HB1:Hid _:=hb1;clear hb1))
    all_goals go_wp2
    all_goals
     have hbe:Bz w w1:=by
      refine Below.trans ?_ (HB1.out.mono (by exact HB.out.size))
      repeat (first | exact HB.out | apply Below.drew)
     exact ⟨⟨k+1,by omega,by go_num,hbe⟩,by simp [intOf];omega⟩
  · go_wp2
    go_ret;exact ⟨rfl,HB.out⟩
theorem eqExp_of {d:Nat} (h0:EqC 219 (fun w v es=>Rows w All 6 (HEx w All d) v es)) (h1:EqC 162 (fun w v es=>Rows w All 2 (HCl w All (HEx w All d)) v es)) :
 EqC 228 (fun w v e=>∃ cs,v=.agg cs.toArray∧HEx w All (d+1) cs e):=by
 intro w v1 v2 e i1 i2;obtain ⟨cs,rfl,kv,cv,rfl,p1,p2,p3,p4,f0,f1⟩:=i1;obtain ⟨cs,rfl,kv',cv',rfl,p1',p2',p3',p4',f0',f1'⟩:=i2;have hal:Bz w ((w.alloc (.cells #[.int .i64 e.kind,.int .i64 e.n,.string e.text,.string e.mod,kv,cv] 76)).alloc (.cells #[.int .i64 e.kind,.int .i64 e.n,.string e.text,.string e.mod,kv',cv'] 76)):=((sqN _ _)).alloc (by simp) _;have HA:=hid hal;have g0:∀ w',SameOn All w w'→Rows w' All 6 (HEx w' All d) kv e.kids:=fun w' hw=>f0.mono (hw) (fun _ h=>h) (fun _ _ _=>HEx.mono (hw) (fun _ h=>h));have g0':∀ w',SameOn All w w'→Rows w' All 6 (HEx w' All d) kv' e.kids:=fun w' hw=>f0'.mono (hw) (fun _ h=>h) (fun _ _ _=>HEx.mono (hw) (fun _ h=>h));have g1:∀ w',SameOn All w w'→Rows w' All 2 (HCl w' All (HEx w' All d)) cv e.clauses:=fun w' hw=>f1.mono (hw) (fun _ h=>h) (fun _ _ _ h=>h.mono (hw) (fun _ h=>h) (fun _ _=>HEx.mono (hw) (fun _ h=>h)));have g1':∀ w',SameOn All w w'→Rows w' All 2 (HCl w' All (HEx w' All d)) cv' e.clauses:=fun w' hw=>f1'.mono (hw) (fun _ h=>h) (fun _ _ _ h=>h.mono (hw) (fun _ h=>h) (fun _ _=>HEx.mono (hw) (fun _ h=>h)));clear hal f0 f0' f1 f1';go_enter func228,ntmps228;go_wp2_with (first | (go_at_call 162;(refine (h1 _ _ _ e.clauses (g1 _ (sqO (HA.out.trans (HB0.out.mono HA.out.size)))) (g1' _ (sqO (HA.out.trans (HB0.out.mono HA.out.size))))).mono ?_;rintro e w1 ⟨rfl,hb1⟩;have HB1:Hid _:=hb1;clear hb1)) | (go_at_call 219;(refine (h0 _ _ _ e.kids (g0 _ (sqO HA.out)) (g0' _ (sqO HA.out))).mono ?_;rintro e w0 ⟨rfl,hb0⟩;have HB0:Hid _:=hb0;have k0:=(hb0.cell (p:=⟨w.heap.size,5,none⟩) (by simp only [alloc_hs];omega)).trans ((sqK (a:=⟨w.heap.size,5,none⟩) (Below.heap_alloc _ _ _ (by simp))).trans (cell_new _ _ _ 5 cv rfl));have m0:=(hb0.cell (p:=⟨(w.alloc (.cells #[.int .i64 e.kind,.int .i64 e.n,.string e.text,.string e.mod,kv,cv] 76)).heap.size,5,none⟩) (by simp)).trans (cell_new _ _ _ 5 cv' rfl);simp only [alloc_hs] at m0;clear hb0)));go_ret;exact ⟨rfl,((HA.out.trans (HB0.out.mono HA.out.size)).trans (HB1.out.mono (HA.out.trans (HB0.out.mono HA.out.size)).size))⟩
theorem eqClause_of {d:Nat} (h0:EqC 219 (fun w v es=>Rows w All 6 (HEx w All d) v es)) (h1:EqC 219 (fun w v es=>Rows w All 6 (HEx w All d) v es)) :
 EqC 197 (fun w v e=>∃ cs,v=.agg cs.toArray∧HCl w All (HEx w All d) cs e):=by
 intro w v1 v2 e i1 i2;obtain ⟨cs,rfl,kv,cv,rfl,f0,f1⟩:=i1;obtain ⟨cs,rfl,kv',cv',rfl,f0',f1'⟩:=i2;have hal:Bz w ((w.alloc (.cells #[kv,cv] 46)).alloc (.cells #[kv',cv'] 46)):=((sqN _ _)).alloc (by simp) _;have HA:=hid hal;have g0:∀ w',SameOn All w w'→Rows w' All 6 (HEx w' All d) kv e.1:=fun w' hw=>f0.mono (hw) (fun _ h=>h) (fun _ _ _=>HEx.mono (hw) (fun _ h=>h));have g0':∀ w',SameOn All w w'→Rows w' All 6 (HEx w' All d) kv' e.1:=fun w' hw=>f0'.mono (hw) (fun _ h=>h) (fun _ _ _=>HEx.mono (hw) (fun _ h=>h));have g1:∀ w',SameOn All w w'→Rows w' All 6 (HEx w' All d) cv e.2:=fun w' hw=>f1.mono (hw) (fun _ h=>h) (fun _ _ _=>HEx.mono (hw) (fun _ h=>h));have g1':∀ w',SameOn All w w'→Rows w' All 6 (HEx w' All d) cv' e.2:=fun w' hw=>f1'.mono (hw) (fun _ h=>h) (fun _ _ _=>HEx.mono (hw) (fun _ h=>h));clear hal f0 f0' f1 f1';go_enter func197,ntmps197;go_wp2_with (first | (go_at_call 219;(refine (h1 _ _ _ e.2 (g1 _ (sqO (HA.out.trans (HB0.out.mono HA.out.size)))) (g1' _ (sqO (HA.out.trans (HB0.out.mono HA.out.size))))).mono ?_;rintro e w1 ⟨rfl,hb1⟩;have HB1:Hid _:=hb1;clear hb1)) | (go_at_call 219;(refine (h0 _ _ _ e.1 (g0 _ (sqO HA.out)) (g0' _ (sqO HA.out))).mono ?_;rintro e w0 ⟨rfl,hb0⟩;have HB0:Hid _:=hb0;have k0:=(hb0.cell (p:=⟨w.heap.size,1,none⟩) (by simp only [alloc_hs];omega)).trans ((sqK (a:=⟨w.heap.size,1,none⟩) (Below.heap_alloc _ _ _ (by simp))).trans (cell_new _ _ _ 1 cv rfl));have m0:=(hb0.cell (p:=⟨(w.alloc (.cells #[kv,cv] 46)).heap.size,1,none⟩) (by simp)).trans (cell_new _ _ _ 1 cv' rfl);simp only [alloc_hs] at m0;clear hb0)));go_ret;exact ⟨rfl,((HA.out.trans (HB0.out.mono HA.out.size)).trans (HB1.out.mono (HA.out.trans (HB0.out.mono HA.out.size)).size))⟩
theorem eqFun_of {d:Nat} (h0:EqC 162 (fun w v es=>Rows w All 2 (HCl w All (HEx w All d)) v es)) :
 EqC 123 (fun w v e=>∃ cs,v=.agg cs.toArray∧HFn w All d cs e):=by
 intro w v1 v2 e i1 i2;obtain ⟨cs,rfl,cv,rfl,p1,p2,f0⟩:=i1;obtain ⟨cs,rfl,cv',rfl,p1',p2',f0'⟩:=i2;have hal:Bz w ((w.alloc (.cells #[.string e.name,.int .i64 e.arity,cv] 59)).alloc (.cells #[.string e.name,.int .i64 e.arity,cv'] 59)):=((sqN _ _)).alloc (by simp) _;have HA:=hid hal;have g0:∀ w',SameOn All w w'→Rows w' All 2 (HCl w' All (HEx w' All d)) cv e.clauses:=fun w' hw=>f0.mono (hw) (fun _ h=>h) (fun _ _ _ h=>h.mono (hw) (fun _ h=>h) (fun _ _=>HEx.mono (hw) (fun _ h=>h)));have g0':∀ w',SameOn All w w'→Rows w' All 2 (HCl w' All (HEx w' All d)) cv' e.clauses:=fun w' hw=>f0'.mono (hw) (fun _ h=>h) (fun _ _ _ h=>h.mono (hw) (fun _ h=>h) (fun _ _=>HEx.mono (hw) (fun _ h=>h)));clear hal f0 f0';go_enter func123,ntmps123;go_wp2_with (first | (go_at_call 162;(refine (h0 _ _ _ e.clauses (g0 _ (sqO HA.out)) (g0' _ (sqO HA.out))).mono ?_;rintro e w0 ⟨rfl,hb0⟩;have HB0:Hid _:=hb0;clear hb0)));go_ret;exact ⟨rfl,(HA.out.trans (HB0.out.mono HA.out.size))⟩
theorem eqRef_of {d:Nat}  :
 EqC 122 (fun w v e=>∃ cs,v=.agg cs.toArray∧HRf cs e):=by
 intro w v1 v2 e i1 i2;obtain ⟨cs,rfl,rfl,p1,p2⟩:=i1;obtain ⟨cs,rfl,rfl,p1',p2'⟩:=i2;go_enter func122,ntmps122;go_wp2;go_ret;exact ⟨rfl,((sqN _ _)).alloc (by simp) _⟩
theorem eqModule_of {d:Nat} (h0:EqC 77 (fun w v es=>Rows w All 2 (HRf) v es)) (h1:EqC 78 (fun w v es=>Rows w All 3 (HFn w All d) v es)) :
 EqC 34 (fun w v e=>∃ cs,v=.agg cs.toArray∧HMd w All d cs e):=by
 intro w v1 v2 e i1 i2;obtain ⟨cs,rfl,kv,cv,rfl,p1,f0,f1⟩:=i1;obtain ⟨cs,rfl,kv',cv',rfl,p1',f0',f1'⟩:=i2;have hal:Bz w ((w.alloc (.cells #[.string e.name,kv,cv] 63)).alloc (.cells #[.string e.name,kv',cv'] 63)):=((sqN _ _)).alloc (by simp) _;have HA:=hid hal;have g0:∀ w',SameOn All w w'→Rows w' All 2 HRf kv e.exports:=fun w' hw=>f0.mono (hw) (fun _ h=>h) (fun _ _ _ h=>h);have g0':∀ w',SameOn All w w'→Rows w' All 2 HRf kv' e.exports:=fun w' hw=>f0'.mono (hw) (fun _ h=>h) (fun _ _ _ h=>h);have g1:∀ w',SameOn All w w'→Rows w' All 3 (HFn w' All d) cv e.funs:=fun w' hw=>f1.mono (hw) (fun _ h=>h) (fun _ _ _ h=>h.mono (hw) (fun _ h=>h));have g1':∀ w',SameOn All w w'→Rows w' All 3 (HFn w' All d) cv' e.funs:=fun w' hw=>f1'.mono (hw) (fun _ h=>h) (fun _ _ _ h=>h.mono (hw) (fun _ h=>h));clear hal f0 f0' f1 f1';go_enter func34,ntmps34;go_wp2_with (first | (go_at_call 78;(refine (h1 _ _ _ e.funs (g1 _ (sqO (HA.out.trans (HB0.out.mono HA.out.size)))) (g1' _ (sqO (HA.out.trans (HB0.out.mono HA.out.size))))).mono ?_;rintro e w1 ⟨rfl,hb1⟩;have HB1:Hid _:=hb1;clear hb1)) | (go_at_call 77;(refine (h0 _ _ _ e.exports (g0 _ (sqO HA.out)) (g0' _ (sqO HA.out))).mono ?_;rintro e w0 ⟨rfl,hb0⟩;have HB0:Hid _:=hb0;have k0:=(hb0.cell (p:=⟨w.heap.size,2,none⟩) (by simp only [alloc_hs];omega)).trans ((sqK (a:=⟨w.heap.size,2,none⟩) (Below.heap_alloc _ _ _ (by simp))).trans (cell_new _ _ _ 2 cv rfl));have m0:=(hb0.cell (p:=⟨(w.alloc (.cells #[.string e.name,kv,cv] 63)).heap.size,2,none⟩) (by simp)).trans (cell_new _ _ _ 2 cv' rfl);simp only [alloc_hs] at m0;clear hb0)));go_ret;exact ⟨rfl,((HA.out.trans (HB0.out.mono HA.out.size)).trans (HB1.out.mono (HA.out.trans (HB0.out.mono HA.out.size)).size))⟩
theorem eqExp_all:∀ d,EqC 228 (fun w v e=>∃ cs,v=.agg cs.toArray∧HEx w All d cs e)
 | 0=>fun w v v' x ⟨_,_,h⟩ _=>h.elim
 | d+1=>eqExp_of (eqExpS_of (eqExp_all d)) (eqClauseS_of (eqClause_of (eqExpS_of (eqExp_all d)) (eqExpS_of (eqExp_all d))))
theorem eqClauseS_all (d:Nat):EqC 162 (fun w v es=>Rows w All 2 (HCl w All (HEx w All d)) v es) :=
 eqClauseS_of (eqClause_of (eqExpS_of (eqExp_all d)) (eqExpS_of (eqExp_all d)))
theorem eqModule_all (d:Nat):EqC 34 (fun w v m=>∃ cs,v=.agg cs.toArray∧HMd w All d cs m) :=
 eqModule_of (eqRefS_of (d:=0) (eqRef_of (d:=0))) (eqFunS_of (eqFun_of (eqClauseS_all d)))
theorem eqModuleS_of {d:Nat} (hE:EqC 34 (fun w v e=>∃ cs,v=.agg cs.toArray∧HMd w All d cs e)) :
 EqC 11 (fun w v es=>Rows w All 3 (HMd w All d) v es):=by
 intro w v1 v2 es h1 h2;obtain ⟨p,cap,rfl,hcl,hcm,hx⟩:=h1;obtain ⟨q,cap',rfl,hcl',hcm',hy⟩:=h2;generalize hn:es.length=n at *;have HN:=hid hn;have HX:Hid _:=hx;have HY:Hid _:=hy;have hnb:=sqM hcl hcm;clear hx hy hn;go_enter func11,ntmps11;go_wp2
 go_loopw [5] (fun iv wr=>∃ k:Nat,k≤n∧iv=.int .i64 k∧Bz w wr) (fun iv _=>n - (intOf iv).toNat)
 case atStart=>exact ⟨0,Nat.zero_le _,rfl,Below.refl _ _⟩
 case round =>
  obtain ⟨k,hk,rfl,hb⟩:=hrel;have HB:=hid hb;by_cases hlt:k<n
  · obtain ⟨x,hxk⟩:=sqA (l:=es) (k:=k) HN.out hlt
    have hne:es≠[]:=(sqE hxk);obtain ⟨g,off,rfl,_,hgl,hat⟩:=HX.out hne;obtain ⟨g',off',rfl,_,hgl',hat'⟩:=HY.out hne;obtain ⟨cs,hcl6,hcs,hex⟩:=hat k x hxk;obtain ⟨cs',hcl6',hcs',hex'⟩:=hat' k x hxk;have E1:∀ w',SameOn All wr w'→HMd w' All d cs x:=fun w' hw=>hex.mono (SameOn.trans (sqO hb) hw) (fun _ h=>h);have E2:∀ w',SameOn All wr w'→HMd w' All d cs' x:=fun w' hw=>hex'.mono (SameOn.trans (sqO hb) hw) (fun _ h=>h);obtain ⟨c0,c1,c2,rfl⟩:=len3 hcl6;obtain ⟨d0,d1,d2,rfl⟩:=len3 hcl6';have a0:=hcs 0 (by omega);have b0:=hcs' 0 (by omega);have a1:=hcs 1 (by omega);have b1:=hcs' 1 (by omega);have a2:=hcs 2 (by omega);have b2:=hcs' 2 (by omega);rw [← hb.cell (p:=⟨g,_,none⟩) hgl] at a0 a1 a2;rw [← hb.cell (p:=⟨g',_,none⟩) hgl'] at b0 b1 b2;simp at a0 a1 a2 b0 b1 b2;clear hb hcs hat hex hcl6 hcs' hat' hex' hcl6' hne;go_wp2
    go_region_with ((go_at_call 34;refine (hE _ _ _ x ⟨_,rfl,E1 _ (by exact ⟨Nat.le_refl _,fun _ _ _=>rfl⟩)⟩ ⟨_,rfl,E2 _ (by exact ⟨Nat.le_refl _,fun _ _ _=>rfl⟩)⟩).mono ?_;rintro e w1 ⟨rfl,hb1⟩;have HB1:Hid _:=hb1;clear hb1))
    all_goals go_wp2
    all_goals
     have hbe:Bz w w1:=by
      refine Below.trans ?_ (HB1.out.mono (by exact HB.out.size))
      repeat (first | exact HB.out | apply Below.drew)
     exact ⟨⟨k+1,by omega,by go_num,hbe⟩,by simp [intOf];omega⟩
  · go_wp2
    go_ret;exact ⟨rfl,HB.out⟩
theorem eqModuleS_all (d:Nat):EqC 11 (fun w v es=>Rows w All 3 (HMd w All d) v es):=eqModuleS_of (eqModule_all d)
theorem toExpS_ofO {d:Nat} (hE:ToO 222 (fun w v e=>∃ cs,v=.agg cs.toArray∧HEx w All d cs e) (fun w v e fp=>∃ cs,v=.agg cs.toArray∧OEx w d cs e fp) (wtEx d)) :
 ToO 208 (fun w v es=>Rows w All 6 (HEx w All d) v es) (fun w v es fp=>ORows w 76 6 (OEx w d) v es fp) (wtS (wtEx d)):=by
 intro w v es h hwt;obtain ⟨p,cap,rfl,hcl,hcm,hx⟩:=h;generalize hn:es.length=n at *;have HN:=hid hn;have HX:Hid _:=hx;have hnb:n≤16777216:=(by unfold wtS at hwt;omega);have HWT:=hid hwt;clear hx hn hwt;obtain ⟨M,hM,hmk⟩:=make_row (t:=44) (e:=76) (c:=6) underlying44 (by kernel_rfl) w n hnb;have HO:Hid (Made w (w.alloc (.cells M 76)) w.heap.size n 76 6 (fun w=>OEx w d) es 0 M.toList []):=Made.start hM (by unfold maxLen;omega)
 try unfold Bz
 generalize hG:w.heap.size=G at *;have HG:=hid hG;go_enter func208,ntmps208;go_wp2
 go_loopw [4] (fun iv wr=>∃ (k:Nat) (xs:List Value) (fps:List (List Nat)),k≤n∧iv=.int .i64 k∧Hid (Made w wr G n 76 6 (fun w=>OEx w d) es k xs fps)) (fun iv _=>n - (intOf iv).toNat)
 case atStart=>exact ⟨0,M.toList,[],Nat.zero_le _,rfl,HO⟩
 case round =>
  obtain ⟨k,xs,fps,hk,rfl,HM⟩:=hrel;by_cases hlt:k<n
  · obtain ⟨x,hxk⟩:=sqA (l:=es) (k:=k) HN.out hlt
    obtain ⟨g,off,rfl,hg,hgl,hat⟩:=HX.out (sqE hxk);obtain ⟨cs,hcl6,hcs,hex⟩:=hat k x hxk;have hbw:Below w.heap.size w wr:=(by rw [HG.out];exact HM.out.below);have hex':∀ w',SameOn All wr w'→HEx w' All d cs x:=fun w' hw=>hex.mono (SameOn.trans (sqO hbw) hw) (fun _ h=>h);obtain ⟨z0,z1,z2,z3,z4,z5,rfl⟩:=len6 hcl6;obtain ⟨a0,a1,a2,a3,a4,a5⟩:=sqC6 hcs (by omega);rw [← hbw.cell (p:=⟨g,_,none⟩) (by show g<w.heap.size;rw [HG.out];exact hgl)] at a0 a1 a2 a3 a4 a5;simp at a0 a1 a2 a3 a4 a5
    have hwx:wtEx d x≤16777216:=by
     have h1:=HWT.out;have h2:=sum_take_succ (wtEx d) es k x hxk;have h3:=sum_take_le (wtEx d) es (k+1);unfold wtS at h1;omega
    clear hbw hcs hat hex hcl6;go_wp2_with (go_at_call 222;go_must (refine (hE _ _ x ⟨_,rfl,hex' _ (by exact ⟨Nat.le_refl _,fun _ _ _=>rfl⟩)⟩ hwx).mono ?_;rintro e w1 ⟨u,fp,rfl,⟨cs',rfl,hx1⟩,hnd,hrg,hb1⟩;obtain ⟨sk,sn,st,se,p1,n1,q1,p2,n2,q2,hsh⟩:=hx1.shape;subst hsh;have HB1:=hid hb1;have HX1:=hid hx1;have HND:Hid fp.Nodup:=hnd;have HRG:=hid hrg;have o1:=HM.out.own.kept (grownBy_belowR (r:=none) hb1) (Or.inr (by simp [Value.ownBlock]));have HO1:=hid o1;have f0:=o1.frozenAt (k * 6);obtain ⟨y0,g0⟩:=own_someR o1 (k * 6) (by omega);have f1:=o1.frozenAt (k * 6+1);obtain ⟨y1,g1⟩:=own_someR o1 (k * 6+1) (by omega);have f2:=o1.frozenAt (k * 6+2);obtain ⟨y2,g2⟩:=own_someR o1 (k * 6+2) (by omega);have f3:=o1.frozenAt (k * 6+3);obtain ⟨y3,g3⟩:=own_someR o1 (k * 6+3) (by omega);have f4:=o1.frozenAt (k * 6+4);obtain ⟨y4,g4⟩:=own_someR o1 (k * 6+4) (by omega);have f5:=o1.frozenAt (k * 6+5);obtain ⟨y5,g5⟩:=own_someR o1 (k * 6+5) (by omega);clear o1 hb1 hx1 hnd hrg));have sd:=stored6 HO1.out (k * 6) (.int .i64 sk) (.int .i64 sn) (.string st) (.string se) (.slice p1 n1 q1) (.slice p2 n2 q2);have hlen:xs.length=n * 6:=HO1.out.1;exact ⟨⟨k+1,_,_,by omega,by go_num,HM.out.step (fun w w' cs x f h hk=>h.keep hk) hxk HB1.out HX1.out HND.out HRG.out rfl sd.1 sd.2 (fun m hm=>set6_other hm) (fun j hj=>set6_self (by omega) j hj)⟩,by simp [intOf];omega⟩
  · obtain rfl:k=n:=by omega
    obtain ⟨fp,r1,r2,r3⟩:=HM.out.done HN.out (by unfold maxLen;omega);have R1:=hid r1;have R2:Hid (fp.Nodup∧∀ a ∈ fp,G≤a∧a<wr.heap.size):=⟨r2,r3⟩;clear r1 r2 r3;go_wp2;go_ret;exact ⟨_,fp,rfl,R1.out,R2.out.1,R2.out.2,HM.out.below⟩
theorem toClauseS_ofO {d:Nat} (hE:ToO 182 (fun w v e=>∃ cs,v=.agg cs.toArray∧HCl w All (HEx w All d) cs e) (fun w v e fp=>∃ cs,v=.agg cs.toArray∧OCls w d cs e fp) (wtCl (wtEx d))) :
 ToO 149 (fun w v es=>Rows w All 2 (HCl w All (HEx w All d)) v es) (fun w v es fp=>ORows w 46 2 (OCls w d) v es fp) (wtS (wtCl (wtEx d))):=by
 intro w v es h hwt;obtain ⟨p,cap,rfl,hcl,hcm,hx⟩:=h;generalize hn:es.length=n at *;have HN:=hid hn;have HX:Hid _:=hx;have hnb:n≤16777216:=(by unfold wtS at hwt;omega);have HWT:=hid hwt;clear hx hn hwt;obtain ⟨M,hM,hmk⟩:=make_row (t:=57) (e:=46) (c:=2) underlying57 (by kernel_rfl) w n hnb;have HO:Hid (Made w (w.alloc (.cells M 46)) w.heap.size n 46 2 (fun w=>OCls w d) es 0 M.toList []):=Made.start hM (by unfold maxLen;omega)
 try unfold Bz
 generalize hG:w.heap.size=G at *;have HG:=hid hG;go_enter func149,ntmps149;go_wp2
 go_loopw [4] (fun iv wr=>∃ (k:Nat) (xs:List Value) (fps:List (List Nat)),k≤n∧iv=.int .i64 k∧Hid (Made w wr G n 46 2 (fun w=>OCls w d) es k xs fps)) (fun iv _=>n - (intOf iv).toNat)
 case atStart=>exact ⟨0,M.toList,[],Nat.zero_le _,rfl,HO⟩
 case round =>
  obtain ⟨k,xs,fps,hk,rfl,HM⟩:=hrel;by_cases hlt:k<n
  · obtain ⟨x,hxk⟩:=sqA (l:=es) (k:=k) HN.out hlt
    obtain ⟨g,off,rfl,hg,hgl,hat⟩:=HX.out (sqE hxk);obtain ⟨cs,hcl6,hcs,hex⟩:=hat k x hxk;have hbw:Below w.heap.size w wr:=(by rw [HG.out];exact HM.out.below);have hex':∀ w',SameOn All wr w'→HCl w' All (HEx w' All d) cs x:=fun w' hw=>hex.mono (SameOn.trans (sqO hbw) hw) (fun _ h=>h) (fun _ _=>HEx.mono (SameOn.trans (sqO hbw) hw) (fun _ h=>h));obtain ⟨z0,z1,rfl⟩:=len2 hcl6;obtain ⟨a0,a1⟩:=sqC2 hcs (by omega);rw [← hbw.cell (p:=⟨g,_,none⟩) (by show g<w.heap.size;rw [HG.out];exact hgl)] at a0 a1;simp at a0 a1
    have hwx:wtCl (wtEx d) x≤16777216:=by
     have h1:=HWT.out;have h2:=sum_take_succ (wtCl (wtEx d)) es k x hxk;have h3:=sum_take_le (wtCl (wtEx d)) es (k+1);unfold wtS at h1;omega
    clear hbw hcs hat hex hcl6;go_wp2_with (go_at_call 182;go_must (refine (hE _ _ x ⟨_,rfl,hex' _ (by exact ⟨Nat.le_refl _,fun _ _ _=>rfl⟩)⟩ hwx).mono ?_;rintro e w1 ⟨u,fp,rfl,⟨cs',rfl,hx1⟩,hnd,hrg,hb1⟩;obtain ⟨p1,n1,q1,p2,n2,q2,hsh⟩:=hx1.shape;subst hsh;have HB1:=hid hb1;have HX1:=hid hx1;have HND:Hid fp.Nodup:=hnd;have HRG:=hid hrg;have o1:=HM.out.own.kept (grownBy_belowR (r:=none) hb1) (Or.inr (by simp [Value.ownBlock]));have HO1:=hid o1;have f0:=o1.frozenAt (k * 2);obtain ⟨y0,g0⟩:=own_someR o1 (k * 2) (by omega);have f1:=o1.frozenAt (k * 2+1);obtain ⟨y1,g1⟩:=own_someR o1 (k * 2+1) (by omega);clear o1 hb1 hx1 hnd hrg));have sd:=stored2 HO1.out (k * 2) (.slice p1 n1 q1) (.slice p2 n2 q2);have hlen:xs.length=n * 2:=HO1.out.1;exact ⟨⟨k+1,_,_,by omega,by go_num,Made.step (O:=fun w=>OCls w d) (c:=2) (fun w w' cs x f h hk=>OCls.keep h hk) HM.out hxk HB1.out HX1.out HND.out HRG.out rfl sd.1 sd.2 (fun m hm=>set2_other hm) (fun j hj=>set2_self (by omega) j hj)⟩,by simp [intOf];omega⟩
  · obtain rfl:k=n:=by omega
    obtain ⟨fp,r1,r2,r3⟩:=HM.out.done HN.out (by unfold maxLen;omega);have R1:=hid r1;have R2:Hid (fp.Nodup∧∀ a ∈ fp,G≤a∧a<wr.heap.size):=⟨r2,r3⟩;clear r1 r2 r3;go_wp2;go_ret;exact ⟨_,fp,rfl,R1.out,R2.out.1,R2.out.2,HM.out.below⟩
theorem toClause_ofO {d:Nat} (h0:ToO 208 (fun w v es=>Rows w All 6 (HEx w All d) v es) (fun w v es fp=>ORows w 76 6 (OEx w d) v es fp) (wtS (wtEx d))) (h1:ToO 208 (fun w v es=>Rows w All 6 (HEx w All d) v es) (fun w v es fp=>ORows w 76 6 (OEx w d) v es fp) (wtS (wtEx d))) :
 ToO 182 (fun w v e=>∃ cs,v=.agg cs.toArray∧HCl w All (HEx w All d) cs e) (fun w v e fp=>∃ cs,v=.agg cs.toArray∧OCl w (OEx w d) cs e fp) (wtCl (wtEx d)):=by
 intro w v e i1 hwt;obtain ⟨cs,rfl,v0,v1,rfl,f0,f1⟩:=i1;have hw0:wtS (wtEx d) e.1≤16777216:=(by unfold wtCl at hwt;omega);have E0:∀ w',SameOn All w w'→Rows w' All 6 (HEx w' All d) v0 e.1:=fun w' hw=>f0.mono hw (fun _ h=>h) (fun _ _ _=>HEx.mono hw (fun _ h=>h));have hw1:wtS (wtEx d) e.2≤16777216:=(by unfold wtCl at hwt;omega);have E1:∀ w',SameOn All w w'→Rows w' All 6 (HEx w' All d) v1 e.2:=fun w' hw=>f1.mono hw (fun _ h=>h) (fun _ _ _=>HEx.mono hw (fun _ h=>h));obtain ⟨p0,c0,rfl,_⟩:=id f0;obtain ⟨p1,c1,rfl,_⟩:=id f1;clear f0 f1;go_enter func182,ntmps182;go_wp2_with fail;have hal:Below w.heap.size w (((w.alloc (.cells #[.slice p0 e.1.length c0,.slice p1 e.2.length c1] 220)).alloc (.cells #[.slice none 0 0,.slice none 0 0] 46)).alloc (.cells #[.slice none 0 0,.slice none 0 0] 46)):=(((sqN _ _)).alloc (by simp only [alloc_hs];omega) _).alloc (by simp only [alloc_hs];omega) _;refine (h0 _ _ e.1 (E0 _ (sqO hal)) hw0).mono ?_;rintro ex w1 ⟨u,fA,rfl,r0,ndA,rgA,hb⟩;have bA:=((Blk.new (w:=w) (cs:=#[.slice p0 e.1.length c0,.slice p1 e.2.length c1]) (t:=220)).alloc (o:=.cells #[.slice none 0 0,.slice none 0 0] 46)).alloc (o:=.cells #[.slice none 0 0,.slice none 0 0] 46);have bR:=(Blk.new (w:=(w.alloc (.cells #[.slice p0 e.1.length c0,.slice p1 e.2.length c1] 220))) (cs:=#[.slice none 0 0,.slice none 0 0]) (t:=46)).alloc (o:=.cells #[.slice none 0 0,.slice none 0 0] 46);have bO:=(Blk.new (w:=((w.alloc (.cells #[.slice p0 e.1.length c0,.slice p1 e.2.length c1] 220)).alloc (.cells #[.slice none 0 0,.slice none 0 0] 46))) (cs:=#[.slice none 0 0,.slice none 0 0]) (t:=46));simp only [alloc_hs] at bA bR bO rgA
 replace bA:=bA.below hb (by simp only [alloc_hs];omega)
 replace bR:=bR.below hb (by simp only [alloc_hs];omega)
 replace bO:=bO.below hb (by simp only [alloc_hs];omega)
 have B1:Below w.heap.size w w1:=hal.trans (hb.mono hal.size);have z1:w.heap.size+3≤w1.heap.size:=(by have:=hb.size;simp only [alloc_hs] at this;omega);have Z1:=hid z1;have T0:=hid r0;have NA:=hid ndA;have GA:=hid rgA;clear hal hb z1 ndA rgA;obtain ⟨p0',c0',hu,_⟩:=r0.shape;subst hu;clear r0;have a1:=bA.cell 1 _ rfl;have o0:=bO.cell 0 _ rfl;have g0:=bO.frozen 0;have HA:=hid bA;have HR:=hid bR;have HO:Hid (Blk w1 (w.heap.size+1+1) #[.slice none 0 0,.slice none 0 0] 46):=bO;have HB1:=hid B1;clear bA bR bO B1;go_wp2_with fail;have hp:Below w.heap.size w (w1.setCell ⟨w.heap.size+1+1,0,none⟩ (.slice p0' e.1.length c0')):=HB1.out.setCell (by show _≤w.heap.size+1+1;omega) _;refine (h1 _ _ e.2 (E1 _ (sqO hp)) hw1).mono ?_;rintro ex w2 ⟨u,fB,rfl,r1,ndB,rgB,hb⟩;have bA:=((HA.out.other (p:=⟨w.heap.size+1+1,0,none⟩) (v:=(.slice p0' e.1.length c0')) (by show w.heap.size≠w.heap.size+1+1;omega)).below hb (by have:=Z1.out;simp only [setCell_hs];omega));have bR:=((HR.out.other (p:=⟨w.heap.size+1+1,0,none⟩) (v:=(.slice p0' e.1.length c0')) (by show w.heap.size+1≠w.heap.size+1+1;omega)).below hb (by have:=Z1.out;simp only [setCell_hs];omega));have bO:=((HO.out.same (j:=0) (v:=(.slice p0' e.1.length c0')) (cs':=#[.slice p0' e.1.length c0',.slice none 0 0]) rfl).below hb (by have:=Z1.out;simp only [setCell_hs];omega));have B2:Below w.heap.size w w2:=hp.trans (hb.mono hp.size);simp only [setCell_hs] at rgB
 have k01:KeepOn fA w1 w2:=fun a ha=>by
  have h:=GA.out a ha;exact (hb.block a (by simp only [setCell_hs];exact h.2)).trans (Below.heap_setCell _ _ _ _ (by show a≠w.heap.size+1+1;omega))
 have T0:Hid (ORows w2 76 6 (OEx w2 d) (.slice p0' e.1.length c0') e.1 fA):=(by have h:=T0.out;exact h.keep k01 (fun cs x f _ hs h=>h.keep (k01.sub hs)));have T1:=hid r1;have sz2:w1.heap.size≤w2.heap.size:=(by have:=hb.size;simp only [setCell_hs] at this;exact this)
 have HND:Hid ((fA ++ fB).Nodup):=by
  show List.Nodup _;rw [List.nodup_append];exact ⟨NA.out,ndB,fun a ha b hb=>by have:=GA.out a ha;have:=rgB b hb;omega⟩
 have HRG:Hid (∀ a ∈ fA ++ fB,w.heap.size+1+1+1≤a∧a<w2.heap.size):=fun a ha=>by
  rcases List.mem_append.1 ha with ha | ha
  · have:=GA.out a ha;omega
  · have:=rgB a ha;have:=Z1.out;omega
 have HB2:=hid B2;obtain ⟨p1',c1',hu,_⟩:=r1.shape;subst hu;clear hp hb r1 HA HR HO HB1 k01 ndB rgB NA GA sz2 B2;have o0:=bO.cell 0 _ rfl;have q0:=bR.cell 0 _ rfl;have k0:=bR.frozen 0;have o1:=bO.cell 1 _ rfl;have q1:=bR.cell 1 _ rfl;have k1:=bR.frozen 1;have g1:=bO.frozen 1;clear bA bR bO;go_wp2_with fail;have sf:SameOn (fun g=>w.heap.size+1+1+1≤g) w2 (((w2.setCell ⟨w.heap.size+1+1,1,none⟩ (.slice p1' e.2.length c1')).setCell ⟨w.heap.size+1,0,none⟩ (.slice p0' e.1.length c0')).setCell ⟨w.heap.size+1,1,none⟩ (.slice p1' e.2.length c1')):=SameOn.setCell (SameOn.setCell (SameOn.setCell (sqO (Below.refl _ _)) (by show ¬ (_≤w.heap.size+1+1);omega) _) (by show ¬ (_≤w.heap.size+1);omega) _) (by show ¬ (_≤w.heap.size+1);omega) _;have bf:Below w.heap.size w (((w2.setCell ⟨w.heap.size+1+1,1,none⟩ (.slice p1' e.2.length c1')).setCell ⟨w.heap.size+1,0,none⟩ (.slice p0' e.1.length c0')).setCell ⟨w.heap.size+1,1,none⟩ (.slice p1' e.2.length c1')):=Below.setCell (Below.setCell (Below.setCell (HB2.out) (by show _≤w.heap.size+1+1;omega) _) (by show _≤w.heap.size+1;omega) _) (by show _≤w.heap.size+1;omega) _;have kf:KeepOn (fA ++ fB) w2 (((w2.setCell ⟨w.heap.size+1+1,1,none⟩ (.slice p1' e.2.length c1')).setCell ⟨w.heap.size+1,0,none⟩ (.slice p0' e.1.length c0')).setCell ⟨w.heap.size+1,1,none⟩ (.slice p1' e.2.length c1')):=fun a ha=>sf.2 a (HRG.out a ha).1 (HRG.out a ha).2;have kA:=kf.sub (fp':=fA) (fun a ha=>by simp [ha]);have kB:=kf.sub (fp':=fB) (fun a ha=>by simp [ha]);have U0:=T0.out.keep kA (fun cs x f _ hs h=>h.keep (kA.sub hs));have U1:=T1.out.keep kB (fun cs x f _ hs h=>h.keep (kB.sub hs))
 exact bodyPost_ret (v:=.agg #[.slice p0' e.1.length c0',.slice p1' e.2.length c1']) (by simp [results,results182,go_sem,q0,q1]) rfl
  ⟨_,fA ++ fB,rfl,⟨_,rfl,_,_,fA,fB,rfl,rfl,U0,U1⟩,HND.out,fun a ha=>⟨by have:=(HRG.out a ha).1;omega,Nat.lt_of_lt_of_le (HRG.out a ha).2 sf.1⟩,bf⟩
theorem toExp_ofO {d:Nat} (h0:ToO 208 (fun w v es=>Rows w All 6 (HEx w All d) v es) (fun w v es fp=>ORows w 76 6 (OEx w d) v es fp) (wtS (wtEx d))) (h1:ToO 149 (fun w v es=>Rows w All 2 (HCl w All (HEx w All d)) v es) (fun w v es fp=>ORows w 46 2 (OCls w d) v es fp) (wtS (wtCl (wtEx d)))) :
 ToO 222 (fun w v e=>∃ cs,v=.agg cs.toArray∧HEx w All (d+1) cs e) (fun w v e fp=>∃ cs,v=.agg cs.toArray∧OEx w (d+1) cs e fp) (wtEx (d+1)):=by
 intro w v e i1 hwt;obtain ⟨cs,rfl,v0,v1,rfl,s0,s1,s2,s3,f0,f1⟩:=i1;have hw0:wtS (wtEx d) e.kids≤16777216:=(by unfold wtEx at hwt;omega);have E0:∀ w',SameOn All w w'→Rows w' All 6 (HEx w' All d) v0 e.kids:=fun w' hw=>f0.mono hw (fun _ h=>h) (fun _ _ _=>HEx.mono hw (fun _ h=>h));have hw1:wtS (wtCl (wtEx d)) e.clauses≤16777216:=(by unfold wtEx at hwt;omega);have E1:∀ w',SameOn All w w'→Rows w' All 2 (HCl w' All (HEx w' All d)) v1 e.clauses:=fun w' hw=>f1.mono hw (fun _ h=>h) (fun _ _ _ h=>h.mono hw (fun _ h=>h) (fun _ _=>HEx.mono hw (fun _ h=>h)));obtain ⟨p0,c0,rfl,_⟩:=id f0;obtain ⟨p1,c1,rfl,_⟩:=id f1;clear f0 f1;go_enter func222,ntmps222;go_wp2_with fail;have hal:Below w.heap.size w (((w.alloc (.cells #[.int .i64 e.kind,.int .i64 e.n,.string e.text,.string e.mod,.slice p0 e.kids.length c0,.slice p1 e.clauses.length c1] 263)).alloc (.cells #[.int .i64 0,.int .i64 0,.string ⟨#[]⟩,.string ⟨#[]⟩,.slice none 0 0,.slice none 0 0] 76)).alloc (.cells #[.int .i64 e.kind,.int .i64 e.n,.string e.text,.string e.mod,.slice none 0 0,.slice none 0 0] 76)):=(((sqN _ _)).alloc (by simp only [alloc_hs];omega) _).alloc (by simp only [alloc_hs];omega) _;refine (h0 _ _ e.kids (E0 _ (sqO hal)) hw0).mono ?_;rintro ex w1 ⟨u,fA,rfl,r0,ndA,rgA,hb⟩;have bA:=((Blk.new (w:=w) (cs:=#[.int .i64 e.kind,.int .i64 e.n,.string e.text,.string e.mod,.slice p0 e.kids.length c0,.slice p1 e.clauses.length c1]) (t:=263)).alloc (o:=.cells #[.int .i64 0,.int .i64 0,.string ⟨#[]⟩,.string ⟨#[]⟩,.slice none 0 0,.slice none 0 0] 76)).alloc (o:=.cells #[.int .i64 e.kind,.int .i64 e.n,.string e.text,.string e.mod,.slice none 0 0,.slice none 0 0] 76);have bR:=(Blk.new (w:=(w.alloc (.cells #[.int .i64 e.kind,.int .i64 e.n,.string e.text,.string e.mod,.slice p0 e.kids.length c0,.slice p1 e.clauses.length c1] 263))) (cs:=#[.int .i64 0,.int .i64 0,.string ⟨#[]⟩,.string ⟨#[]⟩,.slice none 0 0,.slice none 0 0]) (t:=76)).alloc (o:=.cells #[.int .i64 e.kind,.int .i64 e.n,.string e.text,.string e.mod,.slice none 0 0,.slice none 0 0] 76);have bO:=(Blk.new (w:=((w.alloc (.cells #[.int .i64 e.kind,.int .i64 e.n,.string e.text,.string e.mod,.slice p0 e.kids.length c0,.slice p1 e.clauses.length c1] 263)).alloc (.cells #[.int .i64 0,.int .i64 0,.string ⟨#[]⟩,.string ⟨#[]⟩,.slice none 0 0,.slice none 0 0] 76))) (cs:=#[.int .i64 e.kind,.int .i64 e.n,.string e.text,.string e.mod,.slice none 0 0,.slice none 0 0]) (t:=76));simp only [alloc_hs] at bA bR bO rgA
 replace bA:=bA.below hb (by simp only [alloc_hs];omega)
 replace bR:=bR.below hb (by simp only [alloc_hs];omega)
 replace bO:=bO.below hb (by simp only [alloc_hs];omega)
 have B1:Below w.heap.size w w1:=hal.trans (hb.mono hal.size);have z1:w.heap.size+3≤w1.heap.size:=(by have:=hb.size;simp only [alloc_hs] at this;omega);have Z1:=hid z1;have T0:=hid r0;have NA:=hid ndA;have GA:=hid rgA;clear hal hb z1 ndA rgA;obtain ⟨p0',c0',hu,_⟩:=r0.shape;subst hu;clear r0;have a5:=bA.cell 5 _ rfl;have o4:=bO.cell 4 _ rfl;have g4:=bO.frozen 4;have HA:=hid bA;have HR:=hid bR;have HO:Hid (Blk w1 (w.heap.size+1+1) #[.int .i64 e.kind,.int .i64 e.n,.string e.text,.string e.mod,.slice none 0 0,.slice none 0 0] 76):=bO;have HB1:=hid B1;clear bA bR bO B1;go_wp2_with fail;have hp:Below w.heap.size w (w1.setCell ⟨w.heap.size+1+1,4,none⟩ (.slice p0' e.kids.length c0')):=HB1.out.setCell (by show _≤w.heap.size+1+1;omega) _;refine (h1 _ _ e.clauses (E1 _ (sqO hp)) hw1).mono ?_;rintro ex w2 ⟨u,fB,rfl,r1,ndB,rgB,hb⟩;have bA:=((HA.out.other (p:=⟨w.heap.size+1+1,4,none⟩) (v:=(.slice p0' e.kids.length c0')) (by show w.heap.size≠w.heap.size+1+1;omega)).below hb (by have:=Z1.out;simp only [setCell_hs];omega));have bR:=((HR.out.other (p:=⟨w.heap.size+1+1,4,none⟩) (v:=(.slice p0' e.kids.length c0')) (by show w.heap.size+1≠w.heap.size+1+1;omega)).below hb (by have:=Z1.out;simp only [setCell_hs];omega));have bO:=((HO.out.same (j:=4) (v:=(.slice p0' e.kids.length c0')) (cs':=#[.int .i64 e.kind,.int .i64 e.n,.string e.text,.string e.mod,.slice p0' e.kids.length c0',.slice none 0 0]) rfl).below hb (by have:=Z1.out;simp only [setCell_hs];omega));have B2:Below w.heap.size w w2:=hp.trans (hb.mono hp.size);simp only [setCell_hs] at rgB
 have k01:KeepOn fA w1 w2:=fun a ha=>by
  have h:=GA.out a ha;exact (hb.block a (by simp only [setCell_hs];exact h.2)).trans (Below.heap_setCell _ _ _ _ (by show a≠w.heap.size+1+1;omega))
 have T0:Hid (ORows w2 76 6 (OEx w2 d) (.slice p0' e.kids.length c0') e.kids fA):=(by have h:=T0.out;exact h.keep k01 (fun cs x f _ hs h=>h.keep (k01.sub hs)));have T1:=hid r1;have sz2:w1.heap.size≤w2.heap.size:=(by have:=hb.size;simp only [setCell_hs] at this;exact this)
 have HND:Hid ((fA ++ fB).Nodup):=by
  show List.Nodup _;rw [List.nodup_append];exact ⟨NA.out,ndB,fun a ha b hb=>by have:=GA.out a ha;have:=rgB b hb;omega⟩
 have HRG:Hid (∀ a ∈ fA ++ fB,w.heap.size+1+1+1≤a∧a<w2.heap.size):=fun a ha=>by
  rcases List.mem_append.1 ha with ha | ha
  · have:=GA.out a ha;omega
  · have:=rgB a ha;have:=Z1.out;omega
 have HB2:=hid B2;obtain ⟨p1',c1',hu,_⟩:=r1.shape;subst hu;clear hp hb r1 HA HR HO HB1 k01 ndB rgB NA GA sz2 B2;have o0:=bO.cell 0 _ rfl;have q0:=bR.cell 0 _ rfl;have k0:=bR.frozen 0;have o1:=bO.cell 1 _ rfl;have q1:=bR.cell 1 _ rfl;have k1:=bR.frozen 1;have o2:=bO.cell 2 _ rfl;have q2:=bR.cell 2 _ rfl;have k2:=bR.frozen 2;have o3:=bO.cell 3 _ rfl;have q3:=bR.cell 3 _ rfl;have k3:=bR.frozen 3;have o4:=bO.cell 4 _ rfl;have q4:=bR.cell 4 _ rfl;have k4:=bR.frozen 4;have o5:=bO.cell 5 _ rfl;have q5:=bR.cell 5 _ rfl;have k5:=bR.frozen 5;have g5:=bO.frozen 5;clear bA bR bO;go_wp2_with fail;have sf:SameOn (fun g=>w.heap.size+1+1+1≤g) w2 (((((((w2.setCell ⟨w.heap.size+1+1,5,none⟩ (.slice p1' e.clauses.length c1')).setCell ⟨w.heap.size+1,0,none⟩ (.int .i64 e.kind)).setCell ⟨w.heap.size+1,1,none⟩ (.int .i64 e.n)).setCell ⟨w.heap.size+1,2,none⟩ (.string e.text)).setCell ⟨w.heap.size+1,3,none⟩ (.string e.mod)).setCell ⟨w.heap.size+1,4,none⟩ (.slice p0' e.kids.length c0')).setCell ⟨w.heap.size+1,5,none⟩ (.slice p1' e.clauses.length c1')):=SameOn.setCell (SameOn.setCell (SameOn.setCell (SameOn.setCell (SameOn.setCell (SameOn.setCell (SameOn.setCell (sqO (Below.refl _ _)) (by show ¬ (_≤w.heap.size+1+1);omega) _) (by show ¬ (_≤w.heap.size+1);omega) _) (by show ¬ (_≤w.heap.size+1);omega) _) (by show ¬ (_≤w.heap.size+1);omega) _) (by show ¬ (_≤w.heap.size+1);omega) _) (by show ¬ (_≤w.heap.size+1);omega) _) (by show ¬ (_≤w.heap.size+1);omega) _;have bf:Below w.heap.size w (((((((w2.setCell ⟨w.heap.size+1+1,5,none⟩ (.slice p1' e.clauses.length c1')).setCell ⟨w.heap.size+1,0,none⟩ (.int .i64 e.kind)).setCell ⟨w.heap.size+1,1,none⟩ (.int .i64 e.n)).setCell ⟨w.heap.size+1,2,none⟩ (.string e.text)).setCell ⟨w.heap.size+1,3,none⟩ (.string e.mod)).setCell ⟨w.heap.size+1,4,none⟩ (.slice p0' e.kids.length c0')).setCell ⟨w.heap.size+1,5,none⟩ (.slice p1' e.clauses.length c1')):=Below.setCell (Below.setCell (Below.setCell (Below.setCell (Below.setCell (Below.setCell (Below.setCell (HB2.out) (by show _≤w.heap.size+1+1;omega) _) (by show _≤w.heap.size+1;omega) _) (by show _≤w.heap.size+1;omega) _) (by show _≤w.heap.size+1;omega) _) (by show _≤w.heap.size+1;omega) _) (by show _≤w.heap.size+1;omega) _) (by show _≤w.heap.size+1;omega) _;have kf:KeepOn (fA ++ fB) w2 (((((((w2.setCell ⟨w.heap.size+1+1,5,none⟩ (.slice p1' e.clauses.length c1')).setCell ⟨w.heap.size+1,0,none⟩ (.int .i64 e.kind)).setCell ⟨w.heap.size+1,1,none⟩ (.int .i64 e.n)).setCell ⟨w.heap.size+1,2,none⟩ (.string e.text)).setCell ⟨w.heap.size+1,3,none⟩ (.string e.mod)).setCell ⟨w.heap.size+1,4,none⟩ (.slice p0' e.kids.length c0')).setCell ⟨w.heap.size+1,5,none⟩ (.slice p1' e.clauses.length c1')):=fun a ha=>sf.2 a (HRG.out a ha).1 (HRG.out a ha).2;have kA:=kf.sub (fp':=fA) (fun a ha=>by simp [ha]);have kB:=kf.sub (fp':=fB) (fun a ha=>by simp [ha]);have U0:=T0.out.keep kA (fun cs x f _ hs h=>h.keep (kA.sub hs));have U1:=T1.out.keep kB (fun cs x f _ hs h=>OCls.keep h (kB.sub hs))
 exact bodyPost_ret (v:=.agg #[.int .i64 e.kind,.int .i64 e.n,.string e.text,.string e.mod,.slice p0' e.kids.length c0',.slice p1' e.clauses.length c1']) (by simp [results,results222,go_sem,q0,q1,q2,q3,q4,q5]) rfl
  ⟨_,fA ++ fB,rfl,⟨_,rfl,_,_,fA,fB,rfl,rfl,s0,s1,s2,s3,U0,U1⟩,HND.out,fun a ha=>⟨by have:=(HRG.out a ha).1;omega,Nat.lt_of_lt_of_le (HRG.out a ha).2 sf.1⟩,bf⟩
theorem toExp_own:∀ d,ToO 222 (fun w v e=>∃ cs,v=.agg cs.toArray∧HEx w All d cs e) (fun w v e fp=>∃ cs,v=.agg cs.toArray∧OEx w d cs e fp) (wtEx d)
 | 0=>fun w v x ⟨_,_,h⟩ _=>h.elim
 | d+1=>toExp_ofO (toExpS_ofO (toExp_own d)) (toClauseS_ofO (toClause_ofO (toExpS_ofO (toExp_own d)) (toExpS_ofO (toExp_own d))))
theorem toClause_own (d:Nat):ToO 182 (fun w v e=>∃ cs,v=.agg cs.toArray∧HCl w All (HEx w All d) cs e) (fun w v e fp=>∃ cs,v=.agg cs.toArray∧OCl w (OEx w d) cs e fp) (wtCl (wtEx d)) :=
 toClause_ofO (toExpS_ofO (toExp_own d)) (toExpS_ofO (toExp_own d))
theorem toClauseS_own (d:Nat):ToO 149 (fun w v es=>Rows w All 2 (HCl w All (HEx w All d)) v es) (fun w v es fp=>ORows w 46 2 (OCl w (OEx w d)) v es fp) (wtS (wtCl (wtEx d))):=toClauseS_ofO (toClause_own d)
theorem toRefS_ofO {d:Nat} (hE:ToO 106 (fun w v e=>∃ cs,v=.agg cs.toArray∧HRf cs e) (fun w v e fp=>∃ cs,v=.agg cs.toArray∧ORf w d cs e fp) (wtRf)) :
 ToO 66 (fun w v es=>Rows w All 2 (HRf) v es) (fun w v es fp=>ORows w 84 2 (ORf w d) v es fp) (wtS (wtRf)):=by
 intro w v es h hwt;obtain ⟨p,cap,rfl,hcl,hcm,hx⟩:=h;generalize hn:es.length=n at *;have HN:=hid hn;have HX:Hid _:=hx;have hnb:n≤16777216:=(by unfold wtS at hwt;omega);have HWT:=hid hwt;clear hx hn hwt;obtain ⟨M,hM,hmk⟩:=make_row (t:=60) (e:=84) (c:=2) underlying60 (by kernel_rfl) w n hnb;have HO:Hid (Made w (w.alloc (.cells M 84)) w.heap.size n 84 2 (fun w=>ORf w d) es 0 M.toList []):=Made.start hM (by unfold maxLen;omega)
 try unfold Bz
 generalize hG:w.heap.size=G at *;have HG:=hid hG;go_enter func66,ntmps66;go_wp2
 go_loopw [4] (fun iv wr=>∃ (k:Nat) (xs:List Value) (fps:List (List Nat)),k≤n∧iv=.int .i64 k∧Hid (Made w wr G n 84 2 (fun w=>ORf w d) es k xs fps)) (fun iv _=>n - (intOf iv).toNat)
 case atStart=>exact ⟨0,M.toList,[],Nat.zero_le _,rfl,HO⟩
 case round =>
  obtain ⟨k,xs,fps,hk,rfl,HM⟩:=hrel;by_cases hlt:k<n
  · obtain ⟨x,hxk⟩:=sqA (l:=es) (k:=k) HN.out hlt
    obtain ⟨g,off,rfl,hg,hgl,hat⟩:=HX.out (sqE hxk);obtain ⟨cs,hcl6,hcs,hex⟩:=hat k x hxk;have hbw:Below w.heap.size w wr:=(by rw [HG.out];exact HM.out.below);have hex':∀ w',SameOn All wr w'→HRf cs x:=fun w' hw=>hex;obtain ⟨z0,z1,rfl⟩:=len2 hcl6;obtain ⟨a0,a1⟩:=sqC2 hcs (by omega);rw [← hbw.cell (p:=⟨g,_,none⟩) (by show g<w.heap.size;rw [HG.out];exact hgl)] at a0 a1;simp at a0 a1
    have hwx:wtRf x≤16777216:=by
     have h1:=HWT.out;have h2:=sum_take_succ (wtRf) es k x hxk;have h3:=sum_take_le (wtRf) es (k+1);unfold wtS at h1;omega
    clear hbw hcs hat hex hcl6;go_wp2_with (go_at_call 106;go_must (refine (hE _ _ x ⟨_,rfl,hex' _ (by exact ⟨Nat.le_refl _,fun _ _ _=>rfl⟩)⟩ hwx).mono ?_;rintro e w1 ⟨u,fp,rfl,⟨cs',rfl,hx1⟩,hnd,hrg,hb1⟩;obtain ⟨st,sk,hsh⟩:=hx1.shape;subst hsh;have HB1:=hid hb1;have HX1:=hid hx1;have HND:Hid fp.Nodup:=hnd;have HRG:=hid hrg;have o1:=HM.out.own.kept (grownBy_belowR (r:=none) hb1) (Or.inr (by simp [Value.ownBlock]));have HO1:=hid o1;have f0:=o1.frozenAt (k * 2);obtain ⟨y0,g0⟩:=own_someR o1 (k * 2) (by omega);have f1:=o1.frozenAt (k * 2+1);obtain ⟨y1,g1⟩:=own_someR o1 (k * 2+1) (by omega);clear o1 hb1 hx1 hnd hrg));have sd:=stored2 HO1.out (k * 2) (.string st) (.int .i64 sk);have hlen:xs.length=n * 2:=HO1.out.1;exact ⟨⟨k+1,_,_,by omega,by go_num,Made.step (O:=fun w=>ORf w d) (c:=2) (fun w w' cs x f h hk=>h) HM.out hxk HB1.out HX1.out HND.out HRG.out rfl sd.1 sd.2 (fun m hm=>set2_other hm) (fun j hj=>set2_self (by omega) j hj)⟩,by simp [intOf];omega⟩
  · obtain rfl:k=n:=by omega
    obtain ⟨fp,r1,r2,r3⟩:=HM.out.done HN.out (by unfold maxLen;omega);have R1:=hid r1;have R2:Hid (fp.Nodup∧∀ a ∈ fp,G≤a∧a<wr.heap.size):=⟨r2,r3⟩;clear r1 r2 r3;go_wp2;go_ret;exact ⟨_,fp,rfl,R1.out,R2.out.1,R2.out.2,HM.out.below⟩
theorem toFunS_ofO {d:Nat} (hE:ToO 107 (fun w v e=>∃ cs,v=.agg cs.toArray∧HFn w All d cs e) (fun w v e fp=>∃ cs,v=.agg cs.toArray∧OFn w d cs e fp) (wtFn d)) :
 ToO 67 (fun w v es=>Rows w All 3 (HFn w All d) v es) (fun w v es fp=>ORows w 59 3 (OFn w d) v es fp) (wtS (wtFn d)):=by
 intro w v es h hwt;obtain ⟨p,cap,rfl,hcl,hcm,hx⟩:=h;generalize hn:es.length=n at *;have HN:=hid hn;have HX:Hid _:=hx;have hnb:n≤16777216:=(by unfold wtS at hwt;omega);have HWT:=hid hwt;clear hx hn hwt;obtain ⟨M,hM,hmk⟩:=make_row (t:=61) (e:=59) (c:=3) underlying61 (by kernel_rfl) w n hnb;have HO:Hid (Made w (w.alloc (.cells M 59)) w.heap.size n 59 3 (fun w=>OFn w d) es 0 M.toList []):=Made.start hM (by unfold maxLen;omega)
 try unfold Bz
 generalize hG:w.heap.size=G at *;have HG:=hid hG;go_enter func67,ntmps67;go_wp2
 go_loopw [4] (fun iv wr=>∃ (k:Nat) (xs:List Value) (fps:List (List Nat)),k≤n∧iv=.int .i64 k∧Hid (Made w wr G n 59 3 (fun w=>OFn w d) es k xs fps)) (fun iv _=>n - (intOf iv).toNat)
 case atStart=>exact ⟨0,M.toList,[],Nat.zero_le _,rfl,HO⟩
 case round =>
  obtain ⟨k,xs,fps,hk,rfl,HM⟩:=hrel;by_cases hlt:k<n
  · obtain ⟨x,hxk⟩:=sqA (l:=es) (k:=k) HN.out hlt
    obtain ⟨g,off,rfl,hg,hgl,hat⟩:=HX.out (sqE hxk);obtain ⟨cs,hcl6,hcs,hex⟩:=hat k x hxk;have hbw:Below w.heap.size w wr:=(by rw [HG.out];exact HM.out.below);have hex':∀ w',SameOn All wr w'→HFn w' All d cs x:=fun w' hw=>hex.mono (SameOn.trans (sqO hbw) hw) (fun _ h=>h);obtain ⟨z0,z1,z2,rfl⟩:=len3 hcl6;obtain ⟨a0,a1,a2⟩:=sqC3 hcs (by omega);rw [← hbw.cell (p:=⟨g,_,none⟩) (by show g<w.heap.size;rw [HG.out];exact hgl)] at a0 a1 a2;simp at a0 a1 a2
    have hwx:wtFn d x≤16777216:=by
     have h1:=HWT.out;have h2:=sum_take_succ (wtFn d) es k x hxk;have h3:=sum_take_le (wtFn d) es (k+1);unfold wtS at h1;omega
    clear hbw hcs hat hex hcl6;go_wp2_with (go_at_call 107;go_must (refine (hE _ _ x ⟨_,rfl,hex' _ (by exact ⟨Nat.le_refl _,fun _ _ _=>rfl⟩)⟩ hwx).mono ?_;rintro e w1 ⟨u,fp,rfl,⟨cs',rfl,hx1⟩,hnd,hrg,hb1⟩;obtain ⟨st,sk,p1,n1,q1,hsh⟩:=hx1.shape;subst hsh;have HB1:=hid hb1;have HX1:=hid hx1;have HND:Hid fp.Nodup:=hnd;have HRG:=hid hrg;have o1:=HM.out.own.kept (grownBy_belowR (r:=none) hb1) (Or.inr (by simp [Value.ownBlock]));have HO1:=hid o1;have f0:=o1.frozenAt (k * 3);obtain ⟨y0,g0⟩:=own_someR o1 (k * 3) (by omega);have f1:=o1.frozenAt (k * 3+1);obtain ⟨y1,g1⟩:=own_someR o1 (k * 3+1) (by omega);have f2:=o1.frozenAt (k * 3+2);obtain ⟨y2,g2⟩:=own_someR o1 (k * 3+2) (by omega);clear o1 hb1 hx1 hnd hrg));have sd:=stored3 HO1.out (k * 3) (.string st) (.int .i64 sk) (.slice p1 n1 q1);have hlen:xs.length=n * 3:=HO1.out.1;exact ⟨⟨k+1,_,_,by omega,by go_num,Made.step (O:=fun w=>OFn w d) (c:=3) (fun w w' cs x f h hk=>OFn.keep h hk) HM.out hxk HB1.out HX1.out HND.out HRG.out rfl sd.1 sd.2 (fun m hm=>set3_other hm) (fun j hj=>set3_self (by omega) j hj)⟩,by simp [intOf];omega⟩
  · obtain rfl:k=n:=by omega
    obtain ⟨fp,r1,r2,r3⟩:=HM.out.done HN.out (by unfold maxLen;omega);have R1:=hid r1;have R2:Hid (fp.Nodup∧∀ a ∈ fp,G≤a∧a<wr.heap.size):=⟨r2,r3⟩;clear r1 r2 r3;go_wp2;go_ret;exact ⟨_,fp,rfl,R1.out,R2.out.1,R2.out.2,HM.out.below⟩
theorem toRef_ofO {d:Nat} :
 ToO 106 (fun w v e=>∃ cs,v=.agg cs.toArray∧HRf cs e) (fun w v e fp=>∃ cs,v=.agg cs.toArray∧ORf w d cs e fp) (wtRf):=by
 intro w v e i1 hwt;obtain ⟨cs,rfl,rfl,s0,s1⟩:=i1;go_enter func106,ntmps106;go_wp2;exact bodyPost_ret (v:=.agg #[.string e.name,.int .i64 e.arity]) (by simp [results,results106,go_sem]) rfl ⟨_,[],rfl,⟨_,rfl,⟨rfl,s0,s1⟩,rfl⟩,by simp,fun a ha=>by simp at ha,(((sqN _ _)).alloc (by simp only [alloc_hs];omega) _).alloc (by simp only [alloc_hs];omega) _⟩
theorem toFun_ofO {d:Nat} (h0:ToO 149 (fun w v es=>Rows w All 2 (HCl w All (HEx w All d)) v es) (fun w v es fp=>ORows w 46 2 (OCls w d) v es fp) (wtS (wtCl (wtEx d)))) :
 ToO 107 (fun w v e=>∃ cs,v=.agg cs.toArray∧HFn w All d cs e) (fun w v e fp=>∃ cs,v=.agg cs.toArray∧OFn w d cs e fp) (wtFn d):=by
 intro w v e i1 hwt;obtain ⟨cs,rfl,v0,rfl,s0,s1,f0⟩:=i1;have hw0:wtS (wtCl (wtEx d)) e.clauses≤16777216:=(by unfold wtFn at hwt;omega);have E0:∀ w',SameOn All w w'→Rows w' All 2 (HCl w' All (HEx w' All d)) v0 e.clauses:=fun w' hw=>f0.mono hw (fun _ h=>h) (fun _ _ _ h=>h.mono hw (fun _ h=>h) (fun _ _=>HEx.mono hw (fun _ h=>h)));obtain ⟨p0,c0,rfl,_⟩:=id f0;clear f0;go_enter func107,ntmps107;go_wp2_with fail;have hal:Below w.heap.size w (((w.alloc (.cells #[.string e.name,.int .i64 e.arity,.slice p0 e.clauses.length c0] 137)).alloc (.cells #[.string ⟨#[]⟩,.int .i64 0,.slice none 0 0] 59)).alloc (.cells #[.string e.name,.int .i64 e.arity,.slice none 0 0] 59)):=(((sqN _ _)).alloc (by simp only [alloc_hs];omega) _).alloc (by simp only [alloc_hs];omega) _;refine (h0 _ _ e.clauses (E0 _ (sqO hal)) hw0).mono ?_;rintro ex w1 ⟨u,fp,rfl,r0,hnd,hrg,hb⟩;have bR:=(Blk.new (w:=(w.alloc (.cells #[.string e.name,.int .i64 e.arity,.slice p0 e.clauses.length c0] 137))) (cs:=#[.string ⟨#[]⟩,.int .i64 0,.slice none 0 0]) (t:=59)).alloc (o:=.cells #[.string e.name,.int .i64 e.arity,.slice none 0 0] 59);have bO:=(Blk.new (w:=((w.alloc (.cells #[.string e.name,.int .i64 e.arity,.slice p0 e.clauses.length c0] 137)).alloc (.cells #[.string ⟨#[]⟩,.int .i64 0,.slice none 0 0] 59))) (cs:=#[.string e.name,.int .i64 e.arity,.slice none 0 0]) (t:=59));simp only [alloc_hs] at bR bO hrg
 replace bR:=bR.below hb (by simp only [alloc_hs];omega)
 replace bO:=bO.below hb (by simp only [alloc_hs];omega)
 have HB1:=hid (hal.trans (hb.mono hal.size));have HND:=hid hnd;have HRG:=hid hrg;have T0:=hid r0;clear hal hb hnd hrg;obtain ⟨p1,c1,hu,_⟩:=r0.shape;subst hu;clear r0;have o0:=bO.cell 0 _ rfl;have q0:=bR.cell 0 _ rfl;have k0:=bR.frozen 0;have o1:=bO.cell 1 _ rfl;have q1:=bR.cell 1 _ rfl;have k1:=bR.frozen 1;have o2:=bO.cell 2 _ rfl;have q2:=bR.cell 2 _ rfl;have k2:=bR.frozen 2;have g2:=bO.frozen 2;clear bR bO;go_wp2_with fail;have sf:SameOn (fun g=>w.heap.size+1+1+1≤g) w1 ((((w1.setCell ⟨w.heap.size+1+1,2,none⟩ (.slice p1 e.clauses.length c1)).setCell ⟨w.heap.size+1,0,none⟩ (.string e.name)).setCell ⟨w.heap.size+1,1,none⟩ (.int .i64 e.arity)).setCell ⟨w.heap.size+1,2,none⟩ (.slice p1 e.clauses.length c1)):=SameOn.setCell (SameOn.setCell (SameOn.setCell (SameOn.setCell (sqO (Below.refl _ _)) (by show ¬ (_≤w.heap.size+1+1);omega) _) (by show ¬ (_≤w.heap.size+1);omega) _) (by show ¬ (_≤w.heap.size+1);omega) _) (by show ¬ (_≤w.heap.size+1);omega) _;have bf:Below w.heap.size w ((((w1.setCell ⟨w.heap.size+1+1,2,none⟩ (.slice p1 e.clauses.length c1)).setCell ⟨w.heap.size+1,0,none⟩ (.string e.name)).setCell ⟨w.heap.size+1,1,none⟩ (.int .i64 e.arity)).setCell ⟨w.heap.size+1,2,none⟩ (.slice p1 e.clauses.length c1)):=Below.setCell (Below.setCell (Below.setCell (Below.setCell (HB1.out) (by show _≤w.heap.size+1+1;omega) _) (by show _≤w.heap.size+1;omega) _) (by show _≤w.heap.size+1;omega) _) (by show _≤w.heap.size+1;omega) _;have kf:KeepOn fp w1 ((((w1.setCell ⟨w.heap.size+1+1,2,none⟩ (.slice p1 e.clauses.length c1)).setCell ⟨w.heap.size+1,0,none⟩ (.string e.name)).setCell ⟨w.heap.size+1,1,none⟩ (.int .i64 e.arity)).setCell ⟨w.heap.size+1,2,none⟩ (.slice p1 e.clauses.length c1)):=fun a ha=>sf.2 a (HRG.out a ha).1 (HRG.out a ha).2
 exact bodyPost_ret (v:=.agg #[.string e.name,.int .i64 e.arity,.slice p1 e.clauses.length c1]) (by simp [results,results107,go_sem,q0,q1,q2]) rfl
  ⟨_,fp,rfl,⟨_,rfl,_,rfl,s0,s1,T0.out.keep kf (fun cs x f _ hs h=>OCls.keep h (kf.sub hs))⟩,HND.out,fun a ha=>⟨by have:=(HRG.out a ha).1;omega,Nat.lt_of_lt_of_le (HRG.out a ha).2 sf.1⟩,bf⟩
theorem toModule_ofO {d:Nat} (h0:ToO 66 (fun w v es=>Rows w All 2 (HRf) v es) (fun w v es fp=>ORows w 84 2 (ORf w d) v es fp) (wtS (wtRf))) (h1:ToO 67 (fun w v es=>Rows w All 3 (HFn w All d) v es) (fun w v es fp=>ORows w 59 3 (OFn w d) v es fp) (wtS (wtFn d))) :
 ToO 26 (fun w v e=>∃ cs,v=.agg cs.toArray∧HMd w All d cs e) (fun w v e fp=>∃ cs,v=.agg cs.toArray∧OMd w d cs e fp) (wtMd d):=by
 intro w v e i1 hwt;obtain ⟨cs,rfl,v0,v1,rfl,s0,f0,f1⟩:=i1;have hw0:wtS (wtRf) e.exports≤16777216:=(by unfold wtMd at hwt;omega);have E0:∀ w',SameOn All w w'→Rows w' All 2 (HRf) v0 e.exports:=fun w' hw=>f0.mono hw (fun _ h=>h) (fun _ _ _ h=>h);have hw1:wtS (wtFn d) e.funs≤16777216:=(by unfold wtMd at hwt;omega);have E1:∀ w',SameOn All w w'→Rows w' All 3 (HFn w' All d) v1 e.funs:=fun w' hw=>f1.mono hw (fun _ h=>h) (fun _ _ _ h=>h.mono hw (fun _ h=>h));obtain ⟨p0,c0,rfl,_⟩:=id f0;obtain ⟨p1,c1,rfl,_⟩:=id f1;clear f0 f1;go_enter func26,ntmps26;go_wp2_with fail;have hal:Below w.heap.size w (((w.alloc (.cells #[.string e.name,.slice p0 e.exports.length c0,.slice p1 e.funs.length c1] 42)).alloc (.cells #[.string ⟨#[]⟩,.slice none 0 0,.slice none 0 0] 63)).alloc (.cells #[.string e.name,.slice none 0 0,.slice none 0 0] 63)):=(((sqN _ _)).alloc (by simp only [alloc_hs];omega) _).alloc (by simp only [alloc_hs];omega) _;refine (h0 _ _ e.exports (E0 _ (sqO hal)) hw0).mono ?_;rintro ex w1 ⟨u,fA,rfl,r0,ndA,rgA,hb⟩;have bA:=((Blk.new (w:=w) (cs:=#[.string e.name,.slice p0 e.exports.length c0,.slice p1 e.funs.length c1]) (t:=42)).alloc (o:=.cells #[.string ⟨#[]⟩,.slice none 0 0,.slice none 0 0] 63)).alloc (o:=.cells #[.string e.name,.slice none 0 0,.slice none 0 0] 63);have bR:=(Blk.new (w:=(w.alloc (.cells #[.string e.name,.slice p0 e.exports.length c0,.slice p1 e.funs.length c1] 42))) (cs:=#[.string ⟨#[]⟩,.slice none 0 0,.slice none 0 0]) (t:=63)).alloc (o:=.cells #[.string e.name,.slice none 0 0,.slice none 0 0] 63);have bO:=(Blk.new (w:=((w.alloc (.cells #[.string e.name,.slice p0 e.exports.length c0,.slice p1 e.funs.length c1] 42)).alloc (.cells #[.string ⟨#[]⟩,.slice none 0 0,.slice none 0 0] 63))) (cs:=#[.string e.name,.slice none 0 0,.slice none 0 0]) (t:=63));simp only [alloc_hs] at bA bR bO rgA
 replace bA:=bA.below hb (by simp only [alloc_hs];omega)
 replace bR:=bR.below hb (by simp only [alloc_hs];omega)
 replace bO:=bO.below hb (by simp only [alloc_hs];omega)
 have B1:Below w.heap.size w w1:=hal.trans (hb.mono hal.size);have z1:w.heap.size+3≤w1.heap.size:=(by have:=hb.size;simp only [alloc_hs] at this;omega);have Z1:=hid z1;have T0:=hid r0;have NA:=hid ndA;have GA:=hid rgA;clear hal hb z1 ndA rgA;obtain ⟨p0',c0',hu,_⟩:=r0.shape;subst hu;clear r0;have a2:=bA.cell 2 _ rfl;have o1:=bO.cell 1 _ rfl;have g1:=bO.frozen 1;have HA:=hid bA;have HR:=hid bR;have HO:Hid (Blk w1 (w.heap.size+1+1) #[.string e.name,.slice none 0 0,.slice none 0 0] 63):=bO;have HB1:=hid B1;clear bA bR bO B1;go_wp2_with fail;have hp:Below w.heap.size w (w1.setCell ⟨w.heap.size+1+1,1,none⟩ (.slice p0' e.exports.length c0')):=HB1.out.setCell (by show _≤w.heap.size+1+1;omega) _;refine (h1 _ _ e.funs (E1 _ (sqO hp)) hw1).mono ?_;rintro ex w2 ⟨u,fB,rfl,r1,ndB,rgB,hb⟩;have bA:=((HA.out.other (p:=⟨w.heap.size+1+1,1,none⟩) (v:=(.slice p0' e.exports.length c0')) (by show w.heap.size≠w.heap.size+1+1;omega)).below hb (by have:=Z1.out;simp only [setCell_hs];omega));have bR:=((HR.out.other (p:=⟨w.heap.size+1+1,1,none⟩) (v:=(.slice p0' e.exports.length c0')) (by show w.heap.size+1≠w.heap.size+1+1;omega)).below hb (by have:=Z1.out;simp only [setCell_hs];omega));have bO:=((HO.out.same (j:=1) (v:=(.slice p0' e.exports.length c0')) (cs':=#[.string e.name,.slice p0' e.exports.length c0',.slice none 0 0]) rfl).below hb (by have:=Z1.out;simp only [setCell_hs];omega));have B2:Below w.heap.size w w2:=hp.trans (hb.mono hp.size);simp only [setCell_hs] at rgB
 have k01:KeepOn fA w1 w2:=fun a ha=>by
  have h:=GA.out a ha;exact (hb.block a (by simp only [setCell_hs];exact h.2)).trans (Below.heap_setCell _ _ _ _ (by show a≠w.heap.size+1+1;omega))
 have T0:Hid (ORows w2 84 2 (ORf w2 d) (.slice p0' e.exports.length c0') e.exports fA):=(by have h:=T0.out;exact h.keep k01 (fun cs x f _ hs h=>h));have T1:=hid r1;have sz2:w1.heap.size≤w2.heap.size:=(by have:=hb.size;simp only [setCell_hs] at this;exact this)
 have HND:Hid ((fA ++ fB).Nodup):=by
  show List.Nodup _;rw [List.nodup_append];exact ⟨NA.out,ndB,fun a ha b hb=>by have:=GA.out a ha;have:=rgB b hb;omega⟩
 have HRG:Hid (∀ a ∈ fA ++ fB,w.heap.size+1+1+1≤a∧a<w2.heap.size):=fun a ha=>by
  rcases List.mem_append.1 ha with ha | ha
  · have:=GA.out a ha;omega
  · have:=rgB a ha;have:=Z1.out;omega
 have HB2:=hid B2;obtain ⟨p1',c1',hu,_⟩:=r1.shape;subst hu;clear hp hb r1 HA HR HO HB1 k01 ndB rgB NA GA sz2 B2;have o0:=bO.cell 0 _ rfl;have q0:=bR.cell 0 _ rfl;have k0:=bR.frozen 0;have o1:=bO.cell 1 _ rfl;have q1:=bR.cell 1 _ rfl;have k1:=bR.frozen 1;have o2:=bO.cell 2 _ rfl;have q2:=bR.cell 2 _ rfl;have k2:=bR.frozen 2;have g2:=bO.frozen 2;clear bA bR bO;go_wp2_with fail;have sf:SameOn (fun g=>w.heap.size+1+1+1≤g) w2 ((((w2.setCell ⟨w.heap.size+1+1,2,none⟩ (.slice p1' e.funs.length c1')).setCell ⟨w.heap.size+1,0,none⟩ (.string e.name)).setCell ⟨w.heap.size+1,1,none⟩ (.slice p0' e.exports.length c0')).setCell ⟨w.heap.size+1,2,none⟩ (.slice p1' e.funs.length c1')):=SameOn.setCell (SameOn.setCell (SameOn.setCell (SameOn.setCell (sqO (Below.refl _ _)) (by show ¬ (_≤w.heap.size+1+1);omega) _) (by show ¬ (_≤w.heap.size+1);omega) _) (by show ¬ (_≤w.heap.size+1);omega) _) (by show ¬ (_≤w.heap.size+1);omega) _;have bf:Below w.heap.size w ((((w2.setCell ⟨w.heap.size+1+1,2,none⟩ (.slice p1' e.funs.length c1')).setCell ⟨w.heap.size+1,0,none⟩ (.string e.name)).setCell ⟨w.heap.size+1,1,none⟩ (.slice p0' e.exports.length c0')).setCell ⟨w.heap.size+1,2,none⟩ (.slice p1' e.funs.length c1')):=Below.setCell (Below.setCell (Below.setCell (Below.setCell (HB2.out) (by show _≤w.heap.size+1+1;omega) _) (by show _≤w.heap.size+1;omega) _) (by show _≤w.heap.size+1;omega) _) (by show _≤w.heap.size+1;omega) _;have kf:KeepOn (fA ++ fB) w2 ((((w2.setCell ⟨w.heap.size+1+1,2,none⟩ (.slice p1' e.funs.length c1')).setCell ⟨w.heap.size+1,0,none⟩ (.string e.name)).setCell ⟨w.heap.size+1,1,none⟩ (.slice p0' e.exports.length c0')).setCell ⟨w.heap.size+1,2,none⟩ (.slice p1' e.funs.length c1')):=fun a ha=>sf.2 a (HRG.out a ha).1 (HRG.out a ha).2;have kA:=kf.sub (fp':=fA) (fun a ha=>by simp [ha]);have kB:=kf.sub (fp':=fB) (fun a ha=>by simp [ha]);have U0:=T0.out.keep kA (fun cs x f _ hs h=>h);have U1:=T1.out.keep kB (fun cs x f _ hs h=>h.keep (kB.sub hs))
 exact bodyPost_ret (v:=.agg #[.string e.name,.slice p0' e.exports.length c0',.slice p1' e.funs.length c1']) (by simp [results,results26,go_sem,q0,q1,q2]) rfl
  ⟨_,fA ++ fB,rfl,⟨_,rfl,_,_,fA,fB,rfl,rfl,s0,U0,U1⟩,HND.out,fun a ha=>⟨by have:=(HRG.out a ha).1;omega,Nat.lt_of_lt_of_le (HRG.out a ha).2 sf.1⟩,bf⟩
theorem toModule_own (d:Nat):ToO 26 (fun w v e=>∃ cs,v=.agg cs.toArray∧HMd w All d cs e) (fun w v e fp=>∃ cs,v=.agg cs.toArray∧OMd w d cs e fp) (wtMd d) :=
 toModule_ofO (toRefS_ofO (toRef_ofO (d:=d))) (toFunS_ofO (toFun_ofO (toClauseS_own d)))
theorem toModuleS_ofO {d:Nat} (hE:ToO 26 (fun w v e=>∃ cs,v=.agg cs.toArray∧HMd w All d cs e) (fun w v e fp=>∃ cs,v=.agg cs.toArray∧OMd w d cs e fp) (wtMd d)) :
 ToO 8 (fun w v es=>Rows w All 3 (HMd w All d) v es) (fun w v es fp=>ORows w 63 3 (OMd w d) v es fp) (wtS (wtMd d)):=by
 intro w v es h hwt;obtain ⟨p,cap,rfl,hcl,hcm,hx⟩:=h;generalize hn:es.length=n at *;have HN:=hid hn;have HX:Hid _:=hx;have hnb:n≤16777216:=(by unfold wtS at hwt;omega);have HWT:=hid hwt;clear hx hn hwt;obtain ⟨M,hM,hmk⟩:=make_row (t:=27) (e:=63) (c:=3) underlying27 (by kernel_rfl) w n hnb;have HO:Hid (Made w (w.alloc (.cells M 63)) w.heap.size n 63 3 (fun w=>OMd w d) es 0 M.toList []):=Made.start hM (by unfold maxLen;omega)
 try unfold Bz
 generalize hG:w.heap.size=G at *;have HG:=hid hG;go_enter func8,ntmps8;go_wp2
 go_loopw [4] (fun iv wr=>∃ (k:Nat) (xs:List Value) (fps:List (List Nat)),k≤n∧iv=.int .i64 k∧Hid (Made w wr G n 63 3 (fun w=>OMd w d) es k xs fps)) (fun iv _=>n - (intOf iv).toNat)
 case atStart=>exact ⟨0,M.toList,[],Nat.zero_le _,rfl,HO⟩
 case round =>
  obtain ⟨k,xs,fps,hk,rfl,HM⟩:=hrel;by_cases hlt:k<n
  · obtain ⟨x,hxk⟩:=sqA (l:=es) (k:=k) HN.out hlt
    obtain ⟨g,off,rfl,hg,hgl,hat⟩:=HX.out (sqE hxk);obtain ⟨cs,hcl6,hcs,hex⟩:=hat k x hxk;have hbw:Below w.heap.size w wr:=(by rw [HG.out];exact HM.out.below);have hex':∀ w',SameOn All wr w'→HMd w' All d cs x:=fun w' hw=>hex.mono (SameOn.trans (sqO hbw) hw) (fun _ h=>h);obtain ⟨z0,z1,z2,rfl⟩:=len3 hcl6;obtain ⟨a0,a1,a2⟩:=sqC3 hcs (by omega);rw [← hbw.cell (p:=⟨g,_,none⟩) (by show g<w.heap.size;rw [HG.out];exact hgl)] at a0 a1 a2;simp at a0 a1 a2
    have hwx:wtMd d x≤16777216:=by
     have h1:=HWT.out;have h2:=sum_take_succ (wtMd d) es k x hxk;have h3:=sum_take_le (wtMd d) es (k+1);unfold wtS at h1;omega
    clear hbw hcs hat hex hcl6;go_wp2_with (go_at_call 26;go_must (refine (hE _ _ x ⟨_,rfl,hex' _ (by exact ⟨Nat.le_refl _,fun _ _ _=>rfl⟩)⟩ hwx).mono ?_;rintro e w1 ⟨u,fp,rfl,⟨cs',rfl,hx1⟩,hnd,hrg,hb1⟩;obtain ⟨st,p1,n1,q1,p2,n2,q2,hsh⟩:=hx1.shape;subst hsh;have HB1:=hid hb1;have HX1:=hid hx1;have HND:Hid fp.Nodup:=hnd;have HRG:=hid hrg;have o1:=HM.out.own.kept (grownBy_belowR (r:=none) hb1) (Or.inr (by simp [Value.ownBlock]));have HO1:=hid o1;have f0:=o1.frozenAt (k * 3);obtain ⟨y0,g0⟩:=own_someR o1 (k * 3) (by omega);have f1:=o1.frozenAt (k * 3+1);obtain ⟨y1,g1⟩:=own_someR o1 (k * 3+1) (by omega);have f2:=o1.frozenAt (k * 3+2);obtain ⟨y2,g2⟩:=own_someR o1 (k * 3+2) (by omega);clear o1 hb1 hx1 hnd hrg));have sd:=stored3 HO1.out (k * 3) (.string st) (.slice p1 n1 q1) (.slice p2 n2 q2);have hlen:xs.length=n * 3:=HO1.out.1;exact ⟨⟨k+1,_,_,by omega,by go_num,Made.step (O:=fun w=>OMd w d) (c:=3) (fun w w' cs x f h hk=>h.keep hk) HM.out hxk HB1.out HX1.out HND.out HRG.out rfl sd.1 sd.2 (fun m hm=>set3_other hm) (fun j hj=>set3_self (by omega) j hj)⟩,by simp [intOf];omega⟩
  · obtain rfl:k=n:=by omega
    obtain ⟨fp,r1,r2,r3⟩:=HM.out.done HN.out (by unfold maxLen;omega);have R1:=hid r1;have R2:Hid (fp.Nodup∧∀ a ∈ fp,G≤a∧a<wr.heap.size):=⟨r2,r3⟩;clear r1 r2 r3;go_wp2;go_ret;exact ⟨_,fp,rfl,R1.out,R2.out.1,R2.out.2,HM.out.below⟩
theorem toModuleS_own (d:Nat):ToO 8 (fun w v es=>Rows w All 3 (HMd w All d) v es) (fun w v es fp=>ORows w 63 3 (OMd w d) v es fp) (wtS (wtMd d)):=toModuleS_ofO (toModule_own d)
theorem oms_tree {w:World} {d:Nat} {v:Value} {es:List Md} {fp:List Nat} (h:ORows w 63 3 (OMd w d) v es fp):Rows w All 3 (HMd w All d) v es :=
 h.rows (fun _ _=>trivial) (fun cs x f _ hs h=>h.tree (fun _ _=>trivial))
theorem oms_keep {w w':World} {d:Nat} {v:Value} {es:List Md} {fp:List Nat} (h:ORows w 63 3 (OMd w d) v es fp) (hk:KeepOn fp w w'):ORows w' 63 3 (OMd w' d) v es fp :=
 h.keep hk (fun cs x f _ hs h=>h.keep (hk.sub hs))
theorem oms_lt {w:World} {d:Nat} {v:Value} {es:List Md} {fp:List Nat} (h:ORows w 63 3 (OMd w d) v es fp):∀ a ∈ fp,a<w.heap.size :=
 h.lt (fun cs x f h=>h.lt)
theorem ret_strM {a b:List UInt8} (h:a=b):Ending.returned (.string ⟨a.toArray⟩)=.returned (.string ⟨b.toArray⟩):=by rw [h]
theorem mk_length_le:∀ (k u:Nat),u<10 ^ (k+1)→(Lib.decDigits u).length≤k+1
 | 0,u,h=>by
  rw [Lib.decDigits,dif_pos (by simpa using h)];simp
 | k+1,u,h=>by
  by_cases hu:u<10
  · rw [Lib.decDigits,dif_pos hu];simp
  · rw [Lib.decDigits,dif_neg hu,List.length_append]
    have:=mk_length_le k (u / 10) (by rw [Nat.div_lt_iff_lt_mul (by omega)];rw [Nat.pow_succ] at h;exact h);simp only [List.length_cons,List.length_nil];omega
theorem mk_step (x:Nat) (l D:List UInt8) (h:Lib.decDigits x ++ l=D) :
 (x / 10≠0→Lib.decDigits (x / 10) ++ ((48+UInt8.ofNat (x % 10)) :: l)=D)∧(x / 10=0→(48+UInt8.ofNat (x % 10)) :: l=D):=by
 have e:∀ m:Nat,(48+UInt8.ofNat m)=UInt8.ofNat (48+m):=fun m=>(UInt8.ofNat_add 48 m).symm;rw [e];refine ⟨fun h0=>?_,fun h0=>?_⟩
 · rw [Lib.decDigits,dif_neg (by omega)] at h
   rw [← h];simp
 · rw [Lib.decDigits,dif_pos (by omega)] at h
   rw [← h,Nat.mod_eq_of_lt (by omega)];rfl
theorem mk_cons (c:UInt8) (l:List UInt8):((⟨#[c]⟩:ByteArray) ++ ⟨l.toArray⟩)=⟨(c :: l).toArray⟩:=by
 apply ByteArray.ext;simp
theorem mk_conv (wr:World) (x:Nat) :
 Sem.run prog (convert 115 9 (.slice (some ⟨wr.heap.size,0,none⟩) 1 1)) (wr.alloc (.cells #[.int .u8 (48+(x:Int) % 10)] 5)) =
  .ok (.string ⟨#[UInt8.ofNat (48+x % 10)]⟩) (wr.alloc (.cells #[.int .u8 (48+(x:Int) % 10)] 5)):=by
 refine Go.run_convert_bytes_back (P:=prog) _ _ _ 5 ⟨wr.heap.size,0,none⟩ 1 [UInt8.ofNat (48+x % 10)] underlying115 underlying5 underlying9 ?_;intro j hj;simp only [List.length_cons,List.length_nil] at hj;obtain rfl:j=0:=(by omega)
 have e:(UInt8.ofNat (48+x % 10)).toNat=48+x % 10:=by
  rw [UInt8.toNat_ofNat'];omega
 simp only [List.getElem_cons_zero,e];simp [Addr.add]
theorem markText_any (n:Nat) (w:World) (h0:1≤n) (h1:n≤1099511627776) :
 Calls prog 35 #[.int .i64 n] w fun e w'=>e=.returned (.string ⟨(109 :: Lib.decDigits n).toArray⟩)∧Bz w w':=by
 have hD:(Lib.decDigits n).length≤13:=mk_length_le 12 n (by omega);have hz:¬ n=0:=(by omega);go_enter func35,ntmps35;go_wp2
 go_loopw [0,3] (fun m o wr=>∃ (x:Nat) (l:List UInt8),m=.int .i64 x∧o=.string ⟨l.toArray⟩∧x≤n∧(x≠0→Lib.decDigits x ++ l=Lib.decDigits n)∧(x=0→l=Lib.decDigits n)∧Bz w wr) (fun m _ _=>(intOf m).toNat)
 case atStart=>exact ⟨n,[],rfl,rfl,Nat.le_refl _,fun _=>by simp,fun h=>by omega,Below.refl _ _⟩
 case round =>
  obtain ⟨x,l,rfl,rfl,hx,hr1,hr2,hb⟩:=hrel;have H1:=hid hr1;have H2:=hid hr2;have HB:=hid hb;clear hr1 hr2 hb;by_cases hxz:0<x
  · have hcat:=H1.out (by omega)
    have hll:l.length≤20:=(by have:=congrArg List.length hcat;rw [List.length_append] at this;omega);have HS:Hid _:=mk_step x l _ hcat;have hcv:=mk_conv wr x;clear hcat H1 H2 hD;go_wp2;refine ⟨⟨x / 10,_,by go_num,by rw [mk_cons],by omega,HS.out.1,HS.out.2,HB.out.alloc HB.out.size _⟩,?_⟩;simp only [intOf];omega
  · have hl:l=Lib.decDigits n:=H2.out (by omega)
    have hll:l.length≤20:=(by rw [hl];omega);have HL:=hid hl;clear hl hD;go_wp2;go_ret;exact ⟨by rw [mk_cons];exact ret_strM (by rw [HL.out]),HB.out⟩
end Go.Proofs.YtdhlonogmnkemaaGreatDoor
