/-
  StepAll StepSmall StepImpl StepTop
-/
import Derived.Test.YtbdhpganbbandaaGreatDoorP39
import Derived.Test.YtbdhpganbbandaaGreatDoorP26
import Derived.Test.YtbdhpganbbandaaGreatDoorP29
import Derived.Test.YtbdhpganbbandaaGreatDoorP31
set_option maxHeartbeats 16000000
set_option linter.unusedVariables false
set_option maxRecDepth 100000
namespace Go.Proofs.YtbdhpganbbandaaGreatDoor
open Go.ChangeShapes Go.WideShapes Go.ChangeAt Go.RowKit
section
open Go.Maps Go.WideMaps Go.Shelf Go.Proofs.Tryz
attribute [local go_sem] Oper.semAt_some
def StA (d:Nat):Prop:=∀ (w:World) (mb n:Nat) (S:List UInt8->Prop) (cs:List Value) (x:Ex) (pat:Bool) (deep:Int),HEx w (λg=>g≠mb) d cs x->exOk d x pat deep=true->SetAt w mb n S->n+(varL d x).length<=33554432 ->
 Calls prog 199 #[.map (some mb),.agg cs.toArray] w λe w'=>e=.returned (.tuple #[])/\SetAt w' mb (n+(varL d x).length) (stepS d x S)/\Off [mb] w w'
def StO (d:Nat):Prop:=∀ (w:World) (mb n:Nat) (S:List UInt8->Prop) (v:Value) (es:List Ex),Rows w (λg=>g≠mb) 6 (HEx w (λg=>g≠mb) d) v es->(∀ y ∈ es,∃ p deep,exOk d y p deep=true)->SetAt w mb n S->n+(es.flatMap (varL d)).length<=33554432 ->
 Calls prog 188 #[.map (some mb),v] w λe w'=>e=.returned (.tuple #[])/\SetAt w' mb (n+(es.flatMap (varL d)).length) (es.foldr (stepS d) S)/\Off [mb] w w'
theorem rows_list {w:World} {S:Nat->Prop} {R:List Value->Ex->Prop} {p:Option Addr} {n cap:Nat} {es:List Ex} (h:Rows w S 6 R (.slice p n cap) es) :
 ∃ L:List (List Value),L.length=es.length/\∀ i cs,L[i]?=some cs->cs.length=6/\(∃ g off,p=some ⟨g,off,none⟩/\S g/\g<w.heap.size/\∀ j,j<6->w.cell? ⟨g,off+i * 6+j,none⟩=cs[j]?)/\∀ x,es[i]?=some x->R cs x:=by
 obtain ⟨p',cap',hv,-,-,hx⟩:=h;simp only [Value.slice.injEq] at hv;obtain ⟨rfl,-,rfl⟩:=hv;by_cases hne:es = []
 . subst hne;exact ⟨[],rfl,λi cs h=>by simp at h⟩
 obtain ⟨g,off,rfl,hS,hg,hat⟩:=hx hne
 have:∀ i ∈ List.range es.length,∃ cs:List Value,cs.length=6/\(∀ j,j<6->w.cell? ⟨g,off+i * 6+j,none⟩=cs[j]?)/\∀ x,es[i]?=some x->R cs x:=λi hi=>by
  have hi':i<es.length:=(by simpa using hi);obtain ⟨cs,h1,h2,h3⟩:=hat i _ (List.getElem?_eq_getElem hi');exact ⟨cs,h1,h2,λx hx=>by rw [List.getElem?_eq_getElem hi'] at hx;cases hx;exact h3⟩
 obtain ⟨L,hL,hat'⟩:=pick this;refine ⟨L,by simpa using hL,λi cs hi=>?_⟩;obtain ⟨i',hi',h1,h2,h3⟩:=hat' i cs hi;have hlt:i<es.length:=(by have:=(List.getElem?_eq_some_iff.1 hi).1;rw [hL] at this;simpa using this)
 obtain rfl:i'=i:=by
  rw [List.getElem?_range hlt] at hi';exact (Option.some.inj hi').symm
 exact ⟨h1,⟨g,off,rfl,hS,hg,h2⟩,h3⟩
theorem drop_back {α:Type} (es:List α) (n k:Nat) (x:α) (hn:es.length=n) (hk:k<n) (hx:es[n - 1 - k]?=some x):es.drop (n - (k+1))=x :: es.drop (n - k):=by
 have h1:n - (k+1)=n - 1 - k:=(by omega);have h2:n - k=n - 1 - k+1:=(by omega);obtain ⟨h3,h4⟩:=List.getElem?_eq_some_iff.1 hx;rw [h1,h2,List.drop_eq_getElem_cons h3,h4]
theorem flat_drop {α β:Type} (f:α->List β) (es:List α) (i:Nat):((es.drop i).flatMap f).length<=(es.flatMap f).length:=by
 conv=>rhs;rw [<-List.take_append_drop i es]
 rw [List.flatMap_append,List.length_append];omega
structure StI (w:World) (mb n d:Nat) (S:List UInt8->Prop) (es:List Ex) (W:World):Prop where
 set:SetAt W mb (n+(es.flatMap (varL d)).length) (es.foldr (stepS d) S)
 off:Off [mb] w W
 box:Blk W w.heap.size #[.map (some mb)] 162
theorem ofAll_of {d:Nat} (hA:StA d):StO d:=by
 intro w mb n S v es h hok hset hcnt;obtain ⟨p,cap,rfl,hcl,hcm,-⟩:=id h;obtain ⟨L,hLl,hLat⟩:=rows_list h;have hnb:=sqM hcl hcm;have hmb:=hset.lt;have HSET:=hid hset;have HCNT:=hid hcnt;have HOK:=hid hok;have HLT:=hid hLat;have HLL:=hid hLl;have HA:=hid hA;generalize hN:es.length=N at *;have HN:=hid hN;clear h hok hset hcnt hLat hA hN hLl;have hfB:Fence.wide.fn 198:=trivial;refine (callsIn_wide (n:=7)).1 ?_;refine callsIn_of_wp_marks func188 rfl trivial ?_ rfl;simp only [ntmps188,List.size_toArray,List.length_cons,List.length_nil,Nat.reduceAdd,Nat.reduceSub,Array.replicate_succ,Array.replicate_zero,List.push_toArray,List.append_toArray,List.nil_append,List.cons_append]
 gi_wp2_with (gi_at_call 198;refine ((callsIn_wide (n:=6)).2 (back_any _ _ _ _)).mono ?_;rintro e w' ⟨rfl,rfl⟩)
 have BW:Bz w ((w.alloc (.cells #[.map (some mb)] 162)).alloc (.cells #[.slice p N cap] 42)):=((sqN _ _)).alloc (by simp) _;have bM:Blk ((w.alloc (.cells #[.map (some mb)] 162)).alloc (.cells #[.slice p N cap] 42)) w.heap.size #[.map (some mb)] 162:=Blk.new.alloc
 have bS:Blk ((w.alloc (.cells #[.map (some mb)] 162)).alloc (.cells #[.slice p N cap] 42)) (w.heap.size+1) #[.slice p N cap] 42:=by
  have:=Blk.new (w:=w.alloc (.cells #[.map (some mb)] 162)) (cs:=#[.slice p N cap]) (t:=42)
  rwa [alloc_hs] at this
 have hsz:((w.alloc (.cells #[.map (some mb)] 162)).alloc (.cells #[.slice p N cap] 42)).heap.size=w.heap.size+2:=(by rw [alloc_hs,alloc_hs]);generalize hWW:(w.alloc (.cells #[.map (some mb)] 162)).alloc (.cells #[.slice p N cap] 42)=w0 at *
 refine range_idx rfl (by omega) (gf:=205) (lb:=#[.pointer (some ⟨w.heap.size+1,0,none⟩)]) rfl trivial (enters_of func205 (by kernel_rfl) rfl)
  (encs:=λk=>#[.int .i64 ((N - 1 - k:Nat):Nat),.agg (L.getD (N - 1 - k) []).toArray]) (λ_=>rfl) N mb (by omega)
  (λl J W hW hY h0=>back_idx 5 l (w.heap.size+1) w0.heap.size mb N cap p L HLL.out hnb (by omega) (by omega) J hY W ((hW.cell (p:=⟨w.heap.size+1,0,none⟩) (by show w.heap.size+1<_;omega)).trans (bS.cell 0 _ rfl)) (λi cs hi=>?lat) h0)
  (λk W=>StI w mb n d S (es.drop (N - k)) W)
  (λk A B h hA hB=>⟨h.set.keep (hB.block mb (by omega)),h.off.under (by omega) hB,h.box.below hB (by omega)⟩)
  (by rw [Nat.sub_zero,List.drop_of_length_le (by rw [HN.out];exact Nat.le_refl _)];exact ⟨HSET.out.keep (BW.block mb hmb),Off.of_below BW,bM⟩) ?round ?done
 case lat =>
  obtain ⟨h1,⟨g,off,h2,h3,h4,h5⟩,-⟩:=HLT.out i cs hi;exact ⟨h1,g,off,h2,by omega,h3,λj hj=>(hW.cell (p:=⟨g,_,none⟩) (by show g<_;omega)).trans ((BW.cell (p:=⟨g,_,none⟩) h4).trans (h5 j hj))⟩
 case round =>
  rintro l k W ⟨hs,ho,hm⟩ hsW hk hl;have hi:N - 1 - k<N:=(by omega);obtain ⟨cs,hcs⟩:∃ cs,L[N - 1 - k]?=some cs:=⟨L[N - 1 - k]'(by rw [HLL.out];exact hi),List.getElem?_eq_getElem _⟩;obtain ⟨x,hx⟩:∃ x,es[N - 1 - k]?=some x:=⟨es[N - 1 - k]'(by rw [HN.out];exact hi),List.getElem?_eq_getElem _⟩;have hgd:L.getD (N - 1 - k) []=cs:=(by rw [List.getD_eq_getElem?_getD,hcs];rfl);obtain ⟨-,-,h3⟩:=HLT.out _ cs hcs;have hex:=h3 x hx;obtain ⟨sk,sn,st,se,p1,n1,q1,p2,n2,q2,hsh⟩:=HEx.shapeN hex;subst hsh;rw [hgd];have HS:=hid hs;have HX:=hid hex;have HO:=hid ho;have HM:=hid hm;have HD:=hid (drop_back es N k x HN.out hk hx)
  have HFL:Hid (n+((es.drop (N - k)).flatMap (varL d)).length+(varL d x).length<=33554432):=by
   have h1:=flat_drop (varL d) es (N - (k+1));have h2:=HCNT.out;rw [HD.out,List.flatMap_cons,List.length_append] at h1;show _<=_;omega
  obtain ⟨px,dx,hpx⟩:=HOK.out x (List.mem_of_getElem? hx);have HPX:=hid hpx;clear hs hex ho hm hgd h3 hpx
  gi_wp2
  refine ⟨Off.of_below ((sqN _ _)),λr o' hl'=>?_⟩;have bB:=Blk.new (w:=W) (cs:=#[.int .i64 sk,.int .i64 sn,.string st,.string se,.slice p1 n1 q1,.slice p2 n2 q2]) (t:=74);have BA:Below w0.heap.size W (W.alloc (.cells #[.int .i64 sk,.int .i64 sn,.string st,.string se,.slice p1 n1 q1,.slice p2 n2 q2] 74)):=(Below.refl _ _).alloc hsW _
  have hne:W.heap.size≠l:=λe=>by
   unfold Blk at bB;rw [e,hl'] at bB
   cases bB
  generalize W.alloc (.cells #[.int .i64 sk,.int .i64 sn,.string st,.string se,.slice p1 n1 q1,.slice p2 n2 q2] 74)=W' at *;have BP:Below w0.heap.size W' (W'.putObj l o'):=below_put o' hl;have bB2:Blk (W'.putObj l o') W.heap.size #[.int .i64 sk,.int .i64 sn,.string st,.string se,.slice p1 n1 q1,.slice p2 n2 q2] 74:=(World.putObj_heap_other hne).trans bB;have BQ:Below w0.heap.size W (W'.putObj l o'):=BA.trans BP;have bM2:Blk (W'.putObj l o') w.heap.size #[.map (some mb)] 162:=HM.out.below BQ (by omega);have HO2:=hid (HO.out.under (by omega) BQ);have HS2:=hid (HS.out.keep (BQ.block mb (by omega)));generalize W'.putObj l o'=W2 at *;have c0:=bM2.cell 0 _ rfl;obtain ⟨d0,d1,d2,d3,d4,d5⟩:=sqB6 bB2;have HM2:=hid bM2;have hfA:Fence.wide.fn 199:=trivial;have hW2:w.heap.size+2<=W2.heap.size:=(by have:=BQ.size;omega);clear bB bB2 bM2 BA BP BQ hl'
  gi_wp2_with (gi_at_call 199;refine (CallsIn.inRound l ((callsIn_wide (n:=7 - 1 - 1 - 1)).2 (HA.out _ mb _ _ _ x px dx (HX.out.offN HO2.out) HPX.out HS2.out HFL.out))).mono ?_;rintro e w3 ⟨rfl,hs3,ho3⟩)
  rw [HD.out];refine ⟨?_,HO2.out.trans ho3,?_⟩
  . rw [ List.flatMap_cons,List.length_append,List.foldr_cons,show n+((varL d x).length+((es.drop (N - k)).flatMap (varL d)).length)=n+((es.drop (N - k)).flatMap (varL d)).length+(varL d x).length by omega]
    exact hs3
  . exact (ho3.block w.heap.size (by omega) (by simp;omega)).trans HM2.out
 case done =>
  intro D W hD hI hK;rw [Nat.sub_self,List.drop_zero] at hI;obtain ⟨hs,ho,-⟩:=hI
  gi_wp2
  refine ⟨by simp,.inl ⟨_,_,rfl,run_takeDeferred hK,?_⟩⟩;have hp:Below w0.heap.size W (W.putObj D (.deferred none)):=below_put _ hD;exact ⟨_,results_none rfl _ _ _,rfl,hs.keep (hp.block mb (by omega)),ho.under (by omega) hp⟩
end
section
open Go.Maps Go.WideMaps Go.Proofs.Tryz
def bindsB (k:Int) (nk:Nat):Bool:=decide (k=9) && decide (nk=2)
theorem binds_any (k n:Int) (t m:ByteArray) (p q:Option Addr) (nk c nc c':Nat) (w:World) :
 Calls prog 208 #[.agg #[.int .i64 k,.int .i64 n,.string t,.string m,.slice p nk c,.slice q nc c']] w λe w'=>e=.returned (.bool (bindsB k nk))/\w'=w.alloc (.cells #[.int .i64 k,.int .i64 n,.string t,.string m,.slice p nk c,.slice q nc c'] 74):=by
 by_cases hk:k=9
 . subst hk
   by_cases h2:nk=2
   . subst h2
     go_enter func208,ntmps208;go_wp2;go_ret;exact ⟨by simp [bindsB],rfl⟩
   . have h2':¬ (nk:Int)=2:=by omega
     have h2b:((nk:Int) == 2)=false:=(by simpa using h2');have HE:Hid (bindsB 9 nk=false):=(by show _=_;simp [bindsB,h2]);go_enter func208,ntmps208;go_wp2;go_ret;exact ⟨by rw [HE.out];rfl,rfl⟩
 . have hkb:(k == 9)=false:=by simpa using hk
   have HE:Hid (bindsB k nk=false):=(by show _=_;simp [bindsB,hk]);go_enter func208,ntmps208;go_wp2;go_ret;exact ⟨by rw [HE.out];rfl,rfl⟩
theorem addExp0_any (n:Int) (t m:ByteArray) (p q:Option Addr) (c nc c':Nat) (v:Value) (w:World) :
 Calls prog 223 #[v,.agg #[.int .i64 2,.int .i64 n,.string t,.string m,.slice p 0 c,.slice q nc c']] w λe w'=>e=.returned (.tuple #[])/\Bz w w':=by
 have BL:Hid (Bz w ((w.alloc (.cells #[.int .i64 2,.int .i64 n,.string t,.string m,.slice p 0 c,.slice q nc c'] 74)).alloc (.cells #[.int .i64 2,.int .i64 n,.string t,.string m,.slice p 0 c,.slice q nc c'] 74))):=((sqN _ _)).alloc (by simp) _;have hb:bindsB 2 0=false:=rfl;go_enter func223,ntmps223;go_wp2_with (go_at_call 208;refine (binds_any _ _ _ _ _ _ _ _ _ _ _).mono ?_;rintro e w' ⟨rfl,rfl⟩;rw [hb])
 go_loopw [24] (λiv wr=>iv=.int .i64 0/\Hid (Bz w wr)) (λ_ _=>0)
 case atStart=>exact ⟨rfl,BL.out⟩
 case round =>
  obtain ⟨rfl,HB⟩:=hrel;go_wp2;go_end0;exact ⟨rfl,HB.out⟩
theorem bound0_any (n:Int) (t m:ByteArray) (p q:Option Addr) (c nc c':Nat) (w:World) :
 Calls prog 207 #[.agg #[.int .i64 2,.int .i64 n,.string t,.string m,.slice p 0 c,.slice q nc c']] w λe w'=>(∃ p c,e=.returned (.slice p 0 c))/\Bz w w':=by
 have hm:=@mkMap;go_enter func207,ntmps207;go_wp2_with fail;have bO:=Blk.new (w:=((w.alloc (.cells #[.int .i64 2,.int .i64 n,.string t,.string m,.slice p 0 c,.slice q nc c'] 74)).alloc (.map #[] 0)).alloc (.cells #[] 9)) (cs:=#[.map (some (w.heap.size+1)),.slice (some ⟨w.heap.size+1+1,0,none⟩) 0 0]) (t:=280);simp only [alloc_hs] at bO;have BL:Bz w ((((w.alloc (.cells #[.int .i64 2,.int .i64 n,.string t,.string m,.slice p 0 c,.slice q nc c'] 74)).alloc (.map #[] 0)).alloc (.cells #[] 9)).alloc (.cells #[.map (some (w.heap.size+1)),.slice (some ⟨w.heap.size+1+1,0,none⟩) 0 0] 280)):=((((sqN _ _)).alloc (by simp) _).alloc (by simp only [alloc_hs];omega) _).alloc (by simp only [alloc_hs];omega) _;refine (addExp0_any _ _ _ _ _ _ _ _ _ _).mono ?_;rintro e w1 ⟨rfl,hb⟩;have b1:=bO.next hb;have x1:=b1.cell 1 _ rfl;have B1:=hid (BL.trans (hb.mono BL.size));clear hb BL bO b1;go_wp2;go_ret;exact ⟨⟨_,_,rfl⟩,B1.out⟩
theorem removeAll0_any (mb:Nat) (p:Option Addr) (c:Nat) (w:World) :
 Calls prog 206 #[.map (some mb),.slice p 0 c] w λe w'=>e=.returned (.tuple #[])/\w'=w:=by
 go_enter func206,ntmps206;go_wp2_with fail
 go_loopw [8] (λiv wr=>iv=.int .i64 0/\Hid (wr=w)) (λ_ _=>0)
 case atStart=>exact ⟨rfl,rfl⟩
 case round =>
  obtain ⟨rfl,HB⟩:=hrel;go_wp2;go_end0;exact ⟨rfl,HB.out⟩
def wantS (d:Nat) (c:Cl):List UInt8->Prop:=λz=>inK z (listV (freeV d) (bndV d) (foldV (patV d) [] c.1) c.2)
def clVarL (d:Nat) (c:Cl):List (List UInt8):=c.1.flatMap (varL d) ++ c.2.flatMap (varL d)
def clOkD (d:Nat) (c:Cl):Prop:=(∃ deep,∀ y ∈ c.1,exOk d y true deep=true)/\∀ y ∈ c.2,∃ p deep,exOk d y p deep=true
def WbC (d:Nat):Prop:=∀ (w:World) (cs:List Value) (c:Cl),HCl w All (HEx w All d) cs c->clOkD d c->(clVarL d c).length<=33554432 ->
 Calls prog 170 #[.agg cs.toArray] w λe w'=>∃ mb,e=.returned (.map (some mb))/\w.heap.size<=mb/\SetAt w' mb (clVarL d c).length (wantS d c)/\Bz w w'
def AwC (d:Nat):Prop:=∀ (w:World) (mb n:Nat) (S:List UInt8->Prop) (v:Value) (cl:List Cl),Rows w (λg=>g≠mb) 2 (HCl w (λg=>g≠mb) (HEx w (λg=>g≠mb) d)) v cl->(∀ c ∈ cl,clOkD d c)->SetAt w mb n S->n+(cl.flatMap (clVarL d)).length<=33554432 ->
 Calls prog 209 #[.map (some mb),v] w λe w'=>e=.returned (.tuple #[])/\SetAt w' mb (n+(cl.flatMap (clVarL d)).length) (λz=>S z\/∃ c ∈ cl,wantS d c z)/\Off [mb] w w'
theorem wantedBy_of {d:Nat} (hO:StO d):WbC d:=by
 intro w cs c h hok hcnt;have hm:=@mkMap;obtain ⟨pv,bdv,rfl,rp,rb⟩:=h;have HOK:=hid hok;have HRP:=hid rp;have HRB:=hid rb;obtain ⟨pp,capp,rfl,hclp,hcmp,-⟩:=id rp;obtain ⟨pb,capb,rfl,-⟩:=id rb;have hnp:c.1.length<=9223372036854775807:=(by unfold maxLen at hcmp;omega);have hcl:(clVarL d c).length=(c.1.flatMap (varL d)).length+(c.2.flatMap (varL d)).length:=(by unfold clVarL;rw [List.length_append]);have HCL:=hid hcl;have HC:=hid hcnt;have B0:Bz w ((w.alloc (.cells #[.slice pp c.1.length capp,.slice pb c.2.length capb] 44)).alloc (.map #[] 0)):=((sqN _ _)).alloc (by simp) _;have bC:Hid (Blk ((w.alloc (.cells #[.slice pp c.1.length capp,.slice pb c.2.length capb] 44)).alloc (.map #[] 0)) w.heap.size #[.slice pp c.1.length capp,.slice pb c.2.length capb] 44):=Blk.new.alloc
 have M0:Hid (SetAt ((w.alloc (.cells #[.slice pp c.1.length capp,.slice pb c.2.length capb] 44)).alloc (.map #[] 0)) (w.heap.size+1) 0 (λ_=>False)):=by
  have:=SetAt.made (w.alloc (.cells #[.slice pp c.1.length capp,.slice pb c.2.length capb] 44))
  rwa [alloc_hs] at this
 have HB0:=hid B0
 have RT:Hid (∀ w' v es,Rows w All 6 (HEx w All d) v es->Bz w w'->Rows w' (λg=>g≠w.heap.size+1) 6 (HEx w' (λg=>g≠w.heap.size+1) d) v es):=λw' v es h hb=>by
  have h1:=h.tight (R':=HEx w (λg=>g<w.heap.size) d) (λ_ _ h=>h.tight);have s1:SameOn (λg=>g<w.heap.size) w w':=⟨hb.size,λg hg _=>hb.block g hg⟩;exact h1.mono s1 (λg (hg:g<w.heap.size)=>by show g≠_;omega) (λ_ _ _ h=>h.mono s1 (λg (hg:g<w.heap.size)=>by show g≠_;omega))
 generalize hnp0:c.1.length=np at *;have HNP:=hid hnp0;clear rp rb hok hcnt hcl B0 hnp0 hclp hcmp;go_enter func170,ntmps170;go_wp2_with fail;refine (hO _ (w.heap.size+1) 0 (λ_=>False) _ c.2 (RT.out _ _ _ HRB.out HB0.out) HOK.out.2 M0.out (by have:=HC.out;have:=HCL.out;omega)).mono ?_;rintro e w1 ⟨rfl,hs1,ho1⟩;rw [Nat.zero_add] at hs1;have B1:=hid (HB0.out.trans (ho1.below (by simp) HB0.out.size));have b1:Hid (Blk w1 w.heap.size #[.slice pp np capp,.slice pb c.2.length capb] 44):=(ho1.block w.heap.size bC.out.lt (by simp)).trans bC.out;have M1:=hid hs1;have x0:=b1.out.cell 0 _ rfl;clear hs1 ho1 M0 bC HB0;go_wp2_with fail
 go_loopw [14] (λiv wr=>∃ k:Nat,k<=np/\iv=.int .i64 k/\Hid (SetAt wr (w.heap.size+1) (c.2.flatMap (varL d)).length (λz=>c.2.foldr (stepS d) (λ_=>False) z/\z ∉ (c.1.take k).flatMap (varL d)))/\Hid (Bz w wr)) (λiv _=>np - (intOf iv).toNat)
 case atStart=>exact ⟨0,Nat.zero_le _,rfl,M1.out.iff (λz=>by simp),B1.out⟩
 case round =>
  clear x0 M1 B1 b1;obtain ⟨k,hk,rfl,HM,HB⟩:=hrel;by_cases hlt:k<np
  . obtain ⟨x,hxk⟩:∃ x,c.1[k]?=some x:=⟨c.1[k]'(by rw [HNP.out];exact hlt),List.getElem?_eq_getElem _⟩
    obtain ⟨p',cap',hv,-,-,hx⟩:=RT.out wr _ _ HRP.out HB.out;simp only [Value.slice.injEq] at hv;obtain ⟨rfl,-,rfl⟩:=hv;obtain ⟨g,off,rfl,hgm,hgl,hat⟩:=hx (sqE hxk);obtain ⟨cs,hcsl,hcs,r1⟩:=hat k x hxk;have E1:=hid r1;obtain ⟨c0,c1,c2,c3,c4,c5,rfl⟩:=len6 hcsl;obtain ⟨a0,a1,a2,a3,a4,a5⟩:=sqC6 hcs (by omega);simp at a0 a1 a2 a3 a4 a5
    have HFX:Hid ((varL d x).length<=33554432):=by
     have h1:=HC.out;have h2:=HCL.out;have h3:=flat_drop (varL d) c.1 k;rw [List.drop_eq_getElem_cons (by rw [HNP.out];exact hlt),List.flatMap_cons,List.length_append] at h3;have h5:c.1[k]'(by rw [HNP.out];exact hlt)=x:=(List.getElem?_eq_some_iff.1 hxk).2;rw [h5] at h3;show _<=_;omega
    have HT:Hid ((c.1.take (k+1)).flatMap (varL d)=(c.1.take k).flatMap (varL d) ++ varL d x):=by
     show _=_;rw [List.take_add_one,hxk];simp
    have hki:(k:Int)<(np:Int):=(by omega);have hk0:=sqI k;clear hat hcs hcsl r1 hx;obtain ⟨sk,sn,st,se,p1,n1,q1,p2,n2,q2,hsh⟩:=HEx.shapeN E1.out;simp only [List.cons.injEq,and_true] at hsh;obtain ⟨rfl,rfl,rfl,rfl,rfl,rfl⟩:=hsh;have HBA:Hid (Bz wr (wr.alloc (.cells #[.int .i64 sk,.int .i64 sn,.string st,.string se,.slice p1 n1 q1,.slice p2 n2 q2] 74))):=(sqN _ _);go_wp2_with fail;refine (eachVarR_any (n0:=(c.2.flatMap (varL d)).length) (S0:=λz=>c.2.foldr (stepS d) (λ_=>False) z/\z ∉ (c.1.take k).flatMap (varL d)) _ (w.heap.size+1) d _ x [] (E1.out.offN (Off.of_below HBA.out)) ((HM.out.keep (HBA.out.block _ HM.out.lt)).iff (λz=>by simp)) (by have:=HFX.out;simpa using this)).mono ?_;rintro e w2 ⟨rfl,hm2,ho2⟩;rw [List.nil_append] at hm2;have B2:Hid (Bz w w2):=(HB.out.trans (HBA.out.mono HB.out.size)).trans (ho2.below (by simp) (by have:=HB.out.size;rw [alloc_hs];omega));have M2:Hid (SetAt w2 (w.heap.size+1) (c.2.flatMap (varL d)).length (λz=>c.2.foldr (stepS d) (λ_=>False) z/\z ∉ (c.1.take (k+1)).flatMap (varL d))):=SetAt.iff hm2 (λz=>by rw [HT.out,List.mem_append,not_or,and_assoc]);clear hm2 ho2;go_wp2_with fail;exact ⟨⟨k+1,by omega,by go_num,M2.out,B2.out⟩,by simp [intOf];omega⟩
  . have HS:Hid (SetAt wr (w.heap.size+1) (clVarL d c).length (wantS d c)):=by
     have h1:=HM.out;rw [List.take_of_length_le (by rw [HNP.out];omega)] at h1;obtain ⟨⟨deep,hp⟩,-⟩:=HOK.out;exact (h1.iff (λz=>clause_step d c deep hp z)).more (by have:=HCL.out;omega)
    go_wp2;go_ret;exact ⟨_,rfl,by omega,HS.out,HB.out⟩
theorem addWanted_of {d:Nat} (hW:WbC d):AwC d:=by
 intro w mb n S v cl h hok hset hcnt;have HR:=hid h;obtain ⟨p,cap,rfl,hcl,hcm,-⟩:=id h;have hnb:=sqM hcl hcm;have HSET:=hid hset;have HOK:=hid hok;have HC:=hid hcnt;generalize hn:cl.length=nc at *;have HN:=hid hn;clear h hok hset hcnt hn;go_enter func209,ntmps209;go_wp2_with fail
 go_loopw [8] (λiv wr=>∃ k:Nat,k<=nc/\iv=.int .i64 k/\Hid (SetAt wr mb (n+((cl.take k).flatMap (clVarL d)).length) (λz=>S z\/∃ c ∈ cl.take k,wantS d c z))/\Hid (Off [mb] w wr)) (λiv _=>nc - (intOf iv).toNat)
 case atStart=>exact ⟨0,Nat.zero_le _,rfl,HSET.out.iff (λz=>by simp),Off.refl _ _⟩
 case round =>
  obtain ⟨k,hk,rfl,HM,HO⟩:=hrel;by_cases hlt:k<nc
  . obtain ⟨c,hck⟩:=sqA (l:=cl) (k:=k) HN.out hlt
    obtain ⟨p',cap',hv,-,-,hx⟩:=HR.out;simp only [Value.slice.injEq] at hv;obtain ⟨rfl,-,rfl⟩:=hv;obtain ⟨g,off,rfl,hgm,hgl,hat⟩:=hx (sqE hck);obtain ⟨cs,hcsl,hcs,r1⟩:=hat k c hck;have SO:SameOn (λg=>g≠mb) w wr:=⟨HO.out.size,λg hg hl=>HO.out.block g hl (by simpa using hg)⟩;have E1:=hid (HCl.mono r1 SO (λ_ _=>trivial) (λ_ _ h=>h.mono SO (λ_ _=>trivial)));obtain ⟨pv,bv,rfl,rp,rb⟩:=r1;obtain ⟨pp,capp,rfl,-⟩:=rp;obtain ⟨pb,capb,rfl,-⟩:=rb;have hge:wr.heap[g]?=w.heap[g]?:=HO.out.block g hgl (by simpa using hgm);have a0:=(sqK (a:=⟨g,off+k * 2+0,none⟩) hge).trans (hcs 0 (by omega));have a1:=(sqK (a:=⟨g,off+k * 2+1,none⟩) hge).trans (hcs 1 (by omega));simp at a0 a1
    have HCK:Hid (n+((cl.take k).flatMap (clVarL d)).length+(clVarL d c).length<=33554432):=by
     have h1:=HC.out
     have h2:(cl.flatMap (clVarL d))=(cl.take k).flatMap (clVarL d) ++ (clVarL d c ++ (cl.drop (k+1)).flatMap (clVarL d)):=by
      have h3:cl=cl.take k ++ c :: cl.drop (k+1):=by
       have h4:=List.take_append_drop k cl;rw [List.drop_eq_getElem_cons (by rw [HN.out];exact hlt)] at h4;have h5:cl[k]'(by rw [HN.out];exact hlt)=c:=(List.getElem?_eq_some_iff.1 hck).2;rw [h5] at h4;exact h4.symm
      conv=>lhs;rw [h3]
      simp
     rw [h2] at h1;show _<=_;simp only [List.length_append] at h1;omega
    have HT1:Hid (((cl.take (k+1)).flatMap (clVarL d)).length=((cl.take k).flatMap (clVarL d)).length+(clVarL d c).length):=by
     show _=_;rw [List.take_add_one,hck];simp
    have HT2:Hid (∀ z,(S z\/∃ c ∈ cl.take k,wantS d c z)\/wantS d c z ↔ S z\/∃ c ∈ cl.take (k+1),wantS d c z):=λz=>by
     rw [List.take_add_one,hck];simp only [Option.toList_some,List.mem_append,List.mem_singleton]
     constructor
     . rintro ((h | ⟨c',h,h'⟩) | h)
       . exact .inl h
       . exact .inr ⟨c',.inl h,h'⟩
       . exact .inr ⟨c,.inr rfl,h⟩
     . rintro (h | ⟨c',h | rfl,h'⟩)
       . exact .inl (.inl h)
       . exact .inl (.inr ⟨c',h,h'⟩)
       . exact .inr h'
    have HOKc:=hid (HOK.out c (List.mem_of_getElem? hck));have hki:(k:Int)<(nc:Int):=(by omega);have hk0:=sqI k;have HBC:Hid (Bz wr (wr.alloc (.cells #[.slice pp c.1.length capp,.slice pb c.2.length capb] 44))):=(sqN _ _);clear hat hcs hcsl hge hx SO;go_wp2_with fail;refine (hW _ _ c (HCl.mono E1.out (sqO HBC.out) sqj (λ_ _ h=>h.mono (sqO HBC.out) sqj)) HOKc.out (by have:=HCK.out;omega)).mono ?_;rintro e w2 ⟨mb2,rfl,hlm,hs2,hb2⟩;have HB2:=hid (HBC.out.trans (hb2.mono HBC.out.size));have M2:Hid (SetAt w2 mb (n+((cl.take k).flatMap (clVarL d)).length) (λz=>S z\/∃ c ∈ cl.take k,wantS d c z)):=HM.out.keep (HB2.out.block mb HM.out.lt);have S2:=hid hs2;have hne:mb≠mb2:=(by have:=HM.out.lt;rw [alloc_hs] at hlm;omega);clear hs2 hb2 a0 a1;go_wp2_with fail;refine (copyN_any _ mb mb2 _ _ _ _ M2.out S2.out hne (by have:=HCK.out;unfold maxLen;omega)).mono ?_;rintro e w3 ⟨rfl,hs3,ho3⟩
    have M3:Hid (SetAt w3 mb (n+((cl.take (k+1)).flatMap (clVarL d)).length) (λz=>S z\/∃ c ∈ cl.take (k+1),wantS d c z)):=by
     have h1:=hs3.iff HT2.out;rw [HT1.out,<-Nat.add_assoc];exact h1
    have O3:Hid (Off [mb] w w3):=(HO.out.trans (Off.of_below HB2.out)).trans ho3;clear hs3 ho3;go_wp2_with fail;exact ⟨⟨k+1,by omega,by go_num,M3.out,O3.out⟩,by simp [intOf];omega⟩
  . have HS:Hid (SetAt wr mb (n+(cl.flatMap (clVarL d)).length) (λz=>S z\/∃ c ∈ cl,wantS d c z)):=by
     have h1:=HM.out
     rwa [List.take_of_length_le (by rw [HN.out];omega)] at h1
    go_wp2;go_end0;exact ⟨rfl,HS.out,HO.out⟩
theorem varL_eq (d:Nat) (k n:Int) (t m:ByteArray) (ks:List Ex) (cs:List Cl):varL (d+1) (.mk k n t m ks cs)=(if k=2 then [keyS t] else []) ++ (ks.flatMap (varL d) ++ cs.flatMap (clVarL d)):=rfl
theorem stepA_var {d:Nat} (w:World) (mb n:Nat) (S:List UInt8->Prop) (cs:List Value) (nx:Int) (tx mx:ByteArray) (cl:List Cl) (h:HEx w (λg=>g≠mb) (d+1) cs (.mk 2 nx tx mx [] cl)) (hset:SetAt w mb n S) (hcnt:n+(varL (d+1) (.mk 2 nx tx mx [] cl)).length<=33554432) :
 Calls prog 199 #[.map (some mb),.agg cs.toArray] w λe w'=>e=.returned (.tuple #[])/\SetAt w' mb (n+(varL (d+1) (.mk 2 nx tx mx [] cl)).length) (stepS (d+1) (.mk 2 nx tx mx [] cl) S)/\Off [mb] w w':=by
 have hv:=varL_eq d 2 nx tx mx [] cl
 have HL:Hid (n+1<=n+(varL (d+1) (.mk 2 nx tx mx [] cl)).length):=by
  show _<=_;rw [hv];simp
 have HC:=hid hcnt;generalize (varL (d+1) (.mk 2 nx tx mx [] cl)).length=nl at *;have HST:Hid (∀ z,(S z\/z=tx.data.toList) ↔ stepS (d+1) (.mk 2 nx tx mx [] cl) S z):=λz=>step_var d nx tx mx cl S z;generalize stepS (d+1) (.mk 2 nx tx mx [] cl) S=S2 at *;obtain ⟨kv,cv,rfl,-,-,hts,-,f0,f1⟩:=h;simp only [Ex.kind,Ex.n,Ex.text,Ex.mod,Ex.kids,Ex.clauses] at *;obtain ⟨p,cap,rfl,-⟩:=f0;obtain ⟨pc,capc,rfl,-⟩:=f1;have BA:Hid (Bz w (w.alloc (.cells #[.int .i64 2,.int .i64 nx,.string tx,.string mx,.slice p 0 cap,.slice pc cl.length capc] 74))):=(sqN _ _);have bA:Hid (Blk (w.alloc (.cells #[.int .i64 2,.int .i64 nx,.string tx,.string mx,.slice p 0 cap,.slice pc cl.length capc] 74)) w.heap.size #[.int .i64 2,.int .i64 nx,.string tx,.string mx,.slice p 0 cap,.slice pc cl.length capc] 74):=Blk.new;have HSET:=hid hset;have HTS:=hid hts;simp only [List.length_nil] at *;clear hv hcnt hset hts;go_enter func199,ntmps199;go_wp2_with fail;refine (bound0_any _ _ _ _ _ _ _ _ _).mono ?_;rintro e w1 ⟨⟨p1,c1,rfl⟩,hb1⟩;have b1:=bA.out.next hb1;have x2:=b1.cell 2 _ rfl;have B1:=hid (BA.out.trans (hb1.mono BA.out.size));clear hb1 b1;go_wp2_with fail;refine (removeAll0_any _ _ _ _).mono ?_;rintro e w2 ⟨rfl,hw2⟩;rw [hw2];go_wp2_with fail;refine (addN_any _ mb n S tx (HSET.out.keep (B1.out.block mb HSET.out.lt)) HTS.out (by have:=HC.out;have:=HL.out;unfold maxLen;omega)).mono ?_;rintro e w3 ⟨rfl,hs3,ho3⟩;have M3:Hid (SetAt w3 mb (n+nl) S2):=(hs3.iff HST.out).more HL.out;have O3:Hid (Off [mb] w w3):=(Off.of_below B1.out).trans ho3;clear hs3 ho3;go_wp2;go_end0;exact ⟨rfl,M3.out,O3.out⟩
theorem stepA_two {d:Nat} (hA:StA d) (w:World) (mb n:Nat) (S:List UInt8->Prop) (cs:List Value) (nx:Int) (tx mx:ByteArray) (ya yb:Ex) (cl:List Cl) (deep:Int) (pb:Bool) (h:HEx w (λg=>g≠mb) (d+1) cs (.mk 9 nx tx mx [ya,yb] cl)) (oa:exOk d ya true deep=true) (ob:exOk d yb pb deep=true) (hset:SetAt w mb n S) (hcnt:n+(varL (d+1) (.mk 9 nx tx mx [ya,yb] cl)).length<=33554432) :
 Calls prog 199 #[.map (some mb),.agg cs.toArray] w λe w'=>e=.returned (.tuple #[])/\SetAt w' mb (n+(varL (d+1) (.mk 9 nx tx mx [ya,yb] cl)).length) (stepS (d+1) (.mk 9 nx tx mx [ya,yb] cl) S)/\Off [mb] w w':=by
 have hv:=varL_eq d 9 nx tx mx [ya,yb] cl;have hl:(varL (d+1) (.mk 9 nx tx mx [ya,yb] cl)).length=(varL d ya).length+(varL d yb).length+(cl.flatMap (clVarL d)).length:=(by rw [hv];simp;omega);have HL:Hid (n+(varL d yb).length<=n+(varL (d+1) (.mk 9 nx tx mx [ya,yb] cl)).length):=(by show _<=_;omega);have HCA:Hid ((varL d ya).length<=33554432):=(by show _<=_;omega);have HCB:Hid (n+(varL d yb).length<=33554432):=(by show _<=_;omega);generalize (varL (d+1) (.mk 9 nx tx mx [ya,yb] cl)).length=nl at *;have HST:Hid (∀ z,stepS d yb (λz=>S z/\z ∉ varL d ya) z ↔ stepS (d+1) (.mk 9 nx tx mx [ya,yb] cl) S z):=λz=>step_two d nx tx mx ya yb cl deep oa S z;generalize stepS (d+1) (.mk 9 nx tx mx [ya,yb] cl) S=S2 at *;obtain ⟨kv,cv,rfl,-,-,hts,-,f0,f1⟩:=h;simp only [Ex.kind,Ex.n,Ex.text,Ex.mod,Ex.kids,Ex.clauses] at *;obtain ⟨p,cap,rfl,-,-,hx⟩:=f0;obtain ⟨pc,capc,rfl,-⟩:=f1;obtain ⟨g,off,rfl,hgm,hgl,hat⟩:=hx (by simp);obtain ⟨ca,hcal,hca,ra⟩:=hat 0 ya rfl;obtain ⟨cb,hcbl,hcb,rb⟩:=hat 1 yb rfl;have EA:=hid ra;have EB:=hid rb;obtain ⟨k1,m1,t1,e1,p1,n1,q1,r1,s1,u1,rfl⟩:=HEx.shapeN ra;obtain ⟨k2,m2,t2,e2,p2,n2,q2,r2,s2,u2,rfl⟩:=HEx.shapeN rb;simp only [List.length_cons,List.length_nil,Nat.zero_add,Nat.reduceAdd] at *;have BA:Hid (Bz w (w.alloc (.cells #[.int .i64 9,.int .i64 nx,.string tx,.string mx,.slice (some ⟨g,off,none⟩) 2 cap,.slice pc cl.length capc] 74))):=(sqN _ _);have bA:Hid (Blk (w.alloc (.cells #[.int .i64 9,.int .i64 nx,.string tx,.string mx,.slice (some ⟨g,off,none⟩) 2 cap,.slice pc cl.length capc] 74)) w.heap.size #[.int .i64 9,.int .i64 nx,.string tx,.string mx,.slice (some ⟨g,off,none⟩) 2 cap,.slice pc cl.length capc] 74):=Blk.new;have HSET:=hid hset;have hbd:bindsB 9 2=true:=rfl;have KA:Hid (∀ w':World,(w'.heap[g]?=w.heap[g]?)->∀ j,j<6->w'.cell? ⟨g,off+0 * 6+j,none⟩ = [Value.int .i64 k1,.int .i64 m1,.string t1,.string e1,.slice p1 n1 q1,.slice r1 s1 u1][j]?):=λw' he j hj=>(sqK he).trans (hca j hj);have KB:Hid (∀ w':World,(w'.heap[g]?=w.heap[g]?)->∀ j,j<6->w'.cell? ⟨g,off+1 * 6+j,none⟩ = [Value.int .i64 k2,.int .i64 m2,.string t2,.string e2,.slice p2 n2 q2,.slice r2 s2 u2][j]?):=λw' he j hj=>(sqK he).trans (hcb j hj);have HOB:=hid ob;have hmb:=hset.lt;have HG:Hid (g<w.heap.size/\g≠mb):=⟨hgl,hgm⟩;clear hv hcnt hset hts hl hat hca hcb ra rb hx oa ob hcal hcbl;go_enter func199,ntmps199;go_wp2_with fail;refine (binds_any _ _ _ _ _ _ _ _ _ _ _).mono ?_;rintro e w1 ⟨rfl,hw1⟩;rw [hbd];have BB:Below (w.alloc (.cells #[.int .i64 9,.int .i64 nx,.string tx,.string mx,.slice (some ⟨g,off,none⟩) 2 cap,.slice pc cl.length capc] 74)).heap.size (w.alloc (.cells #[.int .i64 9,.int .i64 nx,.string tx,.string mx,.slice (some ⟨g,off,none⟩) 2 cap,.slice pc cl.length capc] 74)) w1:=(by rw [hw1];exact (sqN _ _));have B1:=hid (BA.out.trans (BB.mono BA.out.size));have b1:=hid (bA.out.next BB);have x4:=b1.out.cell 4 _ rfl;have a0:=KA.out w1 (B1.out.block g HG.out.1) 0 (by omega);have a1:=KA.out w1 (B1.out.block g HG.out.1) 1 (by omega);have a2:=KA.out w1 (B1.out.block g HG.out.1) 2 (by omega);have a3:=KA.out w1 (B1.out.block g HG.out.1) 3 (by omega);have a4:=KA.out w1 (B1.out.block g HG.out.1) 4 (by omega);have a5:=KA.out w1 (B1.out.block g HG.out.1) 5 (by omega);simp at a0 a1 a2 a3 a4 a5;clear hw1 BB;go_wp2_with fail;refine (eachVarR_any (n0:=n) (S0:=S) _ mb d _ ya [] (EA.out.offN (Off.of_below B1.out)) ((HSET.out.keep (B1.out.block mb hmb)).iff (λz=>by simp)) (by have:=HCA.out;simpa using this)).mono ?_;rintro e w2 ⟨rfl,hm2,ho2⟩;rw [List.nil_append] at hm2;have O2:Hid (Off [mb] w w2):=(Off.of_below B1.out).trans ho2;have M2:=hid hm2;have hl1:=b1.out.lt;have b2:Blk w2 w.heap.size #[.int .i64 9,.int .i64 nx,.string tx,.string mx,.slice (some ⟨g,off,none⟩) 2 cap,.slice pc cl.length capc] 74:=(ho2.block w.heap.size hl1 (by simp;omega)).trans b1.out;have y4:=b2.cell 4 _ rfl;have hg2:w2.heap[g]?=w.heap[g]?:=O2.out.block g HG.out.1 (by simpa using HG.out.2);have c0:=KB.out w2 hg2 0 (by omega);have c1:=KB.out w2 hg2 1 (by omega);have c2:=KB.out w2 hg2 2 (by omega);have c3:=KB.out w2 hg2 3 (by omega);have c4:=KB.out w2 hg2 4 (by omega);have c5:=KB.out w2 hg2 5 (by omega);simp at c0 c1 c2 c3 c4 c5;clear hm2 ho2 b2 hg2 x4 a0 a1 a2 a3 a4 a5 hl1;go_wp2_with fail;refine (hA _ mb n _ _ yb pb deep (EB.out.offN O2.out) HOB.out M2.out HCB.out).mono ?_;rintro e w3 ⟨rfl,hs3,ho3⟩;have M3:Hid (SetAt w3 mb (n+nl) S2):=(hs3.iff HST.out).more HL.out;have O3:=hid (O2.out.trans ho3);clear hs3 ho3;go_wp2;go_end0;exact ⟨rfl,M3.out,O3.out⟩
theorem stepA_case {d:Nat} (hO:StO d) (hW:AwC d) (w:World) (mb n:Nat) (S:List UInt8->Prop) (cs:List Value) (nx:Int) (tx mx:ByteArray) (ks:List Ex) (cl:List Cl) (h:HEx w (λg=>g≠mb) (d+1) cs (.mk 10 nx tx mx ks cl)) (ok:∀ y ∈ ks,∃ p deep,exOk d y p deep=true) (oc:∀ c ∈ cl,clOkD d c) (hset:SetAt w mb n S) (hcnt:n+(varL (d+1) (.mk 10 nx tx mx ks cl)).length<=33554432) :
 Calls prog 199 #[.map (some mb),.agg cs.toArray] w λe w'=>e=.returned (.tuple #[])/\SetAt w' mb (n+(varL (d+1) (.mk 10 nx tx mx ks cl)).length) (stepS (d+1) (.mk 10 nx tx mx ks cl) S)/\Off [mb] w w':=by
 have hv:=varL_eq d 10 nx tx mx ks cl
 have hl:(varL (d+1) (.mk 10 nx tx mx ks cl)).length=(ks.flatMap (varL d)).length+(cl.flatMap (clVarL d)).length:=by
  rw [hv,List.length_append,List.length_append];simp
 have HL:Hid (n+(cl.flatMap (clVarL d)).length+(ks.flatMap (varL d)).length<=n+(varL (d+1) (.mk 10 nx tx mx ks cl)).length):=(by show _<=_;omega);have HCA:Hid (n+(cl.flatMap (clVarL d)).length<=33554432):=(by show _<=_;omega);have HCB:Hid (n+(cl.flatMap (clVarL d)).length+(ks.flatMap (varL d)).length<=33554432):=(by show _<=_;omega);generalize (varL (d+1) (.mk 10 nx tx mx ks cl)).length=nl at *;have HST:Hid (∀ z,ks.foldr (stepS d) (λz=>S z\/∃ c ∈ cl,wantS d c z) z ↔ stepS (d+1) (.mk 10 nx tx mx ks cl) S z):=λz=>step_else d 10 nx tx mx ks cl (by decide) (by simp) S z;generalize stepS (d+1) (.mk 10 nx tx mx ks cl) S=S2 at *;obtain ⟨kv,cv,rfl,-,-,hts,-,f0,f1⟩:=h;simp only [Ex.kind,Ex.n,Ex.text,Ex.mod,Ex.kids,Ex.clauses] at *;have F0:Hid (∀ w',Off [mb] w w'->Rows w' (λg=>g≠mb) 6 (HEx w' (λg=>g≠mb) d) kv ks):=λw' ho=>Rows.mono f0 ⟨ho.size,λg hg hl=>ho.block g hl (by simpa using hg)⟩ sqj (λ_ _ _ h=>HEx.offN h ho);have F1:Hid (∀ w',Off [mb] w w'->Rows w' (λg=>g≠mb) 2 (HCl w' (λg=>g≠mb) (HEx w' (λg=>g≠mb) d)) cv cl):=λw' ho=>Rows.mono f1 ⟨ho.size,λg hg hl=>ho.block g hl (by simpa using hg)⟩ sqj (λ_ _ _ h=>HCl.mono h ⟨ho.size,λg hg hl=>ho.block g hl (by simpa using hg)⟩ sqj (λ_ _ h=>HEx.offN h ho));obtain ⟨p,cap,rfl,-⟩:=id f0;obtain ⟨pc,capc,rfl,-⟩:=id f1;have BA:Hid (Bz w (w.alloc (.cells #[.int .i64 10,.int .i64 nx,.string tx,.string mx,.slice p ks.length cap,.slice pc cl.length capc] 74))):=(sqN _ _);have bA:Hid (Blk (w.alloc (.cells #[.int .i64 10,.int .i64 nx,.string tx,.string mx,.slice p ks.length cap,.slice pc cl.length capc] 74)) w.heap.size #[.int .i64 10,.int .i64 nx,.string tx,.string mx,.slice p ks.length cap,.slice pc cl.length capc] 74):=Blk.new;have HSET:=hid hset;have hbd:bindsB 10 ks.length=false:=rfl;have HOK:=hid ok;have HOC:=hid oc;have hmb:=hset.lt;clear hv hcnt hset hts hl f0 f1 ok oc;go_enter func199,ntmps199;go_wp2_with fail;refine (binds_any _ _ _ _ _ _ _ _ _ _ _).mono ?_;rintro e w1 ⟨rfl,hw1⟩;rw [hbd];have BB:Below (w.alloc (.cells #[.int .i64 10,.int .i64 nx,.string tx,.string mx,.slice p ks.length cap,.slice pc cl.length capc] 74)).heap.size (w.alloc (.cells #[.int .i64 10,.int .i64 nx,.string tx,.string mx,.slice p ks.length cap,.slice pc cl.length capc] 74)) w1:=(by rw [hw1];exact (sqN _ _));have B1:=hid (BA.out.trans (BB.mono BA.out.size));have b1:=hid (bA.out.next BB);have x0:=b1.out.cell 0 _ rfl;have x5:=b1.out.cell 5 _ rfl;clear hw1 BB;go_wp2_with fail;refine (hW _ mb n S _ cl (F1.out _ (Off.of_below B1.out)) HOC.out (HSET.out.keep (B1.out.block mb hmb)) HCA.out).mono ?_;rintro e w2 ⟨rfl,hm2,ho2⟩;have O2:Hid (Off [mb] w w2):=(Off.of_below B1.out).trans ho2;have M2:=hid hm2;have hl1:=b1.out.lt;have b2:Blk w2 w.heap.size #[.int .i64 10,.int .i64 nx,.string tx,.string mx,.slice p ks.length cap,.slice pc cl.length capc] 74:=(ho2.block w.heap.size hl1 (by simp;omega)).trans b1.out;have y4:=b2.cell 4 _ rfl;clear hm2 ho2 b2 x0 x5 hl1;go_wp2_with fail;refine (hO _ mb _ _ _ ks (F0.out _ O2.out) HOK.out M2.out HCB.out).mono ?_;rintro e w3 ⟨rfl,hs3,ho3⟩;have M3:Hid (SetAt w3 mb (n+nl) S2):=(hs3.iff HST.out).more HL.out;have O3:=hid (O2.out.trans ho3);clear hs3 ho3;go_wp2;go_end0;exact ⟨rfl,M3.out,O3.out⟩
theorem stepA_else {d:Nat} (hO:StO d) (w:World) (mb n:Nat) (S:List UInt8->Prop) (cs:List Value) (kx nx:Int) (tx mx:ByteArray) (ks:List Ex) (k2:kx≠2) (k9:kx≠9) (k10:kx≠10) (h:HEx w (λg=>g≠mb) (d+1) cs (.mk kx nx tx mx ks [])) (ok:∀ y ∈ ks,∃ p deep,exOk d y p deep=true) (hset:SetAt w mb n S) (hcnt:n+(varL (d+1) (.mk kx nx tx mx ks [])).length<=33554432) :
 Calls prog 199 #[.map (some mb),.agg cs.toArray] w λe w'=>e=.returned (.tuple #[])/\SetAt w' mb (n+(varL (d+1) (.mk kx nx tx mx ks [])).length) (stepS (d+1) (.mk kx nx tx mx ks []) S)/\Off [mb] w w':=by
 have hv:=varL_eq d kx nx tx mx ks []
 have hl:(varL (d+1) (.mk kx nx tx mx ks [])).length=(ks.flatMap (varL d)).length:=by
  rw [hv,if_neg k2];simp
 have HL:Hid (n+(ks.flatMap (varL d)).length<=n+(varL (d+1) (.mk kx nx tx mx ks [])).length):=(by show _<=_;omega);have HCB:Hid (n+(ks.flatMap (varL d)).length<=33554432):=(by show _<=_;omega);generalize (varL (d+1) (.mk kx nx tx mx ks [])).length=nl at *
 have HST:Hid (∀ z,ks.foldr (stepS d) S z ↔ stepS (d+1) (.mk kx nx tx mx ks []) S z):=λz=>by
  rw [<-step_else d kx nx tx mx ks [] k2 (λh=>k9 h.1) S z];have e:(λz=>S z\/∃ c ∈ ([]:List Cl),inK z (listV (freeV d) (bndV d) (foldV (patV d) [] c.1) c.2))=S:=(by funext z;simp);rw [e]
 generalize stepS (d+1) (.mk kx nx tx mx ks []) S=S2 at *;obtain ⟨kv,cv,rfl,-,-,hts,-,f0,f1⟩:=h;simp only [Ex.kind,Ex.n,Ex.text,Ex.mod,Ex.kids,Ex.clauses] at *;have F0:Hid (∀ w',Off [mb] w w'->Rows w' (λg=>g≠mb) 6 (HEx w' (λg=>g≠mb) d) kv ks):=λw' ho=>Rows.mono f0 ⟨ho.size,λg hg hl=>ho.block g hl (by simpa using hg)⟩ sqj (λ_ _ _ h=>HEx.offN h ho);obtain ⟨p,cap,rfl,-⟩:=id f0;obtain ⟨pc,capc,rfl,-⟩:=id f1;simp only [List.length_nil] at *;have BA:Hid (Bz w (w.alloc (.cells #[.int .i64 kx,.int .i64 nx,.string tx,.string mx,.slice p ks.length cap,.slice pc 0 capc] 74))):=(sqN _ _);have bA:Hid (Blk (w.alloc (.cells #[.int .i64 kx,.int .i64 nx,.string tx,.string mx,.slice p ks.length cap,.slice pc 0 capc] 74)) w.heap.size #[.int .i64 kx,.int .i64 nx,.string tx,.string mx,.slice p ks.length cap,.slice pc 0 capc] 74):=Blk.new;have HSET:=hid hset;have hbd:bindsB kx ks.length=false:=(by simp [bindsB,k9]);have HOK:=hid ok;have hmb:=hset.lt;have k2b:(kx == 2)=false:=(by simpa using k2);have k10b:(kx == 10)=false:=(by simpa using k10);clear hv hcnt hset hts hl f0 f1 ok;go_enter func199,ntmps199;go_wp2_with fail;refine (binds_any _ _ _ _ _ _ _ _ _ _ _).mono ?_;rintro e w1 ⟨rfl,hw1⟩;rw [hbd];have BB:Below (w.alloc (.cells #[.int .i64 kx,.int .i64 nx,.string tx,.string mx,.slice p ks.length cap,.slice pc 0 capc] 74)).heap.size (w.alloc (.cells #[.int .i64 kx,.int .i64 nx,.string tx,.string mx,.slice p ks.length cap,.slice pc 0 capc] 74)) w1:=(by rw [hw1];exact (sqN _ _));have B1:=hid (BA.out.trans (BB.mono BA.out.size));have b1:=hid (bA.out.next BB);have x0:=b1.out.cell 0 _ rfl;have x4:=b1.out.cell 4 _ rfl;clear hw1 BB;go_wp2_with fail;refine (hO _ mb _ _ _ ks (F0.out _ (Off.of_below B1.out)) HOK.out (HSET.out.keep (B1.out.block mb hmb)) HCB.out).mono ?_;rintro e w3 ⟨rfl,hs3,ho3⟩;have M3:Hid (SetAt w3 mb (n+nl) S2):=(hs3.iff HST.out).more HL.out;have O3:Hid (Off [mb] w w3):=(Off.of_below B1.out).trans ho3;clear hs3 ho3;go_wp2;go_end0;exact ⟨rfl,M3.out,O3.out⟩
theorem stepA_of {d:Nat} (hA:StA d):StA (d+1):=by
 intro w mb n S cs x pat deep h hok hset hcnt;have hO:=ofAll_of hA;have hW:=addWanted_of (wantedBy_of hO);obtain ⟨k,nx,tx,mx,ks,cl⟩:=x;obtain ⟨h1,h2,h3,h4,h5,h6⟩:=exOk_parts hok
 have hks:∀ y ∈ ks,∃ p deep,exOk d y p deep=true:=λy hy=>by
  obtain ⟨p,-,h⟩:=h5 y hy;exact ⟨p,_,h⟩
 by_cases k2:k=2
 . subst k2
   obtain rfl:=h2 rfl;exact stepA_var w mb n S cs nx tx mx cl h hset hcnt
 by_cases k9:k=9
 . subst k9
   obtain ⟨a,b,rfl,ha,pb,hb⟩:=h3 rfl;exact stepA_two hA w mb n S cs nx tx mx a b cl _ pb h ha hb hset hcnt
 by_cases k10:k=10
 . subst k10
   exact stepA_case hO hW w mb n S cs nx tx mx ks cl h hks (λc hc=>⟨⟨_,(h6 c hc).1⟩,λy hy=>⟨_,_,(h6 c hc).2 y hy⟩⟩) hset hcnt
 . obtain rfl:=h1 k10
   exact stepA_else hO w mb n S cs k nx tx mx ks k2 k9 k10 h hks hset hcnt
theorem stepA_all:∀ d,StA d
 | 0=>λw mb n S cs x pat deep h _ _ _=>h.elim
 | d+1=>stepA_of (stepA_all d)
theorem wantedBy_all (d:Nat):WbC d:=wantedBy_of (ofAll_of (stepA_all d))
end
end Go.Proofs.YtbdhpganbbandaaGreatDoor
