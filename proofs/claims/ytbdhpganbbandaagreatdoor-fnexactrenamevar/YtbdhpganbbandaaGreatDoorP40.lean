/-
  NameImplB NameImplC
-/
import Derived.Test.YtbdhpganbbandaaGreatDoorP29
import Derived.Test.YtbdhpganbbandaaGreatDoorP39
import Derived.Test.YtbdhpganbbandaaGreatDoorP01
set_option maxHeartbeats 16000000
set_option linter.unusedVariables false
set_option maxRecDepth 100000
namespace Go.Proofs.YtbdhpganbbandaaGreatDoor
open Go.ChangeShapes Go.WideShapes Go.ChangeAt Go.RowKit
section
open Go.Maps Go.WideMaps Go.Shelf Go.Sort Go.Proofs.Tryz
attribute [local go_sem] Oper.semAt_some
def keysD (D:DataW Unit):List (List UInt8):=(strKeys D).mergeSort (fun x y=>decide (x≤y))
theorem keysD_len (D:DataW Unit):(keysD D).length≤Maps.size D:=by
 unfold keysD;rw [List.length_mergeSort]
 cases D <;> simp [strKeys,Maps.size]
def keysL (K:List (List UInt8)):List (List UInt8):=keysD (setD K)
structure SetOk (D:DataW Unit):Prop where
 tidy:Tidy D
 keys:∀ es,D=.map es→∀ p ∈ es,∃ x,p.1=.string x
theorem put_ok {D:DataW Unit} (h:SetOk D) (x:List UInt8):SetOk (D.put (.string x) (.agg [])):=by
 refine ⟨h.tidy.put (k:=.string x) trivial _,fun es he p hp=>?_⟩;obtain ⟨es0,rfl,hp0⟩:=h.tidy;have he':DataW.insert (Lit.string x,DataW.agg []) (es0.filter fun p=>!p.1.sameKey (.string x))=es:=(by simpa [DataW.put] using he);rw [← he'] at hp;have hp2:=((insert_perm (Lit.string x,(DataW.agg []:DataW Unit)) (es0.filter fun p=>!p.1.sameKey (.string x))).mem_iff).1 hp
 rcases List.mem_cons.1 hp2 with rfl | hp2
 · exact ⟨x,rfl⟩
 · exact h.keys es0 rfl p (List.mem_filter.1 hp2).1
theorem setD_from:∀ (K:List (List UInt8)) (D:DataW Unit),SetOk D→SetOk (K.foldl (fun D x=>D.put (.string x) (.agg [])) D)∧Maps.size (K.foldl (fun D x=>D.put (.string x) (.agg [])) D)≤Maps.size D+K.length ∧
 ∀ z,has (K.foldl (fun D x=>D.put (.string x) (.agg [])) D) (.string z)=true ↔ has D (.string z)=true∨z ∈ K
 | [],D,h=>⟨h,by simp,fun z=>by simp⟩
 | x :: xs,D,h=>by
  obtain ⟨h1,h2,h3⟩:=setD_from xs _ (put_ok h x);refine ⟨h1,?_,fun z=>?_⟩
  · have:=size_put (k:=.string x) h.tidy (.agg [])
    have h4:Maps.size (D.put (.string x) (.agg []))≤Maps.size D+1:=by rw [this];split <;> omega
    simp only [List.foldl_cons,List.length_cons];omega
  · rw [List.foldl_cons,h3 z]
    by_cases hz:z=x
    · subst hz
      have hm:IsMap D:=(by obtain ⟨es,rfl,_⟩:=h.tidy;exact ⟨es,rfl⟩);simp [has_put_same hm (k:=Lit.string z) trivial]
    · rw [has_put_other (by intro e;cases e;exact hz rfl)]
      simp [hz]
theorem setD_ok (K:List (List UInt8)):SetOk (setD K)∧Maps.size (setD K)≤K.length∧∀ z,has (setD K) (.string z)=true ↔ z ∈ K:=by
 obtain ⟨h1,h2,h3⟩:=setD_from K (.map []) ⟨⟨[],rfl,List.Pairwise.nil⟩,fun es he p hp=>by cases he;cases hp⟩;refine ⟨h1,by (have h4:Maps.size (DataW.map ([]:List (Lit × DataW Unit)))=0:=rfl;rw [h4] at h2;unfold setD;omega),fun z=>(h3 z).trans ?_⟩;simp [has_eq]
theorem setD_size (K:List (List UInt8)):Maps.size (setD K)≤K.length:=(setD_ok K).2.1
theorem setD_perm (K ss:List (List UInt8)) (hnd:ss.Nodup) (hm:∀ x,x ∈ ss ↔ x ∈ K):ss.Perm (strKeys (setD K)):=by
 obtain ⟨h1,-,h3⟩:=setD_ok K;obtain ⟨es,he,hp⟩:=h1.tidy;have hk:=h1.keys es he;rw [he] at h3 ⊢;exact perm_strKeys hp hk hnd (fun x=>(hm x).trans (h3 x).symm)
theorem srow {w:World} {B:Nat} {v:Value} {L:List (List UInt8)} {n:Nat} (hn:L.length=n) (h:w.ownsRow B 9 1 v n (L.map encStr)) :
 ∃ p cap,v=.slice p n cap∧(∀ a,p=some a→B≤a.block∧a.block<w.heap.size)∧∀ k x,L[k]?=some x→∃ b,p=some ⟨b,0,none⟩∧B≤b∧b<w.heap.size∧w.cell? ⟨b,k,none⟩=some (encStr x):=by
 rcases h.2 with ⟨rfl,h0⟩ | ⟨g,cap,cur,rfl,hB,hg,hr⟩
 · refine ⟨none,0,by rw [h0],fun a e=>by (cases e),fun k x hx=>?_⟩
   have:=(List.getElem?_eq_some_iff.1 hx).1;omega
 · refine ⟨_,cap,rfl,fun a e=>by (cases e;exact ⟨hB,(Array.getElem?_eq_some_iff.1 hg).1⟩),fun k x hx=>⟨g,rfl,hB,(Array.getElem?_eq_some_iff.1 hg).1,?_⟩⟩
   have:=(List.getElem?_eq_some_iff.1 hx).1;rw [h.cellAt k (by omega)];simp [hx]
theorem blk_lt {A B:World} {b:Nat} (h:B.heap[b]?=A.heap[b]?) (hb:b<A.heap.size):b<B.heap.size:=by
 rw [Array.getElem?_eq_getElem hb] at h;exact (Array.getElem?_eq_some_iff.1 h).1
def blkOf:Option Addr→Option Nat
 | some a=>some a.block
 | none=>none
theorem asc_in {R:Value→Option (DataW Unit × List MemPlace)} (l mb nn:Nat) (D:DataW Unit) (W0:World) (hm:W0.ownsMap prog 9 R mb nn D) (hsz:Maps.size D≤67108864) (J:Option Nat→List (List UInt8)→World→Prop)
 (hJb:∀ q s A B,J q s A→Bz A B→J q s B) (hJn:∀ s A B b,J none s A→Bz A B→A.heap.size≤b→b<B.heap.size→J (some b) s B)
 (hY:∀ q pre x W1,J q pre W1→pre.length<(keysD D).length→YieldAt Fence.wide 5 prog l #[encStr x] W1 fun e W'=>e=.returned (.bool true)∧J q (pre ++ [x]) W'∧∀ b,q=some b→b<W1.heap.size→W'.heap[b]?=W1.heap[b]?)
 (h0:J none [] W0) :
 CallsIn Fence.wide 6 prog 151 #[.map (some mb),.func (.yield l) #[] #[]] W0 fun e W'=>(∃ v,e=.returned v)∧∃ q,J q (keysD D) W':=by
 have hmax:Maps.size D≤maxLen:=(by unfold maxLen;omega);have hbytes:Maps.size D * 16≤140737488355328:=(by omega);have hfK:Fence.wide.fn 180:=trivial;have hfS:Fence.wide.fn 179:=trivial;refine callsIn_of_wp func151 rfl trivial ?_ rfl;simp only [ntmps151,List.size_toArray,List.length_cons,List.length_nil,Nat.reduceAdd,Nat.reduceSub,Array.replicate_succ,Array.replicate_zero,List.push_toArray,List.append_toArray,List.nil_append,List.cons_append]
 gi_wp2_with (first
  | (gi_at_call 180;refine (Tryz.maps_Keys_180 _ _).mono ?_;rintro e w' ⟨rfl,rfl⟩)
  | (gi_at_call 179;refine (Tryz.slices_Sorted_keys_179_180 mb nn D R W0 hm hmax hbytes).mono ?_;rintro e w' ⟨v,ss,rfl,hS,hrow,hnil,hb⟩;obtain ⟨p,cap,rfl,hpb,hat⟩:=srow (by simp) hrow))
 have hL:(ss.mergeSort fun x y=>decide (x≤y))=keysD D:=mergeSort_of_perm hS;rw [hL] at hat;have hn:ss.length=(keysD D).length:=(by rw [← hL,List.length_mergeSort]);have hBW:Bz W0 w':=((Below.refl _ W0).alloc (sqR _) _).trans (hb.mono (by simp))
 have hJ1:J (blkOf p) [] w':=by
  cases p with
  | none=>exact hJb _ _ _ _ h0 hBW
  | some a=>exact hJn _ _ _ a.block h0 hBW (by have:=(hpb a rfl).1;simp at this;omega) (hpb a rfl).2
 have HKL:=hid (keysD_len D)
 have HAT:Hid (∀ k x,(keysD D)[k]?=some x→∃ b,p=some ⟨b,0,none⟩∧b<w'.heap.size∧w'.cell? ⟨b,k,none⟩=some (encStr x)):=fun k x hx=>by
  obtain ⟨b,e1,e2,e3,e4⟩:=hat k x hx;exact ⟨b,e1,e3,e4⟩
 have HPB:Hid (∀ b,blkOf p=some b→b<w'.heap.size):=fun b e=>by
  cases p with
  | none=>cases e
  | some a=>cases e;exact (hpb a rfl).2
 clear hat hpb hnil hrow hL hS hb hBW h0 hm hmax hbytes;generalize ss.length=n at *;have HN:=hid hn;have hnb:n≤9223372036854775807:=(by have:=HKL.out;omega);clear hn
 gi_loopw [10] (fun iv wr=>∃ k:Nat,k≤n∧iv=.int .i64 k∧Hid (J (blkOf p) ((keysD D).take k) wr)∧Hid (∀ b,blkOf p=some b→b<wr.heap.size∧wr.heap[b]?=w'.heap[b]?)) (fun iv _=>n - (intOf iv).toNat)
 case atStart=>exact ⟨0,Nat.zero_le _,rfl,hJ1,fun b e=>⟨HPB.out b e,rfl⟩⟩
 case round =>
  obtain ⟨k,hk,rfl,HJ,HB⟩:=hrel;by_cases hlt:k<n
  · obtain ⟨x,hx⟩:∃ x,(keysD D)[k]?=some x:=⟨(keysD D)[k]'(by rw [← HN.out];exact hlt),List.getElem?_eq_getElem _⟩
    obtain ⟨b,rfl,hbl,hc0⟩:=HAT.out k x hx;have hc:=(sqK (a:=⟨b,k,none⟩) (HB.out b rfl).2).trans hc0;have HT:Hid ((keysD D).take (k+1)=(keysD D).take k ++ [x]):=(by show _=_;rw [List.take_add_one,hx];rfl);obtain ⟨fn,tmps,assign,body,hy,hR⟩:=hY _ _ x wr HJ.out (by rw [List.length_take,← HN.out];omega);have hki:(k:Int)<(n:Int):=(by omega);have hk0:=sqI k;clear hc0
    gi_wp2
    refine hR.mono ?_;rintro e W3 ⟨rfl,hJ3,hk3⟩
    gi_wp2
    go_roundw
    case rel=>exact ⟨k+1,by omega,by go_num,by show J _ _ _;rw [HT.out];exact hJ3,fun b' e=>by cases e;exact ⟨blk_lt (hk3 b rfl (HB.out b rfl).1) (HB.out b rfl).1,(hk3 b rfl (HB.out b rfl).1).trans (HB.out b rfl).2⟩⟩
    case measure=>simp [intOf];omega
  · have HS:J (blkOf p) (keysD D) wr:=by
     have:=HJ.out
     rwa [List.take_of_length_le (by rw [← HN.out];omega)] at this
    gi_wp2
    go_end0;exact ⟨⟨_,rfl⟩,_,HS⟩
end
section
open Go.Maps Go.WideMaps Go.Shelf Go.Sort Go.Proofs.Tryz
attribute [local go_sem] Oper.semAt_some
theorem info_strN:(prog.info? 9).map (fun i=>(i.zero,i.size,i.bytes))=some (some (.string ⟨#[]⟩),1,16):=by kernel_rfl
theorem owns_keep {R:Value→Option (DataW Unit × List MemPlace)} {w w':World} {mb nn:Nat} {D:DataW Unit} (h:w.ownsMap prog 9 R mb nn D) (he:w'.heap[mb]?=w.heap[mb]?):w'.ownsMap prog 9 R mb nn D:=by
 obtain ⟨es,clock,h1,h2⟩:=h;exact ⟨es,clock,he.trans h1,h2⟩
theorem list_in {R:Value→Option (DataW Unit × List MemPlace)} (w:World) (mb nn:Nat) (D:DataW Unit) (hm:w.ownsMap prog 9 R mb nn D) (hK:nn≤67108864) (hsD:Maps.size D≤67108864) :
 Calls prog 119 #[.map (some mb)] w fun e w'=>∃ u,e=.returned u∧w'.ownsRow w.heap.size 9 1 u (keysD D).length ((keysD D).map encStr)∧Bz w w':=by
 refine (callsIn_wide (n:=7)).1 ?_;obtain ⟨i0,hi,hz0,hz1,hz2⟩:=info_parts info_strN;have HM:=hid hm;have hlt0:mb<w.heap.size:=hm.lt;obtain ⟨es,clock,hes,-,hsz,-⟩:=hm;have hsz2:es.size≤67108864:=Nat.le_trans hsz hK;have hlen:∀ ty,(Builtin.len_ #[162] ty #[.map (some mb)]).run prog w=.ok (goInt es.size) w:=fun ty=>run_len_map (w:=w) 162 ty mb es clock underlying162 hes;clear hsz;refine callsIn_of_wp_marks func119 rfl trivial ?_ rfl;simp only [ntmps119,List.size_toArray,List.length_cons,List.length_nil,Nat.reduceAdd,Nat.reduceSub,Array.replicate_succ,Array.replicate_zero,List.push_toArray,List.append_toArray,List.nil_append,List.cons_append]
 gi_wp2_with (gi_at_make;refine wpListIn_make_own _ rfl _ _ 49 rfl w.heap.size 9 i0 (.string ⟨#[]⟩) 1 underlying49 hi hz0 hz1 .i64 .i64 _ es.size rfl rfl rfl (by rw [hz2];omega) (by unfold maxLen;omega) (sqR _) ?_;intro w1 hrow hgrow)
 have bO:=Boxed.new w1 49 (.slice (some ⟨w.heap.size,0,none⟩) 0 es.size);have hle:=hgrow.size;have hB1:Bz w w1:=⟨hgrow.os,hgrow.tape,hgrow.output,hgrow.size,fun j hj=>hgrow.block j hj (by simp)⟩;have hB0:Bz w (w1.alloc (.cells #[.slice (some ⟨w.heap.size,0,none⟩) 0 es.size] 49)):=hB1.alloc hle _
 refine range_bound rfl (by omega) (gf:=151) (bs:=#[.map (some mb)]) rfl trivial (enters_of func151 (by kernel_rfl) rfl)
  (encs:=fun x:List UInt8=>#[encStr x]) (fun _=>rfl) (keysD D)
  (fun l J W hW hJb hJn hY h0=>asc_in l mb nn D W (owns_keep HM.out ((hW.block mb (by have:=hB0.size;omega)).trans (hB0.block mb hlt0))) hsD J hJb hJn hY h0)
  (fun q pre W=>((∃ v,Boxed W w1.heap.size 49 v∧W.ownsRow w.heap.size 9 1 v pre.length (pre.map encStr)∧∀ b,q=some b→v.ownBlock≠some b∧b≠w1.heap.size)∧Bz w W)∧∀ b,q=some b→b<W.heap.size)
  (fun q=>OwnFrom.and (OwnFrom.and (Own.from (holdsRow_own w.heap.size w1.heap.size 49 9 1 (fun pre:List (List UInt8)=>pre.length) (fun pre=>pre.map encStr) (fun pre v=>∀ b,q=some b→v.ownBlock≠some b∧b≠w1.heap.size)) _) (ownFrom_below (sqR _) (by simp;omega)))
   (fun s A B row hs hg hr b e=>Nat.lt_of_lt_of_le (hs b e) hg.size))
  ?new ⟨⟨⟨_,bO,hrow.alloc _,fun b e=>by cases e⟩,hB0⟩,fun b e=>by cases e⟩
  (fun x=>{ tmps:=#[.map (some mb),undef,.slice none 0 0,.pointer (some ⟨w1.heap.size,0,none⟩),encStr x,.map (some mb),.int .i64 es.size,.slice (some ⟨w.heap.size,0,none⟩) 0 es.size,.map (some mb),.func (.func 151) #[.map (some mb)] #[],encStr x,undef,undef,undef,undef,undef],defers:=[] }) ?assign ?body ?done
 case new =>
  rintro s A B b ⟨⟨⟨v,h1,h2,-⟩,h3⟩,-⟩ hAB hb hbB;refine ⟨⟨⟨v,h1.kept (grown_of hAB) (by simp),h2.kept (grown_of hAB) (Classical.em _),fun b' e=>?_⟩,h3.trans (hAB.mono h3.size)⟩,fun b' e=>by cases e;exact hbB⟩
  cases e
  refine ⟨fun e'=>?_,?_⟩
  · have:=(h2.lt b e').2
    omega
  · have:=h1.lt
    omega
 case assign =>
  intro l x W K hK
  gi_wp2
  exact hK
 case body =>
  rintro l q pre x W ⟨⟨⟨v,hv,hrow,hq⟩,hB⟩,hqb⟩ hlt;have hc:=hv.cell;have hkl:=keysD_len D;have hpl:pre.length≤67108864:=(by omega)
  gi_wp2_with (gi_at_builtin;refine wpListIn_append_own_at _ rfl _ _ 49 rfl w.heap.size 9 i0 (.string ⟨#[]⟩) 1 16 underlying49 hi hz0 hz1 hz2 rfl (by decide) _ _ _ rfl (hrow.alloc _) ⟨W.heap.size,0,none⟩ 1 1 [encStr x] rfl rfl (cell_one_new _ _ _) (by simp [Value.oneCell']) (by unfold maxLen;omega) (by omega) (by have:=hB.size;simp;omega) ?_;intro v' w2 hown' hgr _ hat;obtain ⟨g',cap',rfl⟩:=ownsRow_succ hown';obtain ⟨hv1,hv2,hr2,hk2,hb2⟩:=hv.appended (by decide) hrow hB.size hle hown' hgr;have hc1:=hv1.cell;have hf1:=hv1.frozen)
  refine ⟨⟨⟨⟨_,hv2,by simpa using hr2,fun b e=>⟨?_,(hq b e).2⟩⟩,hB.trans hb2⟩,fun b e=>Nat.lt_of_lt_of_le (hqb b e) (by simpa using hk2.size)⟩,fun b e hbl=>?_⟩
  · rcases hat with h | h
    · rw [h];exact (hq b e).1
    · rw [h]
      intro e';have:=hqb b e;simp at e';omega
  · have hbA:b<(W.alloc (.cells #[encStr x] 9)).heap.size:=by simp;omega
    have s1:=hgr.block b (by simp;omega) (fun e'=>(hq b e).1 e'.symm);have s2:=(grownBy_setCell' w2 w1.heap.size (.slice (some ⟨g',0,none⟩) (pre.length+1) cap')).block b (Nat.lt_of_lt_of_le hbA (by simpa using hgr.size)) (fun e'=>(hq b e).2 (by cases e';rfl));exact (s2.trans s1).trans (Below.heap_alloc W _ b hbl)
 case done =>
  rintro D q W hD ⟨⟨⟨v,hv,hrow,-⟩,hB⟩,-⟩ hK;have hc:=hv.cell
  gi_wp2
  refine ⟨by simp,.inl ⟨_,_,rfl,run_takeDeferred hK,?_⟩⟩;exact ⟨_,results_tmp rfl _ _ _,v,rfl,ownsRow_putObj hrow _ hK rfl,hB.trans (belowK_b (w:=w) (sqR _) W D _ _ (by simp at hD;omega) hK rfl rfl)⟩
end
end Go.Proofs.YtbdhpganbbandaaGreatDoor
