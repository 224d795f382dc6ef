/-
  SortEdge GraphSame
-/
import Derived.Test.YtonpgdfpgpepiaaGreatDoorP44
import Derived.Test.YtonpgdfpgpepiaaGreatDoorP00
set_option maxHeartbeats 16000000
set_option linter.unusedVariables false
set_option maxRecDepth 100000
namespace Go.Proofs.YtonpgdfpgpepiaaGreatDoor
open Go.ChangeShapes Go.WideShapes Go.ChangeAt Go.RowKit
instance:Inhabited Edge:=⟨(⟨#[]⟩,⟨#[]⟩)⟩
def encE (e:Edge):List Value:=[.string e.1,.string e.2]
def sortE (l:List Edge):List Edge:=l.mergeSort fun x y=>!(ltOf cmpE) y x
theorem cmpE_zero {a b:Edge}:cmpE a b=0 ↔ a=b:=ord_edge.eq a b trivial trivial
theorem swoE:Go.Sort.SWO (ltOf cmpE) where
  irrefl x:=by have:=cmpE_zero (a:=x) (b:=x);unfold ltOf;have:=this.2 rfl;simp [this]
  trans x y z h1 h2:=by
    unfold ltOf at *
    simp only [decide_eq_true_eq] at *
    exact ord_edge.tr x y z trivial trivial trivial h1 h2
  ntrans x y z h1 h2:=by
    unfold ltOf at *
    simp only [decide_eq_false_iff_not] at *
    have a1:=ord_edge.anti x y trivial trivial
    have a2:=ord_edge.anti y z trivial trivial
    have a3:=ord_edge.anti x z trivial trivial
    have:=ord_edge.le (a:=z) (b:=y) (c:=x) trivial trivial trivial (by omega) (by omega)
    omega
theorem totE (x y:Edge) (h1:ltOf cmpE x y=false) (h2:ltOf cmpE y x=false):x=y:=by
  unfold ltOf at *
  simp only [decide_eq_false_iff_not] at *
  have:=ord_edge.anti x y trivial trivial
  exact cmpE_zero.1 (by omega)
theorem sortE_perm (l:List Edge):(sortE l).Perm l:=List.mergeSort_perm l _
theorem sortE_asc (l:List Edge):(sortE l).Pairwise (fun a b=>cmpE a b≤0):=by
  have h:=List.pairwise_mergeSort (le:=fun x y=>!(ltOf cmpE) y x) (fun a b c h1 h2=>by
    unfold ltOf at *
    simp only [Bool.not_eq_true',decide_eq_false_iff_not] at *
    have a1:=ord_edge.anti a b trivial trivial
    have a2:=ord_edge.anti b c trivial trivial
    have a3:=ord_edge.anti a c trivial trivial
    have:=ord_edge.le (a:=a) (b:=b) (c:=c) trivial trivial trivial (by omega) (by omega)
    omega) (fun a b=>by
    unfold ltOf
    simp only [Bool.or_eq_true,Bool.not_eq_true',decide_eq_false_iff_not]
    have a1:=ord_edge.anti a b trivial trivial
    omega) l
  refine h.imp (fun {a b} h=>?_)
  unfold ltOf at h
  simp only [Bool.not_eq_true',decide_eq_false_iff_not] at h
  have a1:=ord_edge.anti a b trivial trivial
  omega
theorem compareEdge_grow (a b:Edge) (w:World):Calls Tryz.prog 111 #[.agg #[.string a.1,.string a.2],.agg #[.string b.1,.string b.2]] w fun e w'=>e=.returned (.int .i64 (cmpE a b))∧∃ q os,w'=Go.Sort.grow (w.drewN q) os:=by
  obtain ⟨s,m⟩:=a
  obtain ⟨t,n⟩:=b
  simp only
  obtain ⟨W2,hW2⟩:∃ W2,W2=(w.alloc (.cells #[.string s,.string m] 70)).alloc (.cells #[.string t,.string n] 70):=⟨_,rfl⟩
  have bA:Hid (Blk W2 w.heap.size #[.string s,.string m] 70):=by show Blk _ _ _ _;rw [hW2];exact Blk.new.alloc
  have bB:Hid (Blk W2 (w.heap.size+1) #[.string t,.string n] 70):=by
    show Blk _ _ _ _
    rw [hW2]
    have:=Blk.new (w:=w.alloc (.cells #[.string s,.string m] 70)) (cs:=#[.string t,.string n]) (t:=70)
    rwa [alloc_hs] at this
  have HW2:Hid (W2=(w.alloc (.cells #[.string s,.string m] 70)).alloc (.cells #[.string t,.string n] 70)):=hW2
  clear hW2
  have a0:=bA.out.cell 0 _ rfl
  have a1:=bA.out.cell 1 _ rfl
  have b0:=bB.out.cell 0 _ rfl
  have b1:=bB.out.cell 1 _ rfl
  generalize ho:or2 (cmpS s t) (cmpS m n)=o
  have HO:Hid (or2 (cmpS s t) (cmpS m n)=o):=ho
  have HS:Hid (cmpE (s,m) (t,n)=o):=ho
  clear ho
  go_enter Tryz.func111,Tryz.ntmps111
  go_wp2_with fail
  rw [← HW2.out]
  go_region_held3 (fun w'=>w'.cell? ⟨w.heap.size,0,none⟩=some (.string s)∧w'.cell? ⟨w.heap.size,1,none⟩=some (.string m)∧w'.cell? ⟨w.heap.size+1,0,none⟩=some (.string t)∧w'.cell? ⟨w.heap.size+1,1,none⟩=some (.string n))
    (first | go_keep)
    (first
      | (go_at_call 151;refine (stringsCompare_any _ _ _).mono ?_;rintro e w' ⟨rfl,rfl⟩)
      | (go_at_call 150;refine (cmpOr2_any (cmpS s t) (cmpS m n) _ _ (by exact cell_new _ _ _ 0 _ rfl) (by exact cell_new _ _ _ 1 _ rfl)).mono ?_;rintro e w' ⟨rfl,rfl⟩;rw [HO.out]))
  go_split_ands
  have HG:Hid (∃ q os,((W2.alloc (.cells #[.int .i64 (cmpS s t),.int .i64 (cmpS m n)] 3)).drew)=Go.Sort.grow (w.drewN q) os) :=
    ⟨1,_,by rw [HW2.out,Go.Sort.alloc_eq_grow,Go.Sort.alloc_eq_grow,Go.Sort.alloc_eq_grow,Go.Sort.grow_grow,Go.Sort.grow_grow];rfl⟩
  go_wp2
  go_ret
  exact ⟨by rw [HS.out];rfl,HG.out⟩
theorem entersE {f:FuncId} {fn:Func} {c:Code} (hf:Tryz.prog.funcs[f]?=some fn) (hn:(fn.name == "runtime.NumGoroutine")=false) (hb:fn.body=some c) (args:Array Value) (w:World) :
    Sem.run Tryz.prog (callFunc f args) w=.ok (.enter f args) w:=by
  have h:¬ fn.name = "runtime.NumGoroutine" := by simpa using hn
  simp [callFunc,hf,h,hb]
theorem putRow_atE {w:World} {g:Nat} {F cur:Array Value} {e:TypeId} (h:w.heap[g]?=some (.cells cur e (0,0))):(Go.Sort.putRow id w g 0 F).heap[g]?=some (.cells (Go.Sort.putCells id 0 F cur) e (0,0)):=by
  unfold Go.Sort.putRow Go.Sort.mapBlock
  simp [Array.getElem?_modify,h,Go.Sort.onCells]
theorem putRow_offE {w:World} {g a:Nat} {F:Array Value} (h:a≠g):(Go.Sort.putRow id w g 0 F).heap[a]?=w.heap[a]?:=by
  unfold Go.Sort.putRow Go.Sort.mapBlock
  simp [Array.getElem?_modify,Ne.symm h]
theorem putCells_takeE {F cur:Array Value} (h:F.size≤cur.size):(Go.Sort.putCells id 0 F cur).toList.take F.size=F.toList:=by
  apply List.ext_getElem?
  intro i
  rw [List.getElem?_take]
  by_cases hi:i<F.size
  · rw [if_pos hi,Array.getElem?_toList,Array.getElem?_toList]
    unfold Go.Sort.putCells
    rw [Array.getElem?_mapIdx,Array.getElem?_eq_getElem (by omega),Array.getElem?_eq_getElem hi]
    simp [hi]
  · rw [if_neg hi,Array.getElem?_toList,Array.getElem?_eq_none (by omega)]
theorem putCells_sizeE {F cur:Array Value}:(Go.Sort.putCells id 0 F cur).size=cur.size:=by unfold Go.Sort.putCells;simp
theorem flatE (l:List Edge):(Go.Sort.flatK encE 2 l.toArray).toList=edC l:=by
  apply List.ext_getElem?
  intro t
  by_cases ht:t<l.length * 2
  · have hs:t<l.toArray.size * 2:=by simpa using ht
    have hl:t / 2<l.length:=by omega
    rw [Array.getElem?_toList,Array.getElem?_eq_getElem (by rw [Go.Sort.size_flatK];exact hs)]
    have h:=Go.Sort.get_flatK encE 2 l.toArray t hs
    rw [getElem!_pos _ _ (by rw [Go.Sort.size_flatK];exact hs)] at h
    rw [h]
    have hr:l.toArray[t / 2]! = l[t / 2]:=by rw [getElem!_pos l.toArray (t / 2) (by simpa using hl)];simp
    obtain ⟨a1,a2⟩:=edC_at l (t / 2) _ (List.getElem?_eq_getElem hl)
    rw [hr]
    rcases Nat.mod_two_eq_zero_or_one t with hm | hm
    · rw [hm]
      rw [show t / 2 * 2=t by omega] at a1
      rw [a1];rfl
    · rw [hm]
      rw [show t / 2 * 2+1=t by omega] at a2
      rw [a2];rfl
  · rw [Array.getElem?_toList,Array.getElem?_eq_none (by rw [Go.Sort.size_flatK];simpa using ht),List.getElem?_eq_none (by rw [edC_len];omega)]
theorem sortEdges_any (w:World) (B:Nat) (v:Value) (l:List Edge) (h:OwnE w B v l) (hn:l.length≤1048576) :
    Calls Tryz.prog 110 #[v,.func (.func 111) #[] #[]] w fun e w'=>e=.returned (.tuple #[])∧OwnE w' B v (sortE l)∧Below B w w'∧ApartE 70 w w'∧∀ a,a<w.heap.size→v.ownBlock≠some a→w'.heap[a]?=w.heap[a]?:=by
  obtain ⟨hr,hB⟩:=h.raw
  by_cases h0:l.length=0
  · obtain ⟨p,cap,rfl,-⟩:=owns_slice hr
    rw [h0]
    refine (AnyF.slices_SortFunc_none Tryz.sortRef p cap _ w).mono ?_
    rintro e w' ⟨rfl,rfl⟩
    obtain rfl:=List.length_eq_zero_iff.1 h0
    exact ⟨rfl,by simpa [sortE] using h,Below.refl _ _,ApartE.refl _ _,fun _ _ _=>rfl⟩
  · obtain ⟨p,cap,rfl,-⟩:=owns_slice hr
    obtain ⟨g,rfl⟩:=owns_some hr (by omega)
    obtain ⟨hcl,⟨h0',-⟩ | ⟨g',cap',cur,he,hBg,hb,hnc,hcm,hcs,htk⟩⟩:=hr
    · exact absurd h0' (by simp)
    simp only [Value.slice.injEq,Option.some.injEq,Addr.mk.injEq,true_and,and_true] at he
    obtain ⟨rfl,rfl⟩:=he
    have hH:Go.Sort.HoldsK encE 2 w g 0 l.toArray:=fun t ht=>by
      rw [Go.Sort.size_flatK] at ht
      have ht':t<l.length * 2:=by simpa using ht
      have hcur:cur[t]?=(Go.Sort.flatK encE 2 l.toArray)[t]?:=by
        rw [← Array.getElem?_toList,← Array.getElem?_toList,flatE,← htk,List.getElem?_take,if_pos ht']
      refine ⟨?_,?_⟩
      · rw [Nat.zero_add]
        show w.cell? ⟨g,t,none⟩=_
        rw [show w.cell? ⟨g,t,none⟩=cur[t]? by simp [World.cell?,hb],hcur,Array.getElem?_eq_getElem (by rw [Go.Sort.size_flatK];exact ht),getElem!_pos _ _ (by rw [Go.Sort.size_flatK];exact ht)]
        rfl
      · simp [World.frozen?,hb]
    have hlt:g<w.heap.size:=(Array.getElem?_eq_some_iff.1 hb).1
    have hcon:=AnyQ.slices_SortFunc_total Tryz.sortRef 2 Tryz.isAgg70 Tryz.sizeOf70 encE (fun _=>rfl) (fun x v hv=>by simp [encE] at hv;rcases hv with rfl | rfl <;> rfl) cmpE swoE 111 #[] g 0 cap l.toArray w
      (entersE Tryz.func111 (by kernel_rfl) rfl) (fun _ _ _ _ x y=>compareEdge_grow x y _) hH hlt (by simp;omega) totE
    change Calls Tryz.prog 110 _ _ _ at hcon
    simp only [List.size_toArray] at hcon
    refine hcon.mono ?_
    rintro e w' ⟨rfl,m,os,hw⟩
    have hlen:(sortE l).length=l.length:=List.length_mergeSort _
    obtain ⟨F,hF⟩:∃ F,F=Go.Sort.flatK encE 2 (sortE l).toArray:=⟨_,rfl⟩
    have hFs:F.size=l.length * 2:=by rw [hF,Go.Sort.size_flatK];simp [hlen]
    have hw2:w'=Go.Sort.grow (Go.Sort.putRow id (Go.Sort.ahead w m) g 0 F) os:=by rw [hw,hF];rfl
    have hsz:(Go.Sort.putRow id (Go.Sort.ahead w m) g 0 F).heap.size=w.heap.size:=by simp [Go.Sort.putRow,Go.Sort.mapBlock,Go.Sort.ahead]
    have hheap:∀ a,a<w.heap.size→w'.heap[a]?=(Go.Sort.putRow id (Go.Sort.ahead w m) g 0 F).heap[a]?:=fun a ha=>by
      rw [hw2]
      show (_ ++ os)[a]?=_
      rw [Array.getElem?_append_left (by rw [hsz];exact ha)]
    have hbg:w'.heap[g]?=some (.cells (Go.Sort.putCells id 0 F cur) 70 (0,0)):=(hheap g hlt).trans (putRow_atE (w:=Go.Sort.ahead w m) hb)
    have hs':w.heap.size≤w'.heap.size:=by rw [hw2];show _≤(_ ++ os).size;rw [Array.size_append,hsz];omega
    have hoff:∀ a,a<w.heap.size→a≠g→w'.heap[a]?=w.heap[a]?:=fun a ha hne=>(hheap a ha).trans (putRow_offE (w:=Go.Sort.ahead w m) hne)
    have hrow:w'.ownsRow B 70 2 (.slice (some ⟨g,0,none⟩) l.length cap) l.length (edC (sortE l)):=by
      refine ⟨by rw [edC_len,hlen],.inr ⟨g,cap,_,rfl,hBg,hbg,hnc,hcm,by rw [putCells_sizeE];exact hcs,?_⟩⟩
      rw [← hFs,putCells_takeE (by rw [hFs,hcs];exact Nat.mul_le_mul_right 2 hnc),hF,flatE]
    refine ⟨rfl,OwnE.ofRaw (by rw [hlen];exact hrow) (Nat.le_trans hB hs'),⟨?_,?_,?_,hs',fun a ha=>hoff a (Nat.lt_of_lt_of_le ha hB) (by omega)⟩,fun a cs t fr hc ht=>?_,fun a ha hne=>hoff a ha (fun e=>hne (by rw [e];rfl))⟩
    · rw [hw2];rfl
    · rw [hw2];rfl
    · rw [hw2];rfl
    · refine hoff a (Array.getElem?_eq_some_iff.1 hc).1 (fun e=>?_)
      subst e
      rw [hb] at hc
      cases hc
      exact ht rfl
theorem itoa6:∀ a b:Fin 7,Lib.itoa (a.val:Int)=Lib.itoa (b.val:Int)→a=b:=by
  intro a b h
  have key:∀ k:Fin 7,Lib.itoa (k.val:Int) = [UInt8.ofNat (48+k.val)]:=fun k=>by
    rw [itoa_pos _ (by omega)]
    show Lib.decDigits ((k.val:Int).natAbs)=_
    rw [Int.natAbs_natCast,Lib.decDigits,dif_pos (by omega)]
  rw [key,key] at h
  revert h
  revert a b
  decide
theorem itoa_once (a b:Int) (ha:inB a 0 6=true) (hb:inB b 0 6=true) (h:Lib.itoa a=Lib.itoa b):a=b:=by
  unfold inB at ha hb
  simp only [decide_eq_true_eq] at ha hb
  have:=itoa6 ⟨a.toNat,by omega⟩ ⟨b.toNat,by omega⟩ (by
    show Lib.itoa ((a.toNat:Nat):Int)=Lib.itoa ((b.toNat:Nat):Int)
    rw [show ((a.toNat:Nat):Int)=a by omega,show ((b.toNat:Nat):Int)=b by omega];exact h)
  have:=congrArg Fin.val this
  simp only at this
  omega
theorem graph_same {d:Nat} {ms:List Md} (h:pgOk d ms=true):compactE (sortE (edgesOf nmT d ms))=tellE (ftOf nmT d ms) :=
  graph_eq nmT h (names_once (dg:=Lib.itoa) itoa_once (fun m s n=>strOf_data _) h) (sortE_perm _) (sortE_asc _)
theorem names_nodup {d:Nat} {ms:List Md} (h:pgOk d ms=true):((ftOf nmT d ms).map Prod.fst).Nodup:=names_once (dg:=Lib.itoa) itoa_once (fun m s n=>strOf_data _) h
theorem compactE_len:∀ l:List Edge,(compactE l).length≤l.length
  | []=>Nat.le_refl _
  | [x]=>Nat.le_refl _
  | x :: y :: l=>by
    have ih:=compactE_len (y :: l)
    unfold compactE
    split
    · simp only [List.length_cons] at ih ⊢;omega
    · simp only [List.length_cons] at ih ⊢;omega
end Go.Proofs.YtonpgdfpgpepiaaGreatDoor
