/-
  ReachPlace
-/
import Derived.Test.YtonpgdfpgpepiaaGreatDoorP45
import Derived.Test.YtonpgdfpgpepiaaGreatDoorP01
import Derived.Sort.KeysCollected
set_option maxHeartbeats 16000000
set_option linter.unusedVariables false
set_option maxRecDepth 100000
namespace Go.Proofs.YtonpgdfpgpepiaaGreatDoor
open Go.ChangeShapes Go.WideShapes Go.ChangeAt Go.RowKit
section
open Go.Sort
theorem keyS_inj {a b:ByteArray} (h:keyS a=keyS b):a=b:=Classical.byContradiction fun hn=>str_ne hn h
theorem cmpS_key {a b:ByteArray} (h:cmpS a b<0):keyS a<keyS b:=by
  cases hb:Op.bytesLess a.toList b.toList with
  | true=>rw [bytesLess_eq] at hb;exact of_decide_eq_true hb
  | false =>
    by_cases he:a=b
    · subst he
      rw [cmpS_self] at h
      omega
    · rw [cmpS_gt hb he] at h
      omega
theorem sortKeys {l:List ByteArray} (hn:l.Nodup):((l.map keyS).mergeSort fun x y=>decide (x≤y))=(sortS l).map keyS:=by
  have h1:=sortS_asc l
  have h2:((sortS l).map keyS).Pairwise (fun a b=>a<b):=List.pairwise_map.2 (h1.imp (fun h=>cmpS_key h))
  have hp:(l.map keyS).Perm ((sortS l).map keyS):=by
    refine (List.perm_ext_iff_of_nodup (List.pairwise_map.2 (hn.imp (fun h e=>h (keyS_inj e)))) (h2.imp (fun {a b} h e=>by subst e;exact List.lt_irrefl _ h))).2 (fun x=>?_)
    simp only [List.mem_map,sortS_iff]
  have:=mergeSort_of_perm hp
  refine this.trans ?_
  exact List.mergeSort_of_pairwise (h2.imp (fun h=>decide_eq_true (List.le_of_lt h)))
theorem encS (s:ByteArray):encStr (keyS s)=.string s:=by
  unfold encStr keyS
  rw [ByteArray.toList_eq]
theorem encS_all (l:List ByteArray):(l.map keyS).map encStr=strs l:=by
  unfold strs
  rw [List.map_map]
  exact List.map_congr_left (fun s _=>encS s)
theorem putRow_atS {α:Type} [Inhabited α] {enc:α→Value} {w:World} {g:Nat} {F:Array α} {cur:Array Value} {e:TypeId} (h:w.heap[g]?=some (.cells cur e (0,0))):(Go.Sort.putRow enc w g 0 F).heap[g]?=some (.cells (Go.Sort.putCells enc 0 F cur) e (0,0)):=by
  unfold Go.Sort.putRow Go.Sort.mapBlock
  simp [Array.getElem?_modify,h,Go.Sort.onCells]
theorem putRow_offS {α:Type} [Inhabited α] {enc:α→Value} {w:World} {g a:Nat} {F:Array α} (h:a≠g):(Go.Sort.putRow enc w g 0 F).heap[a]?=w.heap[a]?:=by
  unfold Go.Sort.putRow Go.Sort.mapBlock
  simp [Array.getElem?_modify,Ne.symm h]
theorem putCells_takeS {α:Type} [Inhabited α] {enc:α→Value} {F:Array α} {cur:Array Value} (h:F.size≤cur.size):(Go.Sort.putCells enc 0 F cur).toList.take F.size=F.toList.map enc:=by
  apply List.ext_getElem?
  intro i
  rw [List.getElem?_take]
  by_cases hi:i<F.size
  · rw [if_pos hi,Array.getElem?_toList,List.getElem?_map,Array.getElem?_toList]
    unfold Go.Sort.putCells
    rw [Array.getElem?_mapIdx,Array.getElem?_eq_getElem (by omega),Array.getElem?_eq_getElem hi]
    simp [hi]
  · rw [if_neg hi,List.getElem?_map,Array.getElem?_toList,Array.getElem?_eq_none (by omega)]
    rfl
theorem sortNames_any (w:World) (B:Nat) (v:Value) (l:List ByteArray) (h:OwnS w B v l) (hn:l.Nodup) (hl:l.length≤1048576) :
    Calls Tryz.prog 26 #[v] w fun e w'=>e=.returned (.tuple #[])∧OwnS w' B v (sortS l)∧Below B w w'∧ApartE 9 w w'∧∀ a,a<w.heap.size→v.ownBlock≠some a→w'.heap[a]?=w.heap[a]?:=by
  obtain ⟨hr,hB⟩:=id h
  by_cases h0:l.length=0
  · obtain ⟨p,cap,rfl,-⟩:=owns_slice hr
    rw [h0]
    refine (Tryz.slices_Sort_string_none p cap w).mono ?_
    rintro e w' ⟨rfl,rfl⟩
    obtain rfl:=List.length_eq_zero_iff.1 h0
    exact ⟨rfl,by simpa [sortS] using h,Below.refl _ _,ApartE.refl _ _,fun _ _ _=>rfl⟩
  · obtain ⟨p,cap,rfl,-⟩:=owns_slice hr
    obtain ⟨g,rfl⟩:=owns_some hr (by omega)
    obtain ⟨hcl,⟨h0',-⟩ | ⟨g',cap',cur,he,hBg,hb,hnc,hcm,hcs,htk⟩⟩:=hr
    · exact absurd h0' (by simp)
    simp only [Value.slice.injEq,Option.some.injEq,Addr.mk.injEq,true_and,and_true] at he
    obtain ⟨rfl,rfl⟩:=he
    have hlt:g<w.heap.size:=(Array.getElem?_eq_some_iff.1 hb).1
    have hH:Go.Sort.Holds encStr w g 0 (l.map keyS).toArray:=fun t ht=>by
      have ht':t<l.length:=by simpa using ht
      have hcur:cur[t]?=some (Value.string (l[t]'ht')):=by
        have:=congrArg (fun q:List Value=>q[t]?) htk
        simp only [List.getElem?_take] at this
        rw [if_pos (by omega),Array.getElem?_toList] at this
        rw [this];simp [strs,ht']
      refine ⟨?_,?_⟩
      · rw [Nat.zero_add]
        rw [show w.cell? ⟨g,t,none⟩=cur[t]? by simp [World.cell?,hb],hcur,getElem!_pos (l.map keyS).toArray t ht]
        simp [encS]
      · simp [World.frozen?,hb]
    have hcon:=Tryz.slices_Sort_string g 0 cap (l.map keyS) w hH hlt (by rw [List.length_map];omega)
    rw [sortKeys hn,List.length_map] at hcon
    refine hcon.mono ?_
    rintro e w' ⟨rfl,m,os,hw⟩
    have hlen:(sortS l).length=l.length:=by
      have:=congrArg List.length (sortKeys hn)
      rw [List.length_mergeSort,List.length_map,List.length_map] at this
      exact this.symm
    obtain ⟨F,hF⟩:∃ F,F=((sortS l).map keyS).toArray:=⟨_,rfl⟩
    have hFs:F.size=l.length:=by rw [hF];simp [hlen]
    rw [← hF] at hw
    have hsz:(Go.Sort.putRow encStr (Go.Sort.ahead w m) g 0 F).heap.size=w.heap.size:=by simp [Go.Sort.putRow,Go.Sort.mapBlock,Go.Sort.ahead]
    have hheap:∀ a,a<w.heap.size→w'.heap[a]?=(Go.Sort.putRow encStr (Go.Sort.ahead w m) g 0 F).heap[a]?:=fun a ha=>by
      rw [hw]
      show (_ ++ os)[a]?=_
      rw [Array.getElem?_append_left (by rw [hsz];exact ha)]
    have hbg:w'.heap[g]?=some (.cells (Go.Sort.putCells encStr 0 F cur) 9 (0,0)):=(hheap g hlt).trans (putRow_atS (w:=Go.Sort.ahead w m) hb)
    have hs':w.heap.size≤w'.heap.size:=by rw [hw];show _≤(_ ++ os).size;rw [Array.size_append,hsz];omega
    have hoff:∀ a,a<w.heap.size→a≠g→w'.heap[a]?=w.heap[a]?:=fun a ha hne=>(hheap a ha).trans (putRow_offS (w:=Go.Sort.ahead w m) hne)
    have hsc:(Go.Sort.putCells encStr 0 F cur).size=cur.size:=by unfold Go.Sort.putCells;simp
    refine ⟨rfl,⟨⟨by rw [strs_length];omega,.inr ⟨g,cap,_,by rw [hlen],hBg,hbg,by rw [hlen];exact hnc,hcm,by rw [hsc];exact hcs,?_⟩⟩,Nat.le_trans hB hs'⟩,⟨?_,?_,?_,hs',fun a ha=>hoff a (Nat.lt_of_lt_of_le ha hB) (by omega)⟩,fun a cs t fr hc ht=>?_,fun a ha hne=>hoff a ha (fun e=>hne (by rw [e];rfl))⟩
    · rw [hlen,Nat.mul_one,← hFs,putCells_takeS (by rw [hFs,hcs];omega),hF]
      exact encS_all _
    · rw [hw];rfl
    · rw [hw];rfl
    · rw [hw];rfl
    · refine hoff a (Array.getElem?_eq_some_iff.1 hc).1 (fun e=>?_)
      subst e
      rw [hb] at hc
      cases hc
      exact ht rfl
theorem bs_at {N:List ByteArray} (ha:N.Pairwise (fun a b=>cmpS a b<0)) {p:Nat} {x:ByteArray} (hp:N[p]?=some x) :
    Go.Lib.bsGo (fun t=>Op.bytesLess ((N[t]?).getD x).toList x.toList) N.length 0 N.length=p:=by
  obtain ⟨hpl,hpx⟩:=List.getElem?_eq_some_iff.1 hp
  refine Go.Lib.bsGo_spec _ p (fun t ht=>?_) (fun t ht=>?_) _ _ _ (by omega) (by omega) (by omega)
  · have h1:=List.pairwise_iff_getElem.1 ha t p (by omega) hpl ht
    rw [List.getElem?_eq_getElem (by omega),Option.getD_some,← hpx,bytesLess_eq]
    exact decide_eq_true (cmpS_key h1)
  · by_cases htl:t<N.length
    · rw [List.getElem?_eq_getElem htl,Option.getD_some,bytesLess_eq]
      refine decide_eq_false (fun h=>?_)
      by_cases e:t=p
      · subst e;rw [hpx] at h;exact List.lt_irrefl _ h
      · have h1:=cmpS_key (List.pairwise_iff_getElem.1 ha p t hpl htl (by omega))
        rw [hpx] at h1
        exact List.lt_irrefl _ (List.lt_trans h h1)
    · rw [List.getElem?_eq_none (by omega),Option.getD_none,bytesLess_eq]
      exact decide_eq_false (List.lt_irrefl _)
theorem place_any (w:World) (s B gn n qn:Nat) (c1 c2 c3:Value) (N:List ByteArray) (hb:Blk w s #[.slice (some ⟨gn,0,none⟩) n qn,c1,c2,c3] 114) (ho:OwnS w B (.slice (some ⟨gn,0,none⟩) n qn) N) (ha:N.Pairwise (fun a b=>cmpS a b<0)) (hl:N.length≤1048576) (x:ByteArray) (p:Nat) (hp:N[p]?=some x) :
    Calls Tryz.prog 44 #[.pointer (some ⟨s,0,none⟩),.string x] w fun e w'=>e=.returned (.int .i64 (p:Int))∧Below w.heap.size w w':=by
  have hn:n=N.length:=by obtain ⟨p,c,e,_⟩:=owns_slice ho.1;cases e;rfl
  subst hn
  have BS:Hid (Calls Tryz.prog 70 #[.slice (some ⟨gn,0,none⟩) N.length qn,.string x] w fun e w'=>(∃ b,e=.returned (.tuple #[.int .i64 (p:Int),.bool b]))∧Below w.heap.size w w'):=by
    have:=Any2.slices_BinarySearch_string Tryz.bsearch gn 0 N.length qn (fun t=>(N[t]?).getD x) x w (by omega) (fun j hj=>by
      obtain ⟨g,e,c⟩:=ho.at (k:=j) (List.getElem?_eq_getElem hj)
      cases e
      rw [Nat.zero_add,List.getElem?_eq_getElem hj]
      exact c)
    change Calls Tryz.prog 70 _ _ _ at this
    rw [bs_at ha hp] at this
    refine this.mono ?_
    rintro e w' ⟨rfl,q,rfl⟩
    exact ⟨⟨_,rfl⟩,rfl,rfl,rfl,Nat.le_refl _,fun _ _=>rfl⟩
  have c0:=hb.cell 0 _ rfl
  generalize N.length=n at *
  clear hb ho ha hl hp
  go_enter Tryz.func44,Tryz.ntmps44
  go_wp2_with fail
  refine BS.out.mono ?_
  rintro e w2 ⟨⟨b,rfl⟩,hb2⟩
  have B2:Hid (Below w.heap.size w w2):=hb2
  clear hb2 BS c0
  go_wp2_with fail
  go_ret
  exact ⟨rfl,B2.out⟩
end
end Go.Proofs.YtonpgdfpgpepiaaGreatDoor
