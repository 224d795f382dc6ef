/-
  GraphSpecB GraphRow GraphImplB GraphImplC GraphEdges
-/
import Derived.Test.YtkkabbfdjhcfcaaGreatDoorP45
import Derived.Test.YtkkabbfdjhcfcaaGreatDoorP40
set_option maxHeartbeats 16000000
set_option linter.unusedVariables false
set_option maxRecDepth 100000
namespace Go.Proofs.YtkkabbfdjhcfcaaGreatDoor
open Go.ChangeShapes Go.WideShapes Go.ChangeAt Go.RowKit
def cF (m:Md) (d:Nat) (l:List Ex):List ByteArray:=l.flatMap (callsX nmT m d)
theorem cF_len (m:Md) (d:Nat) (l:List Ex):(cF m d l).length≤(l.map fun y=>1+wtEx d y).sum:=flat_lenG (callsX nmT m d) (fun y=>1+wtEx d y) l (fun z _=>callsX_len m d z)
theorem cF_small {m:Md} (hm:m.name.size≤1048576) {d:Nat} {l:List Ex} (hl:∀ y ∈ l,wtEx d y≤1048576):∀ c ∈ cF m d l,c.size≤2097200:=by
  intro c hc
  obtain ⟨y,hy,hc⟩:=List.mem_flatMap.1 hc
  exact callsX_small hm d y (hl y hy) c hc
theorem mem_wt (d:Nat) {l:List Ex} {y:Ex} (h:y ∈ l):1+wtEx d y≤(l.map fun y=>1+wtEx d y).sum:=by
  obtain ⟨k,hk⟩:=List.mem_iff_getElem?.1 h
  have h2:=sum_take_succ (fun y=>1+wtEx d y) l k y hk
  have h3:=sum_take_le (fun y=>1+wtEx d y) l (k+1)
  omega
theorem l05Of_any (d:Nat) (w:World) (mc:List Value) (m:Md) (cs:List Value) (f:Fn') (hm:HMd w All d mc m) (hf:HFn w All d cs f) (hw:wtFn d f≤1048576) (hms:m.name.size≤1048576) :
    Calls Tryz.prog 16 #[.agg mc.toArray,.agg cs.toArray] w fun e w'=>∃ u,e=.returned u∧OwnS w' w.heap.size u (sortS (cF m d (bodiesOf f.clauses)))∧Below w.heap.size w w':=by
  have HMM:Hid (∀ w',Below w.heap.size w w'→HMd w' All d mc m):=fun w' hw=>hm.mono (SameOn.of_below hw) (fun _ h=>h)
  obtain ⟨sv,pe,ne,ce,pf,nf,cf,rfl⟩:=hm.shape
  obtain ⟨cv,rfl,-,-,p1,q1,rfl,hcl,hcm,hx⟩:=hf
  have HWC:Hid (wtS (wtCl (wtEx d)) f.clauses≤1048576):=by show _≤_;unfold wtFn at hw;omega
  have HX:Hid (f.clauses≠[]→∃ g off,p1=some ⟨g,off,none⟩∧All g∧g<w.heap.size∧∀ i x,f.clauses[i]?=some x→∃ cs,cs.length=2∧(∀ j,j<2→w.cell? ⟨g,off+i * 2+j,none⟩=cs[j]?)∧HCl w All (HEx w All d) cs x):=hx
  have hnb:f.clauses.length≤9223372036854775807:=by unfold maxLen at hcm;omega
  have HSM:Hid (m.name.size≤1048576):=hms
  obtain ⟨i0,hi,hz0,hz1,hz2⟩:=info_parts info_str
  generalize f.clauses=cl at *
  generalize hnc:cl.length=nc at *
  have HNC:Hid (cl.length=nc):=hnc
  obtain ⟨W2,hW2⟩:∃ W2,W2=(w.alloc (.cells #[.string sv,.slice pe ne ce,.slice pf nf cf] 44)).alloc (.cells #[.string f.name,.int .i64 f.arity,.slice p1 nc q1] 47):=⟨_,rfl⟩
  have bM:Hid (Blk W2 w.heap.size #[.string sv,.slice pe ne ce,.slice pf nf cf] 44):=by show Blk _ _ _ _;rw [hW2];exact Blk.new.alloc
  have bF:Hid (Blk W2 (w.heap.size+1) #[.string f.name,.int .i64 f.arity,.slice p1 nc q1] 47):=by
    show Blk _ _ _ _
    rw [hW2]
    have:=Blk.new (w:=w.alloc (.cells #[.string sv,.slice pe ne ce,.slice pf nf cf] 44)) (cs:=#[.string f.name,.int .i64 f.arity,.slice p1 nc q1]) (t:=47)
    simp only [alloc_hs] at this
    exact this
  have B2:Hid (Below w.heap.size w W2):=by show Below _ _ _;rw [hW2];exact ((Below.refl _ _).alloc (Nat.le_refl _) _).alloc (by simp only [alloc_hs];omega) _
  have S2:Hid (W2.heap.size=w.heap.size+1+1):=by show _=_;rw [hW2];simp only [alloc_hs]
  have HW2:Hid (W2=(w.alloc (.cells #[.string sv,.slice pe ne ce,.slice pf nf cf] 44)).alloc (.cells #[.string f.name,.int .i64 f.arity,.slice p1 nc q1] 47)):=hW2
  have O3:Hid (OwnS (W2.alloc (.cells #[] 9)) (w.heap.size+1+1) (.slice (some ⟨w.heap.size+1+1,0,none⟩) 0 0) []):=by
    have:=OwnS.fresh (w:=W2)
    rw [S2.out] at this
    exact this
  have B3:Hid (Below (w.heap.size+1+1) W2 (W2.alloc (.cells #[] 9))):=(Below.refl _ _).alloc (by rw [S2.out];exact Nat.le_refl _) _
  clear hm hw hx hnc hW2 hms
  go_enter Tryz.func16,Tryz.ntmps16
  go_wp2_with fail
  rw [← HW2.out]
  go_loopw [5,6] (fun ov iv wx=>∃ k:Nat,k≤nc∧iv=.int .i64 k∧Hid (OwnS wx (w.heap.size+1+1) ov (cF m d (bodiesOf (cl.take k))))∧Hid (Below (w.heap.size+1+1) W2 wx)) (fun _ iv _=>nc - (intOf iv).toNat)
  case atStart=>exact ⟨0,Nat.zero_le _,rfl,by show OwnS _ _ _ _;simpa [bodiesOf,cF] using O3.out,B3⟩
  case round =>
    obtain ⟨a,ha,rfl,ho,hbx⟩:=hrel
    have HB0:Hid (Below w.heap.size w wr):=B2.out.trans (hbx.out.mono (by omega))
    have bFr:=bF.out.below hbx.out (by omega)
    have x2:=bFr.cell 2 _ rfl
    have hsw:w.heap.size+1+1≤wr.heap.size:=by have:=hbx.out.size;rw [S2.out] at this;exact this
    clear bFr
    by_cases hlt:a<nc
    · obtain ⟨c,hck⟩:∃ c,cl[a]?=some c:=⟨cl[a]'(by rw [HNC.out];exact hlt),List.getElem?_eq_getElem _⟩
      obtain ⟨g,off,rfl,-,hgl,hat⟩:=HX.out (by intro h;rw [h] at hck;simp at hck)
      obtain ⟨cs,hcsl,hcs,pv,bv,rfl,rp,rb⟩:=hat a c hck
      obtain ⟨pp,qp,rfl,-⟩:=rp
      obtain ⟨pb,qb,rfl,hclb,hcmb,hxb⟩:=rb
      have HXB:Hid (c.2≠[]→∃ g off,pb=some ⟨g,off,none⟩∧All g∧g<w.heap.size∧∀ i x,c.2[i]?=some x→∃ cs,cs.length=6∧(∀ j,j<6→w.cell? ⟨g,off+i * 6+j,none⟩=cs[j]?)∧HEx w All d cs x):=hxb
      have hnbb:c.2.length≤9223372036854775807:=by unfold maxLen at hcmb;omega
      have HA0:Hid (w.cell? ⟨g,off+a * 2,none⟩=some (.slice pp c.1.length qp)∧w.cell? ⟨g,off+a * 2+1,none⟩=some (.slice pb c.2.length qb)):=⟨hcs 0 (by omega),hcs 1 (by omega)⟩
      have HGL:Hid (g<w.heap.size):=hgl
      have hki:(a:Int)<(nc:Int):=by omega
      have hk0:(0:Int)≤(a:Int):=by omega
      have HBO:Hid (bodiesOf (cl.take (a+1))=bodiesOf (cl.take a) ++ c.2):=bodiesOf_snoc cl a c hck
      have HSB:Hid ((((bodiesOf (cl.take a) ++ c.2).map fun y=>1+wtEx d y).sum)≤1048576):=by
        have h1:=sumB d cl
        have h2:=HWC.out
        have h3:((bodiesOf (cl.take (a+1))).map fun y=>1+wtEx d y).sum≤((bodiesOf cl).map fun y=>1+wtEx d y).sum:=by
          have e:bodiesOf cl=bodiesOf (cl.take (a+1)) ++ bodiesOf (cl.drop (a+1)):=by
            unfold bodiesOf
            rw [← List.flatMap_append,List.take_append_drop]
          rw [e,List.map_append,List.sum_append];omega
        rw [HBO.out] at h3
        show _≤_
        omega
      generalize hnbo:c.2.length=nb at *
      have HNB:Hid (c.2.length=nb):=hnbo
      clear hcs hat hcsl hxb hck hnbo hclb hcmb x2
      have bFr:=bF.out.below hbx.out (by omega)
      have x2:=bFr.cell 2 _ rfl
      clear bFr
      go_wp2_with fail
      clear x2
      go_loopw [5,7] (fun ov iv wx=>∃ j:Nat,j≤nb∧iv=.int .i64 j∧Hid (OwnS wx (w.heap.size+1+1) ov (cF m d (bodiesOf (cl.take a) ++ c.2.take j)))∧Hid (Below (w.heap.size+1+1) W2 wx)) (fun _ iv _=>nb - (intOf iv).toNat)
      case atStart=>exact ⟨0,Nat.zero_le _,rfl,by show OwnS _ _ _ _;simpa using ho.out,hbx⟩
      case round =>
        obtain ⟨j,hj,rfl,ho2,hb2⟩:=hrel
        clear ho hbx HB0 hsw
        have HB0:Hid (Below w.heap.size w wr):=B2.out.trans (hb2.out.mono (by omega))
        have bFr:=bF.out.below hb2.out (by omega)
        have bMr:=bM.out.below hb2.out (by omega)
        have x2:=bFr.cell 2 _ rfl
        have m0:=bMr.cell 0 _ rfl
        have m1:=bMr.cell 1 _ rfl
        have m2:=bMr.cell 2 _ rfl
        have a0:=(HB0.out.cell (p:=⟨g,off+a * 2,none⟩) HGL.out).trans HA0.out.1
        have a1:=(HB0.out.cell (p:=⟨g,off+a * 2+1,none⟩) HGL.out).trans HA0.out.2
        have hsw:w.heap.size+1+1≤wr.heap.size:=by have:=hb2.out.size;rw [S2.out] at this;exact this
        clear bFr bMr
        by_cases hlj:j<nb
        · obtain ⟨y,hyk⟩:∃ y,c.2[j]?=some y:=⟨c.2[j]'(by rw [HNB.out];exact hlj),List.getElem?_eq_getElem _⟩
          obtain ⟨g5,o5,rfl,-,hgl5,hat5⟩:=HXB.out (by intro h;rw [h] at hyk;simp at hyk)
          obtain ⟨cs5,hcsl5,hcs5,hy⟩:=hat5 j y hyk
          have HY:Hid (∀ w',Below w.heap.size w w'→HEx w' All d cs5 y):=fun w' hw=>hy.mono (SameOn.of_below hw) (fun _ h=>h)
          obtain ⟨z0,z1,z2,z3,z4,z5,rfl⟩:=len6 hcsl5
          have b0:=hcs5 0 (by omega)
          have b1:=hcs5 1 (by omega)
          have b2:=hcs5 2 (by omega)
          have b3:=hcs5 3 (by omega)
          have b4:=hcs5 4 (by omega)
          have b5:=hcs5 5 (by omega)
          rw [← HB0.out.cell (p:=⟨g5,_,none⟩) hgl5] at b0 b1 b2 b3 b4 b5
          simp at b0 b1 b2 b3 b4 b5
          have hji:(j:Int)<(nb:Int):=by omega
          have hj0:(0:Int)≤(j:Int):=by omega
          have HJ:Hid (cF m d (bodiesOf (cl.take a) ++ c.2.take (j+1))=cF m d (bodiesOf (cl.take a) ++ c.2.take j) ++ callsX nmT m d y):=by
            show _=_
            rw [List.take_add_one,hyk]
            simp [cF]
          have HLK:Hid ((cF m d (bodiesOf (cl.take a) ++ c.2.take j)).length+(callsX nmT m d y).length≤1048576):=by
            have h1:=cF_len m d (bodiesOf (cl.take a) ++ c.2.take j)
            have h2:=callsX_len m d y
            have h3:=HSB.out
            have h4:((bodiesOf (cl.take a) ++ c.2.take (j+1)).map fun y=>1+wtEx d y).sum≤((bodiesOf (cl.take a) ++ c.2).map fun y=>1+wtEx d y).sum:=by
              rw [List.map_append,List.map_append,List.sum_append,List.sum_append]
              have:=sum_take_le (fun y=>1+wtEx d y) c.2 (j+1)
              omega
            rw [List.map_append,List.sum_append,sum_take_succ (fun y=>1+wtEx d y) c.2 j y hyk] at h4
            have h5:(cF m d (bodiesOf (cl.take a) ++ c.2.take j)).length≤((bodiesOf (cl.take a) ++ c.2.take j).map fun y=>1+wtEx d y).sum:=h1
            rw [List.map_append,List.sum_append] at h5
            show _≤_
            omega
          have HWY:Hid (wtEx d y≤1048576):=by
            have h3:=HSB.out
            have h4:=sum_take_le (fun y=>1+wtEx d y) c.2 (j+1)
            rw [sum_take_succ (fun y=>1+wtEx d y) c.2 j y hyk] at h4
            rw [List.map_append,List.sum_append] at h3
            show _≤_
            omega
          have CX:Hid (∀ w',Below wr.heap.size wr w'→Calls Tryz.prog 31 #[.agg #[.string sv,.slice pe ne ce,.slice pf nf cf],.agg #[z0,z1,z2,z3,z4,z5]] w' fun e w''=>∃ u,e=.returned u∧OwnS w'' w'.heap.size u (callsX nmT m d y)∧Below w'.heap.size w' w''):=fun w' hw'=>by
            have hb9:Below w.heap.size w w':=HB0.out.trans (hw'.mono HB0.out.size)
            exact l05Calls_all d d w' _ m _ y (HMM.out w' hb9) (HY.out w' hb9) HWY.out HSM.out
          have OY:Hid (∀ c ∈ callsX nmT m d y,okS c):=fun c hc=>okS_small (callsX_small HSM.out d y HWY.out c hc)
          generalize hJ0:cF m d (bodiesOf (cl.take a) ++ c.2.take j)=J at *
          generalize hY0:callsX nmT m d y=Y at *
          clear hcs5 hcsl5 hy hJ0 hY0 hat5
          go_wp2_with fail
          go_region_law
            (first
              | (refine step_append_rows (R:=HStr) (S:=All) (by rfl) _ _ _ (by rfl) (w.heap.size+1+1) 9 i0 (.string ⟨#[]⟩) 1 16 Tryz.underlying39 hi hz0 hz1 hz2 rfl (by decide) u5 J.length (strs J) (by rfl) (owns_next ho2.out.1 K6.out) u6 Y (by rfl) R6.out str_oneCell (by have:=HLK.out;unfold maxLen;omega) (by have:=HLK.out;omega) (Nat.le_trans hsw K6.out.size) ?_;intro v9 w9 news9 hc9 ho9 hg9)
              | (go_simp;go_at_call 31;refine (CX.out _ (by exact (Below.refl _ _).drew)).mono ?_;rintro e w6 ⟨u6,rfl,o6,hb6⟩;have K6:Hid (Below wr.heap.size wr w6):=⟨hb6.os,hb6.tape,hb6.output,hb6.size,hb6.block⟩;have R6:Hid (Rows w6 All 1 HStr u6 Y):=o6.strR OY.out;clear hb6 o6;dsimp only))
          all_goals
            have HO9:Hid (OwnS w9 (w.heap.size+1+1) v9 (cF m d (bodiesOf (cl.take a) ++ c.2.take (j+1)))):=by
              show OwnS _ _ _ _
              rw [HJ.out]
              exact OwnS.of ho9 (by simp) (by rw [cellsR_str hc9]) (Nat.le_trans (Nat.le_trans hsw K6.out.size) hg9.size)
            have HB9:Hid (Below (w.heap.size+1+1) W2 w9):=(hb2.out.trans (K6.out.mono hsw)).trans (owns_below (owns_next ho2.out.1 K6.out) hg9 (Nat.le_trans hsw K6.out.size))
            clear hc9 ho9 hg9
            go_wp2_with fail
            exact ⟨⟨j+1,by omega,by go_num,HO9,HB9⟩,by simp [intOf];omega⟩
        · have HO9:Hid (OwnS wr (w.heap.size+1+1) u5 (cF m d (bodiesOf (cl.take (a+1))))):=by
            have:=ho2.out
            rw [show c.2.take j=c.2 from List.take_of_length_le (by rw [HNB.out];omega),← HBO.out] at this
            exact this
          clear ho2
          go_wp2_with fail
          exact ⟨⟨a+1,by omega,by go_num,HO9,hb2⟩,by simp [intOf];omega⟩
    · have HR:Hid (OwnS wr w.heap.size u5 (cF m d (bodiesOf cl))):=by
        have h1:=ho.out
        rw [List.take_of_length_le (by rw [HNC.out];omega)] at h1
        show OwnS _ _ _ _
        exact h1.base (B':=w.heap.size) (by omega)
      have hsb:((bodiesOf cl).map fun y=>1+wtEx d y).sum≤1048576:=Nat.le_trans (sumB d cl) HWC.out
      have HRR:Hid (StrR wr u5 (cF m d (bodiesOf cl))):=HR.out.strR (fun c hc=>okS_small (cF_small HSM.out (fun y hy=>by have:=mem_wt d hy;omega) c hc))
      have HLE:Hid ((cF m d (bodiesOf cl)).length≤2097152):=by have:=cF_len m d (bodiesOf cl);show _≤_;omega
      clear ho hsb
      go_wp2_with fail
      clear x2
      refine (sorted_any _ _ _ HRR.out HLE.out).mono ?_
      rintro e w9 ⟨u9,rfl,o9,hb9⟩
      have HO9:Hid (OwnS w9 w.heap.size u9 (sortS (cF m d (bodiesOf cl)))):=OwnS.base o9 HB0.out.size
      have HB9:Hid (Below w.heap.size w w9):=HB0.out.trans (hb9.mono HB0.out.size)
      clear o9 hb9
      go_wp2
      go_ret
      exact ⟨_,rfl,HO9.out,HB9.out⟩
def HEd (cs:List Value) (e:Edge):Prop:=cs = [.string e.1,.string e.2]
abbrev OwnE (w:World) (B:Nat) (v:Value) (l:List Edge):Prop:=OwnG 51 2 HEd w B v l
theorem info_ed:(Tryz.prog.info? 51).map (fun i=>(i.zero,i.size,i.bytes))=some (some (.agg #[.string ⟨#[]⟩,.string ⟨#[]⟩]),2,32):=by kernel_rfl
theorem info_ss:(Tryz.prog.info? 39).map (fun i=>(i.zero,i.size,i.bytes))=some (some (.slice none 0 0),1,24):=by kernel_rfl
theorem OwnS.apart {w w':World} {B:Nat} {v:Value} {l:List ByteArray} {e:TypeId} (h:OwnS w B v l) (ha:ApartE e w w') (hs:w.heap.size≤w'.heap.size) (he:9≠e):OwnS w' B v l:=⟨ha.owns h.1 he,Nat.le_trans h.2 hs⟩
theorem OwnE.apart {w w':World} {B:Nat} {v:Value} {l:List Edge} {e:TypeId} (h:OwnE w B v l) (ha:ApartE e w w') (hs:w.heap.size≤w'.heap.size) (he:51≠e):OwnE w' B v l:=by
  obtain ⟨⟨cells,g1,g2⟩,g3⟩:=h
  exact ⟨⟨cells,ha.owns g1 he,g2⟩,Nat.le_trans g3 hs⟩
theorem OwnS.oneC {w:World} {B:Nat} {v:Value} {l:List ByteArray} (h:OwnS w B v l):∀ u ∈ [v],u.oneCell'=true:=by
  intro u hu
  obtain rfl:u=v:=by simpa using hu
  rcases h.1.2 with ⟨rfl,_⟩ | ⟨g,cap,cur,rfl,_⟩ <;> rfl
theorem owns_same {w:World} {B c n:Nat} {e:TypeId} {v:Value} {xs ys:List Value} (h:w.ownsRow B e c v n xs) (k:w.ownsRow B e c v n ys):xs=ys:=by
  obtain ⟨h1,h2⟩:=h
  obtain ⟨k1,k2⟩:=k
  rcases h2 with ⟨rfl,hn⟩ | ⟨g,cap,cur,rfl,_,hg,_,_,_,hx⟩
  · subst hn
    rw [Nat.zero_mul] at h1 k1
    rw [List.length_eq_zero_iff.1 h1,List.length_eq_zero_iff.1 k1]
  · rcases k2 with ⟨hv,_⟩ | ⟨g',cap',cur',hv,_,hg',_,_,_,hx'⟩
    · cases hv
    · cases hv
      rw [hg] at hg'
      cases hg'
      rw [← hx,← hx']
theorem OwnS.at {w:World} {B n q:Nat} {p:Option Addr} {l:List ByteArray} {k:Nat} {s:ByteArray} (h:OwnS w B (.slice p n q) l) (hk:l[k]?=some s):∃ g,p=some ⟨g,0,none⟩∧w.cell? ⟨g,k,none⟩=some (.string s):=by
  have hl:=(List.getElem?_eq_some_iff.1 hk).1
  rcases h.1.2 with ⟨hv,hn⟩ | ⟨g,cap,cur,hv,_⟩
  · omega
  · cases hv
    exact ⟨g,rfl,(h.1.cellAt k (by omega)).trans (by simp [strs,hk])⟩
theorem owns_at {w:World} {B n q:Nat} {e:TypeId} {p:Option Addr} {us:List Value} {k:Nat} {u:Value} (h:w.ownsRow B e 1 (.slice p n q) n us) (hk:us[k]?=some u):∃ g,p=some ⟨g,0,none⟩∧w.cell? ⟨g,k,none⟩=some u:=by
  have hl:=(List.getElem?_eq_some_iff.1 hk).1
  have h1:=h.1
  rcases h.2 with ⟨hv,hn⟩ | ⟨g,cap,cur,hv,_⟩
  · omega
  · cases hv
    exact ⟨g,rfl,(h.cellAt k (by omega)).trans hk⟩
theorem rows_get {α:Type} {w:World} {S:Nat→Prop} {c:Nat} {R:List Value→α→Prop} {v:Value} {xs:List α} (h:Rows w S c R v xs) {x:α} (hx:x ∈ xs):∃ cs,R cs x:=by
  obtain ⟨p,cap,_,_,_,hr⟩:=h
  obtain ⟨i,hi⟩:=List.mem_iff_getElem?.1 hx
  obtain ⟨g,off,_,_,_,hat⟩:=hr (by intro e;rw [e] at hi;simp at hi)
  obtain ⟨cs,_,_,hv⟩:=hat i x hi
  exact ⟨cs,hv⟩
theorem rows_arity {w:World} {d:Nat} {v:Value} {ms:List Md} (h:Rows w All 3 (HMd w All d) v ms) {m:Md} (hm:m ∈ ms) {f:Fn'} (hf:f ∈ m.funs):okI f.arity:=by
  obtain ⟨cs,ev,fv,_,_,_,hr⟩:=rows_get h hm
  obtain ⟨cs2,cv,_,_,ho,_⟩:=rows_get hr hf
  exact ho
theorem step_append_pair {w:World} {B:Nat} {v:Value} {l:List Edge} {ops:Array Oper} {o:Oper} {a:Act} {K:Act→World→Prop} {Q:Exit→Act→World→Prop} {E:Prop} (hgd:o.guard=none) (s x:Operand)
    (ho:o.op=.call { callee:=.builtin .append,args:=#[s,x],argTypes:=#[24,24] })
    (h:OwnE w B v l) (g:Nat) (q:Edge) (hg:w.heap[g]?=some (Obj.cells #[.string q.1,.string q.2] 51 (0,0))) (hs:a.eval s=v) (hx:a.eval x=.slice (some ⟨g,0,none⟩) 1 1) (hl:l.length+1≤2199023255552)
    (k:∀ v' w',OwnE w' B v' (l ++ [q])→Below B w w'→ApartE 51 w w'→K (a.put o.dst v') w') :
    if Region.wanted o (yielded ops a.tmps)=true then Oper.wp Tryz.prog o a w K Q else E:=by
  have hw:Region.wanted o (yielded ops a.tmps)=true:=by simp [Region.wanted,hgd]
  rw [if_pos hw]
  obtain ⟨i,hi',hz0,hz1,hz2⟩:=info_parts info_ed
  obtain ⟨⟨cells,g1,g2⟩,g3⟩:=h
  refine wp_append_own w s x _ ho B 51 i (.agg #[.string ⟨#[]⟩,.string ⟨#[]⟩]) 2 32 Tryz.underlying24 hi' hz0 hz1 hz2 rfl (by decide) v l.length cells hs g1 ⟨g,0,none⟩ 1 1 [.string q.1,.string q.2] hx rfl (World.news_of_block (cs:=#[.string q.1,.string q.2]) (t:=51) (fr:=(0,0)) hg) (by intro u hu;simp at hu;rcases hu with rfl | rfl <;> rfl) (by unfold maxLen;omega) (by omega) g3 ?_
  intro v' w' k1 k2 _
  exact k v' w' ⟨⟨_,by simpa using k1,g2.append (CellsR.one rfl rfl)⟩,Nat.le_trans g3 k2.size⟩ (owns_below g1 k2 g3) (ApartE.of_grown g1 k2)
structure FT (w:World) (B:Nat) (fv:Value) (fs:List ByteArray) (tv:Value) (ts:List (List ByteArray)):Prop where
  fr:OwnS w B fv fs
  to:∃ us,w.ownsRow B 39 1 tv ts.length us∧∀ (k:Nat) (t:List ByteArray),ts[k]?=some t→∃ u,us[k]?=some u∧OwnS w B u t∧∀ g,u.ownBlock=some g→fv.ownBlock≠some g
theorem FT.next {w w':World} {B:Nat} {fv tv:Value} {fs:List ByteArray} {ts:List (List ByteArray)} (h:FT w B fv fs tv ts) (hb:Below w.heap.size w w'):FT w' B fv fs tv ts:=by
  obtain ⟨us,h1,h2⟩:=h.to
  refine ⟨h.fr.next hb,us,owns_next h1 hb,fun k t hk=>?_⟩
  obtain ⟨u,g1,g2,g3⟩:=h2 k t hk
  exact ⟨u,g1,g2.next hb,g3⟩
theorem FT.apart {w w':World} {B:Nat} {fv tv:Value} {fs:List ByteArray} {ts:List (List ByteArray)} {e:TypeId} (h:FT w B fv fs tv ts) (ha:ApartE e w w') (hs:w.heap.size≤w'.heap.size) (he:9≠e) (he2:39≠e):FT w' B fv fs tv ts:=by
  obtain ⟨us,h1,h2⟩:=h.to
  refine ⟨h.fr.apart ha hs he,us,ha.owns h1 he2,fun k t hk=>?_⟩
  obtain ⟨u,g1,g2,g3⟩:=h2 k t hk
  exact ⟨u,g1,g2.apart ha hs he,g3⟩
theorem FT.nil {w:World} {B:Nat} {fv tv:Value} (h:OwnS w B fv []) (k:w.ownsRow B 39 1 tv 0 []):FT w B fv [] tv []:=⟨h,[],k,fun k t hk=>by simp at hk⟩
theorem FT.pushF {w w':World} {B g cap:Nat} {fv tv:Value} {fs:List ByteArray} {ts:List (List ByteArray)} {x:ByteArray} (h:FT w B fv fs tv ts) (ho:OwnS w' B (.slice (some ⟨g,0,none⟩) (fs.length+1) cap) (fs ++ [x]))
    (hg:fv.ownBlock=some g∨w.heap.size≤g) (hk:∀ j,j<w.heap.size→some j≠fv.ownBlock→w'.heap[j]?=w.heap[j]?) (ha:ApartE 9 w w') (hs:w.heap.size≤w'.heap.size):FT w' B (.slice (some ⟨g,0,none⟩) (fs.length+1) cap) (fs ++ [x]) tv ts:=by
  obtain ⟨us,h1,h2⟩:=h.to
  refine ⟨ho,us,ha.owns h1 (by decide),fun k t hk'=>?_⟩
  obtain ⟨u,g1,g2,g3⟩:=h2 k t hk'
  refine ⟨u,g1,?_,fun b hb=>?_⟩
  · refine ⟨⟨g2.1.1,?_⟩,Nat.le_trans g2.2 hs⟩
    rcases g2.1.2 with hn | ⟨b,cp,cur,hv,hB,hh,hr⟩
    · exact .inl hn
    · have hlt:=(Array.getElem?_eq_some_iff.1 hh).1
      exact .inr ⟨b,cp,cur,hv,hB,(hk b hlt (fun e=>g3 b (by rw [hv];rfl) e.symm)).trans hh,hr⟩
  · have hlt:=(g2.off hb).2
    intro e
    have e':g=b:=by simpa [Value.ownBlock] using e
    subst e'
    rcases hg with hg | hg
    · exact g3 _ hb hg
    · omega
theorem FT.pushT {w w':World} {B:Nat} {fv tv tv' u:Value} {fs:List ByteArray} {ts:List (List ByteArray)} {t:List ByteArray} (h:FT w B fv fs tv ts) (hu:OwnS w B u t) (hd:∀ g,u.ownBlock=some g→fv.ownBlock≠some g)
    (ho:∀ us,w.ownsRow B 39 1 tv ts.length us→w'.ownsRow B 39 1 tv' (ts.length+1) (us ++ [u])) (ha:ApartE 39 w w') (hs:w.heap.size≤w'.heap.size):FT w' B fv fs tv' (ts ++ [t]):=by
  obtain ⟨us,h1,h2⟩:=h.to
  refine ⟨h.fr.apart ha hs (by decide),us ++ [u],by simpa using ho us h1,fun k t' hk=>?_⟩
  have hl:us.length=ts.length:=by have:=h1.1;omega
  by_cases hlt:k<ts.length
  · rw [List.getElem?_append_left hlt] at hk
    obtain ⟨u',g1,g2,g3⟩:=h2 k t' hk
    exact ⟨u',by rw [List.getElem?_append_left (by omega)];exact g1,g2.apart ha hs (by decide),g3⟩
  · have hk1:=(List.getElem?_eq_some_iff.1 hk).1
    have hk2:k=ts.length:=by simp at hk1;omega
    subst hk2
    rw [List.getElem?_append_right (Nat.le_refl _),Nat.sub_self] at hk
    obtain rfl:t=t':=by simpa using hk
    exact ⟨u,by rw [List.getElem?_append_right (by omega)];simp [hl],hu.apart ha hs (by decide),hd⟩
theorem powAt_low {w w':World} {b0:Nat} (h:PowAt w) (hg:2<b0) (hb:w'.heap[2]?=w.heap[2]?):PowAt w':=by
  unfold PowAt Lib.TabIs at *
  unfold World.var? at *
  have hn : Tryz.prog.globalNamed "internal/strconv.uint64pow10" = some 2:=by kernel_rfl
  rw [hn] at h ⊢
  simp only [Option.bind_some] at h ⊢
  rw [hb];exact h
theorem powAt_lt {w:World} (h:PowAt w):2<w.heap.size:=by
  unfold PowAt Lib.TabIs at h
  unfold World.var? at h
  have hn : Tryz.prog.globalNamed "internal/strconv.uint64pow10" = some 2:=by kernel_rfl
  rw [hn] at h
  simp only [Option.bind_some] at h
  cases hh:w.heap[2]? with
  | none=>rw [hh] at h;cases h
  | some o=>exact (Array.getElem?_eq_some_iff.1 hh).1
structure GcI (d b0 bm bl bf:Nat) (mc:Array Value) (m:Md) (fr:ByteArray) (w:World) (v:Value) (s:List Edge):Prop where
  mb:Blk w bm mc 44
  l:Blk w bl #[v] 24
  fb:Blk w bf #[.string fr] 9
  own:OwnE w b0 v s
  mod:HMd w (fun g=>g<b0) d mc.toList m
  pow:PowAt w
  lo:2<b0∧b0≤bl
def MvG (bl:Nat) (v:Value) (g:Nat):Prop:=g=bl∨v.ownBlock=some g
theorem GcI.next {d b0 bm bl bf:Nat} {mc:Array Value} {m:Md} {fr:ByteArray} {w w':World} {v:Value} {s:List Edge} (h:GcI d b0 bm bl bf mc m fr w v s) (hb:Below w.heap.size w w'):GcI d b0 bm bl bf mc m fr w' v s :=
  ⟨h.mb.next hb,h.l.next hb,h.fb.next hb,h.own.next hb,h.mod.mono (SameOn.of_below hb) (fun _ h=>h),powAt_below h.pow hb,h.lo⟩
theorem Blk.apartT {w:World} {a b:Nat} {cs cs':Array Value} {t t':TypeId} (h:Blk w a cs t) (k:Blk w b cs' t') (ht:t≠t'):a≠b:=fun e=>by
  subst e
  have:=(show w.heap[a]?=_ from h).symm.trans (show w.heap[a]?=_ from k)
  simp at this
  exact ht this.2
def stG (m:Md) (fr:ByteArray) (s:List Edge) (x:Ex):List Edge:=s ++ (cnB m x).toList.map fun t=>(fr,t)
theorem gcb_any (d dx b0 bm bl bf:Nat) (pe:Option Addr) (ne ce:Nat) (pf:Option Addr) (nf cf:Nat) (m:Md) (fr:ByteArray) (w:World) (v:Value) (s:List Edge) (cs:List Value) (x:Ex)
    (h:GcI d b0 bm bl bf #[.string m.name,.slice pe ne ce,.slice pf nf cf] m fr w v s) (hx:HEx w All dx cs x) (hms:m.name.size≤1048576) (hl:s.length+1≤1048576) (hsm:SmX x) :
    Calls Tryz.prog 40 #[.agg cs.toArray,.pointer (some ⟨bm,0,none⟩),.pointer (some ⟨bl,0,none⟩),.pointer (some ⟨bf,0,none⟩)] w fun e w'=>e=.returned (.tuple #[])∧∃ v',GcI d b0 bm bl bf #[.string m.name,.slice pe ne ce,.slice pf nf cf] m fr w' v' (stG m fr s x)∧Mv (MvG bl v) (MvG bl v') w w':=by
  cases dx with
  | zero=>exact hx.elim
  | succ dx =>
  have HST:Hid (stG m fr s x=s ++ (cnB m x).toList.map fun t=>(fr,t)):=rfl
  have CC:Hid (∀ w',Below w.heap.size w w'→Calls Tryz.prog 41 #[.agg #[.string m.name,.slice pe ne ce,.slice pf nf cf],.agg cs.toArray] w' fun e w''=>e=.returned (.tuple #[.string ((cnB m x).getD ⟨#[]⟩),.bool (cnB m x).isSome])∧Below w'.heap.size w' w''):=fun w' hw=>by
    have h1:=h.next hw
    exact calledName_any d dx w' _ m cs x (h1.mod.mono ⟨Nat.le_refl _,fun _ _ _=>rfl⟩ (fun _ _=>trivial)) (hx.mono (SameOn.of_below hw) (fun _ h=>h)) hsm hms h1.pow
  obtain ⟨kx,nx,tx,mx,ks,cl⟩:=x
  obtain ⟨kv,cv,rfl,-,-,-,-,⟨p1,q1,rfl,-⟩,⟨p2,q2,rfl,-⟩⟩:=hx
  simp only [Ex.kind,Ex.n,Ex.text,Ex.mod,Ex.kids,Ex.clauses] at *
  generalize hX:Ex.mk kx nx tx mx ks cl=X at *
  generalize ks.length=nk at *
  generalize cl.length=nd at *
  obtain ⟨W1,hW1⟩:∃ W1,W1=w.alloc (.cells #[.int .i64 kx,.int .i64 nx,.string tx,.string mx,.slice p1 nk q1,.slice p2 nd q2] 71):=⟨_,rfl⟩
  have B1:Hid (Below w.heap.size w W1):=by show Below _ _ _;rw [hW1];exact (Below.refl _ _).alloc (Nat.le_refl _) _
  have I1:Hid (GcI d b0 bm bl bf #[.string m.name,.slice pe ne ce,.slice pf nf cf] m fr W1 v s):=h.next B1.out
  have HW1:Hid (W1=w.alloc (.cells #[.int .i64 kx,.int .i64 nx,.string tx,.string mx,.slice p1 nk q1,.slice p2 nd q2] 71)):=hW1
  have y1:=I1.out.mb.cell 0 _ rfl
  have y2:=I1.out.mb.cell 1 _ rfl
  have y3:=I1.out.mb.cell 2 _ rfl
  rw [hW1] at y1 y2 y3
  clear h hX hW1 hsm
  go_enter Tryz.func40,Tryz.ntmps40
  go_wp2_with fail
  rw [← HW1.out]
  clear y1 y2 y3
  refine (CC.out _ B1.out).mono ?_
  rintro e w7 ⟨rfl,hb⟩
  have B7:Hid (Below w.heap.size w w7):=B1.out.trans (hb.mono B1.out.size)
  have I7:Hid (GcI d b0 bm bl bf #[.string m.name,.slice pe ne ce,.slice pf nf cf] m fr w7 v s):=I1.out.next hb
  clear hb
  cases hcn:cnB m X with
  | none =>
    have HS2:Hid (stG m fr s X=s):=by show _=_;rw [HST.out,hcn];simp
    simp only [Option.isSome_none,Option.getD_none]
    go_wp2_with fail
    go_end0
    exact ⟨rfl,v,by rw [HS2.out];exact I7.out,Mv.of_below B7.out⟩
  | some to =>
    have HS2:Hid (stG m fr s X=s ++ [(fr,to)]):=by show _=_;rw [HST.out,hcn];rfl
    simp only [Option.isSome_some,Option.getD_some]
    have l0:=I7.out.l.cell 0 _ rfl
    have f0:=I7.out.fb.cell 0 _ rfl
    have F9:Hid (∀ w9,ApartE 51 w7 w9→Blk w9 bl #[v] 24):=fun w9 hap=>hap.blk I7.out.l (by decide)
    go_wp2_with (at_builtin;refine wpList_append_lies rfl _ _ 24 rfl _ 32 Tryz.underlying24 info_ed rfl (by decide) I7.out.own #[.string fr,.string to] (fr,to) rfl rfl (by intro u hu;simp at hu;rcases hu with rfl | rfl <;> rfl) rfl rfl hl (by decide) ?_;intro g9 q9 w9 ho9 hb9 hap9 hg9 hk9;have c9:w9.cell? ⟨bl,0,none⟩=some v:=(F9.out w9 hap9).cell 0 _ rfl;have z9:w9.frozen? ⟨bl,0,none⟩=false:=(F9.out w9 hap9).frozen 0)
    have hl9:Blk w9 bl #[v] 24:=F9.out w9 hap9
    have hsz7:b0≤w7.heap.size:=I7.out.own.2
    have hlo:=I7.out.lo
    have hbz:Below b0 w7 (w9.setCell ⟨bl,0,none⟩ (.slice (some ⟨g9,0,none⟩) (s.length+1) q9)):=hb9.setCell (by show _≤bl;exact hlo.2) _
    have hsm:SameOn (fun g=>g<b0) w7 (w9.setCell ⟨bl,0,none⟩ (.slice (some ⟨g9,0,none⟩) (s.length+1) q9)):=⟨hbz.size,fun g hg _=>hbz.block g hg⟩
    have hm9:=hap9.blk I7.out.mb (by decide)
    have hf9:=hap9.blk I7.out.fb (by decide)
    have HIZ:GcI d b0 bm bl bf #[.string m.name,.slice pe ne ce,.slice pf nf cf] m fr (w9.setCell ⟨bl,0,none⟩ (.slice (some ⟨g9,0,none⟩) (s.length+1) q9)) (.slice (some ⟨g9,0,none⟩) (s.length+1) q9) (s ++ [(fr,to)]) :=
      ⟨hm9.other (hm9.apartT hl9 (by decide)),hl9.same rfl,hf9.other (hf9.apartT hl9 (by decide)),ho9.setCell hl9 (by decide),I7.out.mod.mono hsm (fun _ h=>h),powAt_low I7.out.pow hlo.1 (hbz.block _ hlo.1),hlo⟩
    have HMZ:Mv (MvG bl v) (MvG bl (.slice (some ⟨g9,0,none⟩) (s.length+1) q9)) w (w9.setCell ⟨bl,0,none⟩ (.slice (some ⟨g9,0,none⟩) (s.length+1) q9)):=by
      have hs7:=B7.out.size
      refine ⟨hbz.os.trans B7.out.os,hbz.tape.trans B7.out.tape,hbz.output.trans B7.out.output,Nat.le_trans hs7 hbz.size,fun g hg hm=>?_,fun g hg=>?_⟩
      · refine (Below.heap_setCell _ _ _ _ (fun e1=>hm (Or.inl e1))).trans ((hk9 g (by omega) (fun e1=>hm (Or.inr e1.symm))).trans (B7.out.block g hg))
      · rcases hg with hg | hg
        · exact Or.inl (Or.inl hg)
        · simp [Value.ownBlock] at hg
          subst hg
          rcases hg9 with h9 | h9
          · exact Or.inl (Or.inr h9)
          · exact Or.inr (by omega)
    go_end0
    exact ⟨rfl,_,by rw [HS2.out];exact HIZ,HMZ⟩
section
def stH (m:Md) (fr:ByteArray) (s:List Edge) (x:Ex):List Edge:=if x.kind=8 then stG m fr s x else s
def okG (s:List Edge) (x:Ex):Prop:=s.length+1≤1048576∧SmX x
section
variable (d b0 bm bl bf tb:Nat) (pe:Option Addr) (ne ce:Nat) (pf:Option Addr) (nf cf:Nat) (m:Md) (fr:ByteArray)
def CallG (w:World) (M:Nat→Prop) (s:List Edge):Prop :=
  ∃ v,M=MvG bl v∧GcI d b0 bm bl bf #[.string m.name,.slice pe ne ce,.slice pf nf cf] m fr w v s∧Blk w tb #[(.func (.func 40) #[] #[.pointer (some ⟨bm,0,none⟩),.pointer (some ⟨bl,0,none⟩),.pointer (some ⟨bf,0,none⟩)])] 83∧bl<tb
theorem gtells_call (hok:m.name.size≤1048576) (w:World) (s:List Edge) (dx:Nat) (cs:List Value) (x:Ex) (v:Value) (h:GcI d b0 bm bl bf #[.string m.name,.slice pe ne ce,.slice pf nf cf] m fr w v s) (hb:Blk w tb #[(.func (.func 40) #[] #[.pointer (some ⟨bm,0,none⟩),.pointer (some ⟨bl,0,none⟩),.pointer (some ⟨bf,0,none⟩)])] 83) (hlt:bl<tb) (hx:HEx w (fun g=>g<b0) dx cs x) (hl:okG s x) :
    Calls Tryz.prog 64 #[.agg cs.toArray,.pointer (some ⟨tb,0,none⟩)] w fun e w'=>e=.returned (.tuple #[])∧∃ M',CallG d b0 bm bl bf tb pe ne ce pf nf cf m fr w' M' (stH m fr s x)∧Mv (MvG bl v) M' w w':=by
  have hxA:HEx w All dx cs x:=hx.mono ⟨Nat.le_refl _,fun _ _ _=>rfl⟩ (fun _ _=>trivial)
  cases dx with
  | zero=>exact hx.elim
  | succ dx =>
  have HXX:Hid (∀ w',Below w.heap.size w w'→HEx w' All (dx+1) cs x):=fun w' hw=>hxA.mono (SameOn.of_below hw) (fun _ h=>h)
  obtain ⟨kx,nx,tx,mx,ks,cl⟩:=x
  obtain ⟨kv,cv,rfl,-,-,-,-,⟨p1,q1,rfl,-⟩,⟨p2,q2,rfl,-⟩⟩:=hxA
  have HSa:Hid (kx=8→stH m fr s (.mk kx nx tx mx ks cl)=stG m fr s (.mk kx nx tx mx ks cl)):=fun h=>if_pos h
  have HSb:Hid (¬ kx=8→stH m fr s (.mk kx nx tx mx ks cl)=s):=fun h=>if_neg h
  simp only [Ex.kind,Ex.n,Ex.text,Ex.mod,Ex.kids,Ex.clauses] at *
  clear hx
  have HL0:Hid (okG s (.mk kx nx tx mx ks cl)):=hl
  clear hl
  generalize hX:Ex.mk kx nx tx mx ks cl=X at *
  generalize ks.length=nk at *
  generalize cl.length=nd at *
  obtain ⟨W1,hW1⟩:∃ W1,W1=w.alloc (.cells #[.int .i64 kx,.int .i64 nx,.string tx,.string mx,.slice p1 nk q1,.slice p2 nd q2] 71):=⟨_,rfl⟩
  have B1:Hid (Below w.heap.size w W1):=by show Below _ _ _;rw [hW1];exact (Below.refl _ _).alloc (Nat.le_refl _) _
  have I1:Hid (GcI d b0 bm bl bf #[.string m.name,.slice pe ne ce,.slice pf nf cf] m fr W1 v s):=h.next B1.out
  have T1:Hid (Blk W1 tb #[(.func (.func 40) #[] #[.pointer (some ⟨bm,0,none⟩),.pointer (some ⟨bl,0,none⟩),.pointer (some ⟨bf,0,none⟩)])] 83):=hb.next B1.out
  have HW1:Hid (W1=w.alloc (.cells #[.int .i64 kx,.int .i64 nx,.string tx,.string mx,.slice p1 nk q1,.slice p2 nd q2] 71)):=hW1
  have HOK:Hid (m.name.size≤1048576):=hok
  have HLT:Hid (bl<tb):=hlt
  have t0:W1.cell? ⟨tb,0,none⟩=some (.func (.func 40) #[] #[.pointer (some ⟨bm,0,none⟩),.pointer (some ⟨bl,0,none⟩),.pointer (some ⟨bf,0,none⟩)]):=T1.out.cell 0 _ rfl
  have HOW:Hid (∀ g,v.ownBlock=some g→w.heap[tb]?≠w.heap[g]?):=fun g hg e=>by
    obtain ⟨⟨cells,g1,g2⟩,g3⟩:=h.own
    rcases g1.2 with ⟨rfl,_⟩ | ⟨g2',cap2,cur2,rfl,_,hh2,_⟩
    · simp [Value.ownBlock] at hg
    · simp [Value.ownBlock] at hg
      subst hg
      rw [hh2,show w.heap[tb]?=_ from hb] at e
      simp at e
  have HNT:Hid (¬ MvG bl v tb):=fun e=>by
    rcases e with e | e
    · omega
    · exact HOW.out tb e rfl
  have HHB:Hid (Blk w tb #[(.func (.func 40) #[] #[.pointer (some ⟨bm,0,none⟩),.pointer (some ⟨bl,0,none⟩),.pointer (some ⟨bf,0,none⟩)])] 83):=hb
  rw [hW1] at t0
  clear h hb hX hW1
  by_cases hk:kx=8
  · subst hk
    have hkb:((8:Int) == 8)=true:=by simp
    have HS2:Hid (stH m fr s X=stG m fr s X):=HSa.out rfl
    go_enter Tryz.func64,Tryz.ntmps64
    go_wp2_with fail
    rw [← HW1.out]
    refine (gcb_any d (dx+1) b0 bm bl bf pe ne ce pf nf cf m fr W1 v s _ X I1.out (HXX.out _ B1.out) HOK.out HL0.out.1 HL0.out.2).mono ?_
    rintro e w2 ⟨rfl,v2,i2,m2⟩
    have HR:Hid (∃ M',CallG d b0 bm bl bf tb pe ne ce pf nf cf m fr w2 M' (stH m fr s X)∧Mv (MvG bl v) M' w w2):=⟨_,⟨v2,rfl,by rw [HS2.out];exact i2,m2.blk T1.out HNT.out,HLT.out⟩,(Mv.of_below B1.out).trans m2⟩
    clear i2 m2 t0
    go_wp2_with fail
    go_end0
    exact ⟨rfl,HR.out⟩
  · have hkb:(kx == 8)=false:=by simpa using hk
    have HS2:Hid (stH m fr s X=s):=HSb.out hk
    clear t0
    go_enter Tryz.func64,Tryz.ntmps64
    go_wp2_with fail
    rw [← HW1.out]
    go_end0
    exact ⟨rfl,_,⟨v,rfl,by rw [HS2.out];exact I1.out,T1.out,HLT.out⟩,Mv.of_below B1.out⟩
theorem gtells (hok:m.name.size≤1048576):Tells 64 tb (CallG d b0 bm bl bf tb pe ne ce pf nf cf m fr) okG (stH m fr) (fun g=>g<b0) where
  off:=by
    rintro w M s ⟨v,rfl,h,hb,hlt⟩
    refine ⟨fun g hg e=>?_,fun g e=>?_,fun g hg=>?_⟩
    · have hg':g<b0:=hg
      have:=h.lo.2
      rcases e with e | e
      · omega
      · obtain ⟨⟨cells,g1,g2⟩,g3⟩:=h.own
        have:=(owns_own_lt g1 e).1
        omega
    · rcases e with e | e
      · have:=h.l.lt;omega
      · obtain ⟨⟨cells,g1,g2⟩,g3⟩:=h.own
        exact (owns_own_lt g1 e).2
    · have hg':g<b0:=hg
      have:=h.l.lt
      have:=h.lo.2
      omega
  next:=by
    rintro w w' M s ⟨v,rfl,h,hb,hlt⟩ hbel
    exact ⟨v,rfl,h.next hbel,hb.next hbel,hlt⟩
  call:=by
    rintro w M s dx cs x ⟨v,rfl,h,hb,hlt⟩ hx hl
    exact gtells_call d b0 bm bl bf tb pe ne ce pf nf cf m fr hok w s dx cs x v h hb hlt hx hl
end
section
variable (d b0 bm bl bf:Nat) (pe:Option Addr) (ne ce:Nat) (pf:Option Addr) (nf cf:Nat) (m:Md) (fr:ByteArray) (fs:ByteArray) (fn:Int) (pc:Option Addr) (nc cc:Nat)
theorem geachCall_any (hok:m.name.size≤1048576) (w:World) (s:List Edge) (v:Value) (cl:List Cl) (h:GcI d b0 bm bl bf #[.string m.name,.slice pe ne ce,.slice pf nf cf] m fr w v s) (hr:Rows w (fun g=>g<b0) 2 (HCl w (fun g=>g<b0) (HEx w (fun g=>g<b0) d)) (.slice pc nc cc) cl)
    (hR:Runs okG (stH m fr) s (cl.flatMap fun c=>c.2.flatMap (preX d))) :
    Calls Tryz.prog 39 #[.agg #[.string fs,.int .i64 fn,.slice pc nc cc],(.func (.func 40) #[] #[.pointer (some ⟨bm,0,none⟩),.pointer (some ⟨bl,0,none⟩),.pointer (some ⟨bf,0,none⟩)])] w fun e w'=>e=.returned (.tuple #[])∧∃ v',GcI d b0 bm bl bf #[.string m.name,.slice pe ne ce,.slice pf nf cf] m fr w' v' ((cl.flatMap fun c=>c.2.flatMap (preX d)).foldl (stH m fr) s)∧Mv (MvG bl v) (MvG bl v') w w':=by
  obtain ⟨W2,hW2⟩:∃ W2,W2=((w.alloc (.cells #[.string fs,.int .i64 fn,.slice pc nc cc] 47)).alloc (.cells #[(.func (.func 40) #[] #[.pointer (some ⟨bm,0,none⟩),.pointer (some ⟨bl,0,none⟩),.pointer (some ⟨bf,0,none⟩)])] 83)):=⟨_,rfl⟩
  have B2:Hid (Below w.heap.size w W2):=by show Below _ _ _;rw [hW2];exact ((Below.refl _ _).alloc (Nat.le_refl _) _).alloc (by simp only [alloc_hs];omega) _
  have TT:=gtells d b0 bm bl bf (w.heap.size+1) pe ne ce pf nf cf m fr hok
  have HT:Hid (Tells 64 (w.heap.size+1) (CallG d b0 bm bl bf (w.heap.size+1) pe ne ce pf nf cf m fr) okG (stH m fr) (fun g=>g<b0)):=TT
  have bT:Blk W2 (w.heap.size+1) #[(.func (.func 40) #[] #[.pointer (some ⟨bm,0,none⟩),.pointer (some ⟨bl,0,none⟩),.pointer (some ⟨bf,0,none⟩)])] 83:=by
    rw [hW2]
    have:=Blk.new (w:=w.alloc (.cells #[.string fs,.int .i64 fn,.slice pc nc cc] 47)) (cs:=#[(.func (.func 40) #[] #[.pointer (some ⟨bm,0,none⟩),.pointer (some ⟨bl,0,none⟩),.pointer (some ⟨bf,0,none⟩)])]) (t:=83)
    rw [alloc_hs] at this
    exact this
  have I2:Hid (CallG d b0 bm bl bf (w.heap.size+1) pe ne ce pf nf cf m fr W2 (MvG bl v) s):=⟨v,rfl,h.next B2.out,bT,by have:=h.l.lt;omega⟩
  have HOF:Hid (∀ g,g<b0→¬ MvG bl v g):=(TT.off _ _ _ I2.out).1
  obtain ⟨p,cap,hv,hcl,hcm,hx⟩:=hr
  simp only [Value.slice.injEq] at hv
  obtain ⟨rfl,hnc,rfl⟩:=hv
  have hnb:nc≤9223372036854775807:=by unfold maxLen at hcm;omega
  have HN:Hid (cl.length=nc):=hnc.symm
  have HX:Hid (cl≠[]→∃ g off,pc=some ⟨g,off,none⟩∧g<b0∧g<w.heap.size∧∀ i x,cl[i]?=some x→∃ cs,cs.length=2∧(∀ j,j<2→w.cell? ⟨g,off+i * 2+j,none⟩=cs[j]?)∧HCl w (fun g=>g<b0) (HEx w (fun g=>g<b0) d) cs x):=hx
  have HR:Hid (Runs okG (stH m fr) s (cl.flatMap fun c=>c.2.flatMap (preX d))):=hR
  have HW2:Hid (W2=((w.alloc (.cells #[.string fs,.int .i64 fn,.slice pc nc cc] 47)).alloc (.cells #[(.func (.func 40) #[] #[.pointer (some ⟨bm,0,none⟩),.pointer (some ⟨bl,0,none⟩),.pointer (some ⟨bf,0,none⟩)])] 83))):=hW2
  clear hx hR hW2 bT TT h hnc hcl
  go_enter Tryz.func39,Tryz.ntmps39
  go_wp2_with fail
  rw [← HW2.out]
  go_loopw [9] (fun iv wr=>∃ k:Nat,k≤nc∧iv=.int .i64 k∧Hid (∃ M',CallG d b0 bm bl bf (w.heap.size+1) pe ne ce pf nf cf m fr wr M' (((cl.take k).flatMap fun c=>c.2.flatMap (preX d)).foldl (stH m fr) s)∧Mv (MvG bl v) M' w wr)) (fun iv _=>nc - (intOf iv).toNat)
  case atStart=>exact ⟨0,Nat.zero_le _,rfl,⟨_,by simpa using I2.out,Mv.of_below B2.out⟩⟩
  case round =>
    obtain ⟨k,hk,rfl,HVk⟩:=hrel
    obtain ⟨Mk,ik,mk⟩:=HVk.out
    have IK:Hid (CallG d b0 bm bl bf (w.heap.size+1) pe ne ce pf nf cf m fr wr Mk (((cl.take k).flatMap fun c=>c.2.flatMap (preX d)).foldl (stH m fr) s)):=ik
    have MK:Hid (Mv (MvG bl v) Mk w wr):=mk
    clear HVk ik mk
    by_cases hlt:k<nc
    · obtain ⟨c,hck⟩:∃ c,cl[k]?=some c:=⟨cl[k]'(by rw [HN.out];exact hlt),List.getElem?_eq_getElem _⟩
      obtain ⟨g,off,rfl,hgm,hgl,hat⟩:=HX.out (by intro h;rw [h] at hck;simp at hck)
      obtain ⟨cs,hcsl,hcs,pv',bv,rfl,rp,rb⟩:=hat k c hck
      have SK:Hid (SameOn (fun g=>g<b0) w wr):=MK.out.sameOn HOF.out
      have RB:Hid (Rows wr (fun g=>g<b0) 6 (HEx wr (fun g=>g<b0) d) bv c.2):=Rows.mono rb SK.out (fun _ h=>h) (fun _ _ _ h=>h.mono SK.out (fun _ h=>h))
      obtain ⟨pp,capp,rfl,-⟩:=rp
      obtain ⟨pb,capb,rfl,-⟩:=rb
      have hge:wr.heap[g]?=w.heap[g]?:=SK.out.2 g hgm hgl
      have a0:=(World.cell?_of_block (a:=⟨g,off+k * 2+0,none⟩) hge).trans (hcs 0 (by omega))
      have a1:=(World.cell?_of_block (a:=⟨g,off+k * 2+1,none⟩) hge).trans (hcs 1 (by omega))
      simp at a0 a1
      obtain ⟨hr1,hj1⟩:=Runs.take k c HR.out hck
      generalize ((cl.take k).flatMap fun c=>c.2.flatMap (preX d)).foldl (stH m fr) s=sk at *
      have HR1:Hid (Runs okG (stH m fr) sk (c.2.flatMap (preX d))):=hr1
      have HJ1:Hid (((cl.take (k+1)).flatMap fun c=>c.2.flatMap (preX d)).foldl (stH m fr) s=(c.2.flatMap (preX d)).foldl (stH m fr) sk):=hj1
      have hki:(k:Int)<(nc:Int):=by omega
      have hk0:(0:Int)≤(k:Int):=by omega
      have HBC:Hid (Below wr.heap.size wr (wr.alloc (.cells #[.slice pp c.1.length capp,.slice pb c.2.length capb] 68))):=(Below.refl _ _).alloc (Nat.le_refl _) _
      clear hat hcs hcsl hge hr1 hj1
      go_wp2_with fail
      refine (eachOfC_all HT.out d _ Mk sk _ c.2 (Rows.mono RB.out (SameOn.of_below HBC.out) (fun _ h=>h) (fun _ _ _ h=>h.mono (SameOn.of_below HBC.out) (fun _ h=>h))) (HT.out.next _ _ _ _ IK.out HBC.out) HR1.out).mono ?_
      rintro e w3 ⟨rfl,M3,i3,m3⟩
      have HI4:Hid (∃ M',CallG d b0 bm bl bf (w.heap.size+1) pe ne ce pf nf cf m fr w3 M' (((cl.take (k+1)).flatMap fun c=>c.2.flatMap (preX d)).foldl (stH m fr) s)∧Mv (MvG bl v) M' w w3):=⟨M3,by rw [HJ1.out];exact i3,(MK.out.trans (Mv.of_below HBC.out)).trans m3⟩
      clear i3 m3 a0 a1
      go_wp2_with fail
      exact ⟨⟨k+1,by omega,by go_num,HI4⟩,by simp [intOf];omega⟩
    · have HS:Hid (∃ v',GcI d b0 bm bl bf #[.string m.name,.slice pe ne ce,.slice pf nf cf] m fr wr v' ((cl.flatMap fun c=>c.2.flatMap (preX d)).foldl (stH m fr) s)∧Mv (MvG bl v) (MvG bl v') w wr):=by
        have h1:=IK.out
        rw [show cl.take k=cl from List.take_of_length_le (by rw [HN.out];omega)] at h1
        obtain ⟨v',rfl,h2,-,-⟩:=h1
        exact ⟨v',h2,MK.out⟩
      go_wp2_with fail
      go_end0
      exact ⟨rfl,HS.out⟩
end
end
def preL (d:Nat) (f:Fn'):List Ex:=f.clauses.flatMap fun c:Cl=>c.2.flatMap (preX d)
def pairL (ms:List Md):List (Md × Fn'):=ms.flatMap fun m=>m.funs.map fun f=>(m,f)
def edF (d:Nat) (p:Md × Fn'):List Edge:=((preL d p.2).flatMap (toL nmT p.1)).map fun t=>(nmT p.1.name p.2.name p.2.arity,t)
theorem edges_pairs (d:Nat) (ms:List Md):edgesOf nmT d ms=(pairL ms).flatMap (edF d):=by
  unfold edgesOf pairL
  rw [List.flatMap_assoc]
  congr 1
  funext m
  rw [List.flatMap_map]
  rfl
theorem pairL_len (ms:List Md):(pairL ms).length=offs ms ms.length:=by
  unfold pairL offs
  rw [List.take_length,List.length_flatMap]
  simp
theorem pairL_at:∀ (ms:List Md) (k:Nat) (p:Md × Fn'),(pairL ms)[k]?=some p→∃ a b,ms[a]?=some p.1∧p.1.funs[b]?=some p.2∧offs ms a+b=k
  | [],k,p,h=>by simp [pairL] at h
  | m :: ms,k,p,h=>by
    have e:pairL (m :: ms)=(m.funs.map fun f=>(m,f)) ++ pairL ms:=rfl
    rw [e] at h
    by_cases hk:k<m.funs.length
    · rw [List.getElem?_append_left (by simpa using hk),List.getElem?_map] at h
      cases hf:m.funs[k]? with
      | none=>rw [hf] at h;cases h
      | some f =>
        rw [hf] at h
        obtain rfl:(m,f)=p:=by simpa using h
        exact ⟨0,k,rfl,hf,by simp [offs]⟩
    · rw [List.getElem?_append_right (by simpa using hk),List.length_map] at h
      obtain ⟨a,b,h1,h2,h3⟩:=pairL_at ms _ p h
      refine ⟨a+1,b,h1,h2,?_⟩
      have:offs (m :: ms) (a+1)=m.funs.length+offs ms a:=by unfold offs;simp
      omega
theorem stH_fold (m:Md) (fr:ByteArray):∀ (L:List Ex) (s:List Edge),L.foldl (stH m fr) s=s ++ (L.flatMap (toL nmT m)).map fun t=>(fr,t)
  | [],s=>by simp
  | x :: L,s=>by
    rw [List.foldl_cons,stH_fold m fr L,List.flatMap_cons,List.map_append,← List.append_assoc]
    congr 1
    unfold stH stG
    rw [toL_cn]
    split <;> simp
theorem stH_len (m:Md) (fr:ByteArray) (s:List Edge) (x:Ex):(stH m fr s x).length≤s.length+1:=by
  unfold stH stG
  split
  · cases cnB m x <;> simp
  · omega
theorem runsG (m:Md) (fr:ByteArray):∀ (L:List Ex) (s:List Edge),s.length+L.length≤1048576→(∀ x ∈ L,SmX x)→Runs okG (stH m fr) s L
  | [],s,_,_=>trivial
  | x :: L,s,h,hs=>by
    rw [List.length_cons] at h
    have hl:=stH_len m fr s x
    exact ⟨⟨by omega,hs x (by simp)⟩,runsG m fr L _ (by omega) (fun y hy=>hs y (by simp [hy]))⟩
theorem preL_len (d:Nat) (f:Fn'):(preL d f).length≤wtFn d f:=by
  have h1:preL d f=(bodiesOf f.clauses).flatMap (preX d):=bodies_pre f d
  have h2:=flat_lenG (preX d) (fun y=>1+wtEx d y) (bodiesOf f.clauses) (fun y _=>preX_len d y)
  have h3:=sumB d f.clauses
  have h4:wtFn d f=f.name.size+wtS (wtCl (wtEx d)) f.clauses:=rfl
  rw [h1];omega
theorem preX_wt:∀ (d:Nat) (x y:Ex),y ∈ preX d x→∃ d',wtEx (d'+1) y≤wtEx d x
  | 0,x,y,h=>by simp [preX] at h
  | d+1,.mk k n t mo ks cs,y,h=>by
    have hw:wtEx (d+1) (.mk k n t mo ks cs)=t.size+mo.size+wtS (wtEx d) ks+wtS (wtCl (wtEx d)) cs:=rfl
    simp only [preX,Ex.kids,Ex.clauses,List.mem_cons,List.mem_append,List.mem_flatMap] at h
    rcases h with rfl | ⟨z,hz,hy⟩ | ⟨c,hc,hy⟩
    · exact ⟨d,Nat.le_refl _⟩
    · obtain ⟨d',h'⟩:=preX_wt d z y hy
      have:=wt_mem (wtEx d) hz
      exact ⟨d',by omega⟩
    · have h1:=wt_mem (wtCl (wtEx d)) hc
      have h2:wtCl (wtEx d) c=wtS (wtEx d) c.1+wtS (wtEx d) c.2:=rfl
      rcases hy with ⟨z,hz,hy⟩ | ⟨z,hz,hy⟩
      · obtain ⟨d',h'⟩:=preX_wt d z y hy
        have:=wt_mem (wtEx d) hz
        exact ⟨d',by omega⟩
      · obtain ⟨d',h'⟩:=preX_wt d z y hy
        have:=wt_mem (wtEx d) hz
        exact ⟨d',by omega⟩
theorem preL_small {d:Nat} {f:Fn'} (hw:wtFn d f≤1048576):∀ x ∈ preL d f,SmX x:=by
  intro x hx
  obtain ⟨c,hc,hx⟩:=List.mem_flatMap.1 hx
  obtain ⟨z,hz,hx⟩:=List.mem_flatMap.1 hx
  obtain ⟨d',h1⟩:=preX_wt d z x hx
  have h2:=wt_mem (wtEx d) hz
  have h3:=wt_mem (wtCl (wtEx d)) hc
  have h4:wtCl (wtEx d) c=wtS (wtEx d) c.1+wtS (wtEx d) c.2:=rfl
  have h5:wtFn d f=f.name.size+wtS (wtCl (wtEx d)) f.clauses:=rfl
  obtain ⟨k1,k2,k3⟩:=kids_wt d' x
  exact ⟨by omega,by omega,by omega⟩
theorem pre_sum (d:Nat) (ms:List Md):((pairL ms).map fun p=>(preL d p.2).length).sum≤wtS (wtMd d) ms:=by
  induction ms with
  | nil=>simp [pairL,wtS]
  | cons m ms ih =>
    have e:pairL (m :: ms)=(m.funs.map fun f=>(m,f)) ++ pairL ms:=rfl
    have h1:∀ (l:List Fn'),((l.map fun f=>(m,f)).map fun p:Md × Fn'=>(preL d p.2).length).sum≤wtS (wtFn d) l:=by
      intro l
      induction l with
      | nil=>simp [wtS]
      | cons f l ih2 =>
        have:=preL_len d f
        unfold wtS at ih2 ⊢
        simp only [List.map_cons,List.sum_cons,List.length_cons]
        omega
    have h2:=h1 m.funs
    have h3:wtMd d m=m.name.size+wtS wtRf m.exports+wtS (wtFn d) m.funs:=rfl
    have h4:wtS (wtMd d) (m :: ms)=1+wtMd d m+wtS (wtMd d) ms:=by unfold wtS;simp only [List.map_cons,List.sum_cons,List.length_cons];omega
    rw [e,List.map_append,List.sum_append]
    omega
theorem edF_len (d:Nat) (p:Md × Fn'):(edF d p).length≤(preL d p.2).length:=by
  unfold edF
  rw [List.length_map]
  have h1:=flat_lenG (toL nmT p.1) (fun _=>1) (preL d p.2) (fun y _=>toL_len p.1 y)
  have h2:∀ (l:List Ex),(l.map fun _=>1).sum=l.length:=fun l=>by induction l with
    | nil=>rfl
    | cons x l ih=>simp only [List.map_cons,List.sum_cons,List.length_cons,ih];omega
  rw [h2] at h1
  exact h1
theorem edK_len (d:Nat) (l:List (Md × Fn')):(l.flatMap (edF d)).length≤(l.map fun p=>(preL d p.2).length).sum:=flat_lenG (edF d) (fun p=>(preL d p.2).length) l (fun p _=>edF_len d p)
theorem pair_wt {d:Nat} {ms:List Md} {p:Md × Fn'} (h:p ∈ pairL ms):p.1.name.size≤wtS (wtMd d) ms∧wtFn d p.2≤wtS (wtMd d) ms:=by
  obtain ⟨m,hm,hp⟩:=List.mem_flatMap.1 h
  obtain ⟨f,hf,rfl⟩:=List.mem_map.1 hp
  have h1:=wt_mem (wtMd d) hm
  have h2:=wt_mem (wtFn d) hf
  have h3:wtMd d m=m.name.size+wtS wtRf m.exports+wtS (wtFn d) m.funs:=rfl
  simp only
  omega
end Go.Proofs.YtkkabbfdjhcfcaaGreatDoor
