/-
  GraphComp ReachSpec UnusSpec GraphCmpct
-/
import Derived.Test.YtonpgdfpgpepiaaGreatDoorP41
set_option maxHeartbeats 16000000
set_option linter.unusedVariables false
set_option maxRecDepth 100000
namespace Go.Proofs.YtonpgdfpgpepiaaGreatDoor
open Go.ChangeShapes Go.WideShapes Go.ChangeAt Go.RowKit
def edC (l:List Edge):List Value:=l.flatMap fun e=>[.string e.1,.string e.2]
theorem edC_len (l:List Edge):(edC l).length=l.length * 2:=by
  induction l with
  | nil=>rfl
  | cons e l ih=>simp only [edC,List.flatMap_cons,List.length_append,List.length_cons,List.length_nil] at ih ⊢;omega
theorem edC_at:∀ (l:List Edge) (k:Nat) (e:Edge),l[k]?=some e→(edC l)[k * 2]?=some (.string e.1)∧(edC l)[k * 2+1]?=some (.string e.2)
  | [],k,e,h=>by simp at h
  | x :: l,0,e,h=>by simp at h;subst h;exact ⟨rfl,rfl⟩
  | x :: l,k+1,e,h=>by
    have ih:=edC_at l k e (by simpa using h)
    have e1:edC (x :: l)=Value.string x.1 :: Value.string x.2 :: edC l:=rfl
    rw [e1,show (k+1) * 2=k * 2+1+1 by omega]
    exact ih
theorem edC_set:∀ (l:List Edge) (k:Nat) (e:Edge),k<l.length→((edC l).set (k * 2) (.string e.1)).set (k * 2+1) (.string e.2)=edC (l.set k e)
  | [],k,e,h=>by simp at h
  | x :: l,0,e,h=>rfl
  | x :: l,k+1,e,h=>by
    have ih:=edC_set l k e (by simpa using h)
    have e1:edC (x :: l)=Value.string x.1 :: Value.string x.2 :: edC l:=rfl
    have e2:edC ((x :: l).set (k+1) e)=Value.string x.1 :: Value.string x.2 :: edC (l.set k e):=rfl
    rw [e1,e2,show (k+1) * 2=k * 2+1+1 by omega]
    simp only [List.set_cons_succ]
    rw [ih]
theorem edC_take:∀ (l:List Edge) (k:Nat),(edC l).take (k * 2)=edC (l.take k)
  | [],k=>by simp [edC]
  | x :: l,0=>by simp [edC]
  | x :: l,k+1=>by
    have ih:=edC_take l k
    have e1:edC (x :: l)=Value.string x.1 :: Value.string x.2 :: edC l:=rfl
    rw [e1,show (k+1) * 2=k * 2+1+1 by omega]
    simp only [List.take_succ_cons]
    rw [ih]
    rfl
theorem cellsR_ed:∀ {l:List Edge} {cells:List Value},CellsR 2 HEd cells l→cells=edC l:=by
  intro l cells h
  apply List.ext_getElem?
  intro j
  have hl:cells.length=l.length * 2:=h.1
  by_cases hj:j<l.length * 2
  · obtain ⟨cs,hc,hat,he⟩:=h.2 (j / 2) (l[j / 2]'(by omega)) (List.getElem?_eq_getElem _)
    obtain ⟨a1,a2⟩:=edC_at l (j / 2) _ (List.getElem?_eq_getElem (by omega:j / 2<l.length))
    unfold HEd at he
    subst he
    rcases Nat.mod_two_eq_zero_or_one j with hm | hm
    · have e:j=j / 2 * 2:=by omega
      have:=hat 0 (by omega)
      rw [Nat.add_zero,← e] at this
      rw [this]
      rw [← e] at a1
      rw [a1];rfl
    · have e:j=j / 2 * 2+1:=by omega
      have:=hat 1 (by omega)
      rw [← e] at this
      rw [this]
      rw [← e] at a2
      rw [a2];rfl
  · rw [List.getElem?_eq_none (by omega),List.getElem?_eq_none (by rw [edC_len];omega)]
theorem cellsR_edC:∀ (l:List Edge),CellsR 2 HEd (edC l) l
  | []=>CellsR.nil
  | e :: l=>by
    have:=(CellsR.one (c:=2) (R:=HEd) (cs:=[.string e.1,.string e.2]) (y:=e) rfl rfl).append (cellsR_edC l)
    exact this
theorem OwnE.raw {w:World} {B:Nat} {v:Value} {l:List Edge} (h:OwnE w B v l):w.ownsRow B 70 2 v l.length (edC l)∧B≤w.heap.size:=by
  obtain ⟨⟨cells,h1,h2⟩,h3⟩:=h
  rw [cellsR_ed h2] at h1
  exact ⟨h1,h3⟩
theorem OwnE.ofRaw {w:World} {B:Nat} {v:Value} {l:List Edge} (h:w.ownsRow B 70 2 v l.length (edC l)) (hb:B≤w.heap.size):OwnE w B v l:=⟨⟨_,h,cellsR_edC l⟩,hb⟩
theorem compact_snoc:∀ (l:List Edge) (x:Edge),compactE (l ++ [x])=if l.getLast?=some x then compactE l else compactE l ++ [x]
  | [],x=>by simp [compactE]
  | [a],x=>by
    by_cases h:a=x
    · subst h
      have:cmpE a a=0:=(ord_edge.eq a a trivial trivial).2 rfl
      simp [compactE,this]
    · have:cmpE a x≠0:=fun e=>h ((ord_edge.eq a x trivial trivial).1 e)
      simp [compactE,this,h]
  | a :: b :: l,x=>by
    have ih:=compact_snoc (b :: l) x
    have e1:(a :: b :: l).getLast?=(b :: l).getLast?:=by simp
    rw [e1]
    have e2:compactE (a :: b :: l ++ [x])=if cmpE a b=0 then compactE (b :: l ++ [x]) else a :: compactE (b :: l ++ [x]):=rfl
    have e3:compactE (a :: b :: l)=if cmpE a b=0 then compactE (b :: l) else a :: compactE (b :: l):=rfl
    rw [e2,e3,ih]
    split <;> split <;> simp
theorem compact_take {l:List Edge} {j:Nat} {x y:Edge} (hj:1≤j) (hx:l[j]?=some x) (hy:l[j - 1]?=some y):compactE (l.take (j+1))=if x=y then compactE (l.take j) else compactE (l.take j) ++ [x]:=by
  have hl:=(List.getElem?_eq_some_iff.1 hx).1
  have e:(l.take j).getLast?=some y:=by
    rw [List.getLast?_eq_getElem?,List.length_take,Nat.min_eq_left (by omega),List.getElem?_take_of_lt (by omega)]
    exact hy
  rw [List.take_add_one,hx]
  show compactE (l.take j ++ [x])=_
  rw [compact_snoc,e]
  by_cases h:x=y
  · rw [if_pos h,if_pos (by rw [h])]
  · rw [if_neg h,if_neg (by intro e;exact h (Option.some.inj e).symm)]
theorem edU:Tryz.prog.underlying 70=some (.array 2 9):=by kernel_rfl
theorem edG:Tryz.prog.eqGuardType Tryz.prog.depth 70=false:=by kernel_rfl
theorem edE (a a' b b':ByteArray) (w:World):(Op.equalIn 10000 70 (.agg #[.string a,.string b]) (.agg #[.string a',.string b'])).run Tryz.prog w=.ok ((a.toList == a'.toList) && (b.toList == b'.toList)) w:=by
  obtain ⟨i,hi,-⟩:=info_parts info_str
  rw [show (10000:Nat)=9999+1 from rfl,run_equalIn_array w 9999 _ _ edU hi]
  have hc:Tryz.prog.cellsOf 9=1:=by kernel_rfl
  rw [hc]
  cases h1:(a.toList == a'.toList) <;> cases h2:(b.toList == b'.toList) <;> simp [go_sem,Op.eqItems,List.range_succ,Tryz.underlying9,h1,h2]
theorem owns_setCells {B c g n cap:Nat} {e:TypeId}:∀ (vs:List Value) (o:Nat) (w:World) (xs:List Value),w.ownsRow B e c (.slice (some ⟨g,0,none⟩) n cap) n xs→∃ xs',(w.setCells g o vs).ownsRow B e c (.slice (some ⟨g,0,none⟩) n cap) n xs'∧xs'.take o=xs.take o∧w.grownBy (w.setCells g o vs) (some g)
  | [],o,w,xs,h=>⟨xs,h,rfl,World.grownBy.refl _ _⟩
  | v :: vs,o,w,xs,h=>by
    obtain ⟨h1,h2⟩:=h.stored o v
    obtain ⟨xs',k1,k2,k3⟩:=owns_setCells vs (o+1) (w.setCell ⟨g,o,none⟩ v) (xs.set o v) h1
    refine ⟨xs',k1,?_,grownBy_transR h2 k3⟩
    have e1:xs'.take o=(xs'.take (o+1)).take o:=by rw [List.take_take,Nat.min_eq_left (by omega)]
    rw [e1,k2,List.take_take,Nat.min_eq_left (by omega),List.take_set_of_le (Nat.le_refl _)]
theorem expM_len (m:Md):(expM m).length=m.exports.length:=by simp [expM]
theorem expL_len (d:Nat) (ms:List Md):(expL ms).length≤wtS (wtMd d) ms:=flat_lenW expM (wtMd d) ms (fun m _=>by
  rw [expM_len];unfold wtMd wtS;omega)
theorem namesL_len (d:Nat) (ms:List Md):(namesL d ms).length≤wtS (wtMd d) ms:=by unfold namesL;rw [List.length_map];exact ftOf_len d ms
theorem graphL_wt (d:Nat) (ms:List Md) (h:wtS (wtMd d) ms≤1048576):(graphL d ms).length≤1048576 * 1048576+1048576:=by
  unfold graphL
  split
  · rw [tellE_eq]
    have h1:=flat_mul (tlE (ftOf nmT d ms)) (sumT (ftOf nmT d ms)) (fun x=>tlF_len x _) (sortS ((ftOf nmT d ms).map Prod.fst))
    have h2:=sortS_len ((ftOf nmT d ms).map Prod.fst) ((ftOf nmT d ms).map Prod.fst).length
    rw [List.take_of_length_le (Nat.le_refl _),List.length_map] at h2
    have h3:=ftOf_len d ms
    have h4:=sumT_len d ms
    rw [← ftOf_eq] at h3 h4
    have h5:(sortS ((ftOf nmT d ms).map Prod.fst)).length * sumT (ftOf nmT d ms)≤1048576 * 1048576:=Nat.mul_le_mul (by omega) (by omega)
    omega
  · simp
theorem nameOk {m s:ByteArray} {n:Int} (h1:m.size≤1048576) (h2:s.size≤1048576) (h3:okI n):okS (nmT m s n):=okS_small (nameT_len _ _ _ h1 h2 h3)
theorem rows_arityX {w:World} {d:Nat} {v:Value} {ms:List Md} (h:Rows w All 3 (HMd w All d) v ms) {m:Md} (hm:m ∈ ms) {r:Rf} (hr:r ∈ m.exports):okS r.name∧okI r.arity:=by
  obtain ⟨cs,ev,fv,_,_,hx,_⟩:=rows_get h hm
  obtain ⟨cs2,_,h1,h2⟩:=rows_get hx hr
  exact ⟨h1,h2⟩
theorem expL_ok {w:World} {d:Nat} {v:Value} {ms:List Md} (h:Rows w All 3 (HMd w All d) v ms) (hw:wtS (wtMd d) ms≤1048576):∀ c ∈ expL ms,okS c:=by
  intro c hc
  obtain ⟨m,hm,hc⟩:=List.mem_flatMap.1 hc
  obtain ⟨r,hr,rfl⟩:=List.mem_map.1 hc
  have h1:=wt_mem (wtMd d) hm
  have h2:=wt_mem wtRf hr
  have h3:wtMd d m=m.name.size+wtS wtRf m.exports+wtS (wtFn d) m.funs:=rfl
  have h4:wtRf r=r.name.size:=rfl
  exact nameOk (by omega) (by omega) (rows_arityX h hm hr).2
theorem OwnE.at {w:World} {B n q:Nat} {p:Option Addr} {l:List Edge} {k:Nat} {e:Edge} (h:OwnE w B (.slice p n q) l) (hk:l[k]?=some e):∃ g,p=some ⟨g,0,none⟩∧w.cell? ⟨g,k * 2,none⟩=some (.string e.1)∧w.cell? ⟨g,k * 2+1,none⟩=some (.string e.2):=by
  have hl:=(List.getElem?_eq_some_iff.1 hk).1
  have hr:=h.raw.1
  obtain ⟨h1,h2⟩:=edC_at l k e hk
  rcases id hr.2 with ⟨hv,hn⟩ | ⟨g,cap,cur,hv,_⟩
  · omega
  · cases hv
    exact ⟨g,rfl,(hr.cellAt (k * 2) (by omega)).trans h1,(hr.cellAt (k * 2+1) (by omega)).trans h2⟩
theorem one_strR {W:World} {s:ByteArray} (hs:okS s):StrR (W.alloc (.cells #[.string s] 9)) (.slice (some ⟨W.heap.size,0,none⟩) 1 1) [s] :=
  OwnS.strR (B:=0) (l:=[s]) ⟨⟨by simp [strs],.inr ⟨W.heap.size,1,#[.string s],rfl,Nat.zero_le _,Blk.new,Nat.le_refl _,by decide,by simp,by simp [strs]⟩⟩,Nat.zero_le _⟩ (fun x hx=>by rw [List.mem_singleton.1 hx];exact hs)
theorem specReached_any (d:Nat) (w:World) (v:Value) (ms:List Md) (l:List ByteArray) (hl:IsReach d ms l) (h:Rows w All 3 (HMd w All d) v ms) (hw:wtS (wtMd d) ms≤1048576) :
    Calls Tryz.prog 15 #[v] w fun e w'=>∃ u,e=.returned u∧OwnS w' w.heap.size u l∧Below w.heap.size w w':=by
  have HMS:Hid (∀ w',Below w.heap.size w w'→Rows w' All 3 (HMd w' All d) v ms):=fun w' hw=>h.mono (SameOn.of_below hw) (fun _ h=>h) (fun _ _ _ h=>h.mono (SameOn.of_below hw) (fun _ h=>h))
  have HG:Hid (∀ w',Below w.heap.size w w'→Calls Tryz.prog 14 #[v] w' fun e w''=>e=.returned (.bool (goodB d ms))∧Below w'.heap.size w' w''):=fun w' hb=>specGood_any d w' v ms (HMS.out w' hb) hw
  have HGR:Hid (∀ w',Below w.heap.size w w'→Calls Tryz.prog 35 #[v] w' fun e w''=>∃ u,e=.returned u∧OwnE w'' w'.heap.size u (graphL d ms)∧Below w'.heap.size w' w''):=fun w' hb=>specGraph_any d w' v ms (HMS.out w' hb) hw
  have B1:Hid (Below w.heap.size w (w.alloc (.cells #[] 9))):=(Below.refl _ _).alloc (Nat.le_refl _) _
  have O1:Hid (OwnS (w.alloc (.cells #[] 9)) w.heap.size (.slice (some ⟨w.heap.size,0,none⟩) 0 0) []):=OwnS.fresh
  have HL:Hid (IsReach d ms l):=hl
  cases hgd:goodB d ms with
  | false =>
    have HLN:Hid (l = []):=by
      show _=_
      refine List.eq_nil_iff_forall_not_mem.2 (fun x hx=>?_)
      have:=((HL.out.2 x).1 hx).1
      rw [hgd] at this
      cases this
    obtain rfl:=HLN.out
    clear hl
    go_enter Tryz.func15,Tryz.ntmps15
    go_wp2_with fail
    refine (HG.out _ B1.out).mono ?_
    rintro e w2 ⟨rfl,hb2⟩
    rw [hgd]
    have O2:Hid (OwnS w2 w.heap.size (.slice (some ⟨w.heap.size,0,none⟩) 0 0) []):=O1.out.next hb2
    have B2:Hid (Below w.heap.size w w2):=B1.out.trans (hb2.mono B1.out.size)
    clear hb2
    go_wp2
    go_ret
    exact ⟨_,rfl,O2.out,B2.out⟩
  | true =>
    have HNM:Hid (∀ y,Rch (graphL d ms) (expL ms) y→y ∈ namesL d ms):=fun y hy=>rch_names hgd hy
    have HED:Hid (∀ e ∈ graphL d ms,e.2 ∈ namesL d ms):=fun e he=>(good_edge hgd e he).2
    have HLR:Hid (∀ x,x ∈ l ↔ Rch (graphL d ms) (expL ms) x):=fun x=>(HL.out.2 x).trans ⟨fun h=>h.2,fun h=>⟨hgd,h⟩⟩
    have HLA:Hid (l.Pairwise (fun a b=>cmpS a b<0)):=HL.out.1
    have HOK:Hid (∀ c ∈ expL ms,okS c):=expL_ok h hw
    have HON:Hid (∀ c ∈ namesL d ms,okS c):=fnames_ok h hw
    have HRF:Hid (∀ m ∈ ms,∀ r ∈ m.exports,okS r.name∧okI r.arity):=fun m hm r hr=>rows_arityX h hm hr
    obtain ⟨p,cap,rfl,hcl,hcm,hx⟩:=h
    have HX:Hid (ms≠[]→∃ g off,p=some ⟨g,off,none⟩∧All g∧g<w.heap.size∧∀ i x,ms[i]?=some x→∃ cs,cs.length=3∧(∀ j,j<3→w.cell? ⟨g,off+i * 3+j,none⟩=cs[j]?)∧HMd w All d cs x):=hx
    have HLEN:Hid ((expL ms).length≤1048576):=Nat.le_trans (expL_len d ms) hw
    have HLNM:Hid ((namesL d ms).length≤1048576):=Nat.le_trans (namesL_len d ms) hw
    have HLG:Hid ((graphL d ms).length≤1048576 * 1048576+1048576):=graphL_wt d ms hw
    have HWM:Hid (∀ k m,ms[k]?=some m→wtMd d m≤1048576):=fun k m hk=>Nat.le_trans (by
      have h2:=sum_take_succ (wtMd d) ms k m hk
      have h3:=sum_take_le (wtMd d) ms (k+1)
      unfold wtS
      omega) hw
    have hnb:ms.length≤9223372036854775807:=by unfold maxLen at hcm;omega
    obtain ⟨i0,hi,hz0,hz1,hz2⟩:=info_parts info_str
    generalize hn:ms.length=n at *
    have HN:Hid (ms.length=n):=hn
    clear hx hn hw hl HL
    go_enter Tryz.func15,Tryz.ntmps15
    go_wp2_with fail
    refine (HG.out _ B1.out).mono ?_
    rintro e w2 ⟨rfl,hb2⟩
    rw [hgd]
    have O2:Hid (OwnS w2 w.heap.size (.slice (some ⟨w.heap.size,0,none⟩) 0 0) []):=O1.out.next hb2
    have B2:Hid (Below w.heap.size w w2):=B1.out.trans (hb2.mono B1.out.size)
    clear hb2 O1 B1
    go_wp2_with fail
    go_loopw [3,4] (fun ov iv wx=>∃ a:Nat,a≤n∧iv=.int .i64 a∧Hid (OwnS wx w.heap.size ov ((ms.take a).flatMap expM))∧Hid (Below w.heap.size w wx)) (fun _ iv _=>n - (intOf iv).toNat)
    case atStart=>exact ⟨0,Nat.zero_le _,rfl,by show OwnS _ _ _ _;simpa using O2.out,B2⟩
    case round =>
      obtain ⟨a,ha,rfl,ho,hb⟩:=hrel
      clear O2 B2
      by_cases hlt:a<n
      · obtain ⟨m,hmk⟩:∃ m,ms[a]?=some m:=⟨ms[a]'(by rw [HN.out];exact hlt),List.getElem?_eq_getElem _⟩
        obtain ⟨g,off,rfl,-,hgl,hat⟩:=HX.out (by intro h;rw [h] at hmk;simp at hmk)
        obtain ⟨cs,hcsl,hcs,hm⟩:=hat a m hmk
        obtain ⟨ev,fv,rfl,hms,he,hf⟩:=hm
        obtain ⟨pe,ce,rfl,hce,hcme,hxe⟩:=he
        have HXE:Hid (m.exports≠[]→∃ g off,pe=some ⟨g,off,none⟩∧All g∧g<w.heap.size∧∀ i x,m.exports[i]?=some x→∃ cs,cs.length=2∧(∀ j,j<2→w.cell? ⟨g,off+i * 2+j,none⟩=cs[j]?)∧HRf cs x):=hxe
        have HWR:Hid (∀ (k:Nat) (r:Rf),m.exports[k]?=some r→r.name.size≤1048576):=fun k r hk=>by
          have h1:=HWM.out a m hmk
          have h2:=wt_mem wtRf (List.mem_of_getElem? hk)
          have h3:wtMd d m=m.name.size+wtS wtRf m.exports+wtS (wtFn d) m.funs:=rfl
          have h4:wtRf r=r.name.size:=rfl
          show _≤_
          omega
        have HAR:Hid (∀ (k:Nat) (r:Rf),m.exports[k]?=some r→okI r.arity):=fun k r hk=>(HRF.out m (List.mem_of_getElem? hmk) r (List.mem_of_getElem? hk)).2
        have hmn:m.name.size≤1048576:=by have:=HWM.out a m hmk;unfold wtMd at this;omega
        have HA0:Hid (w.cell? ⟨g,off+a * 3,none⟩=some (.string m.name)∧w.cell? ⟨g,off+a * 3+1,none⟩=some (.slice pe m.exports.length ce)):=⟨hcs 0 (by omega),hcs 1 (by omega)⟩
        have HGL':Hid (g<w.heap.size):=hgl
        have hki:(a:Int)<(n:Int):=by omega
        have hk0:(0:Int)≤(a:Int):=by omega
        have hne:m.exports.length≤9223372036854775807:=by unfold maxLen at hcme;omega
        obtain ⟨HJ,HLx⟩:=flat_takeG expM ms a m hmk
        have HJJ:Hid ((ms.take (a+1)).flatMap expM=(ms.take a).flatMap expM ++ m.exports.map (expF m)):=HJ
        have HLL:Hid (((ms.take a).flatMap expM).length+m.exports.length≤1048576):=by
          have h1:=HLEN.out
          have h2:=expM_len m
          have h3:ms.flatMap expM=expL ms:=rfl
          rw [h3] at HLx
          show _≤_
          omega
        generalize hA0:(ms.take a).flatMap expM=A0 at *
        generalize hn1:m.exports.length=ne at *
        have HN1:Hid (m.exports.length=ne):=hn1
        clear hxe hcs hcsl hat HJ HLx hA0 hms hn1 hmk hcme hce hf
        go_wp2_with fail
        go_loopw [3,5] (fun ov iv wx=>∃ b:Nat,b≤ne∧iv=.int .i64 b∧Hid (OwnS wx w.heap.size ov (A0 ++ (m.exports.take b).map (expF m)))∧Hid (Below w.heap.size w wx)) (fun _ iv _=>ne - (intOf iv).toNat)
        case atStart=>exact ⟨0,Nat.zero_le _,rfl,by show OwnS _ _ _ _;simpa using ho.out,hb⟩
        case round =>
          obtain ⟨b,hbn,rfl,ho2,hb2⟩:=hrel
          clear ho hb
          have a0:=(hb2.out.cell (p:=⟨g,off+a * 3,none⟩) HGL'.out).trans HA0.out.1
          have a1:=(hb2.out.cell (p:=⟨g,off+a * 3+1,none⟩) HGL'.out).trans HA0.out.2
          by_cases hlb:b<ne
          · obtain ⟨r,hrk⟩:∃ r,m.exports[b]?=some r:=⟨m.exports[b]'(by rw [HN1.out];exact hlb),List.getElem?_eq_getElem _⟩
            obtain ⟨g5,o5,rfl,-,hgl5,hat5⟩:=HXE.out (by intro h;rw [h] at hrk;simp at hrk)
            obtain ⟨cs5,hcsl5,hcs5,rfl,hrs,hra⟩:=hat5 b r hrk
            have b0:=hcs5 0 (by omega)
            have b1:=hcs5 1 (by omega)
            rw [← hb2.out.cell (p:=⟨g5,_,none⟩) hgl5] at b0 b1
            simp at b0 b1
            have hbi:(b:Int)<(ne:Int):=by omega
            have hbi0:(0:Int)≤(b:Int):=by omega
            have CN:Hid (∀ w',Calls Tryz.prog 16 #[.string m.name,.string r.name,.int .i64 r.arity] w' fun e w''=>e=.returned (.string (nmT m.name r.name r.arity))∧Below w'.heap.size w' w''):=fun w'=>specName_any w' m.name r.name r.arity hmn (HWR.out b r hrk) (HAR.out b r hrk)
            have HTK:Hid ((A0 ++ (m.exports.take (b+1)).map (expF m))=(A0 ++ (m.exports.take b).map (expF m)) ++ [nmT m.name r.name r.arity]):=by
              show _=_
              rw [List.take_add_one,hrk];simp [expF]
            have HLB:Hid ((A0 ++ (m.exports.take b).map (expF m)).length+1≤1048576):=by
              have h1:=HLL.out
              show _≤_
              rw [List.length_append,List.length_map,List.length_take];omega
            generalize hP:(A0 ++ (m.exports.take b).map (expF m))=P at *
            generalize hNN:nmT m.name r.name r.arity=NN at *
            have OP:Hid (OwnS wr w.heap.size u3 P):=ho2.out
            clear hcs5 hcsl5 hat5 hP hNN hrk hrs hra
            go_wp2_with fail
            go_region_law
              (first
                | (refine step_append_own _ (by rfl) _ _ _ (by rfl) w.heap.size 9 i0 (.string ⟨#[]⟩) 1 16 Tryz.underlying24 hi hz0 hz1 hz2 rfl (by decide) u3 P.length (strs P) (by rfl) (OP6.out.next ((Below.refl _ _).alloc (Nat.le_refl _) _)).1 ⟨w6.heap.size,0,none⟩ 1 1 (strs [NN]) (by rfl) (by rfl) (one_str w6 NN _ rfl) (strs_oneCell _) (by have:=HLB.out;unfold maxLen;omega) (by have:=HLB.out;omega) (by rw [alloc_hs];have:=OP6.out.2;omega) ?_;intro v9 w9 ho9 hg9 _)
                | (go_simp;go_at_call 16;refine (CN.out _).mono ?_;rintro e w6 ⟨rfl,hb6⟩;have K6:Hid (Below wr.heap.size wr w6):=⟨hb6.os,hb6.tape,hb6.output,hb6.size,hb6.block⟩;have OP6:Hid (OwnS w6 w.heap.size u3 P):=OP.out.next K6.out;clear hb6;dsimp only))
            all_goals
              have bA:Below w6.heap.size w6 (w6.alloc (.cells #[.string NN] 9)):=(Below.refl _ _).alloc (Nat.le_refl _) _
              have OA:=OP6.out.next bA
              have O9:Hid (OwnS w9 w.heap.size v9 (P ++ [NN])):=OwnS.of ho9 (by simp) rfl (Nat.le_trans OA.2 hg9.size)
              have B9:Hid (Below w.heap.size w w9):=((hb2.out.trans (K6.out.mono hb2.out.size)).trans (bA.mono (Nat.le_trans hb2.out.size K6.out.size))).trans (OA.below hg9)
              clear ho9 hg9 bA OA a0 a1 b0 b1 OP OP6
              go_wp2_with fail
              refine ⟨⟨b+1,by omega,by go_num,?_,B9⟩,by simp [intOf];omega⟩
              show OwnS _ _ _ _
              rw [HTK.out]
              exact O9.out
          · have HFE:Hid (OwnS wr w.heap.size u3 ((ms.take (a+1)).flatMap expM)):=by
              have h1:=ho2.out
              rw [List.take_of_length_le (by rw [HN1.out];omega),← HJJ.out] at h1
              exact h1
            go_wp2_with fail
            exact ⟨⟨a+1,by omega,by go_num,HFE,hb2⟩,by simp [intOf];omega⟩
      · have HFE:Hid (OwnS wr w.heap.size u3 (expL ms)):=by
          have h1:=ho.out
          rw [List.take_of_length_le (by rw [HN.out];omega)] at h1
          exact h1
        clear ho HX HWM HMS HG
        go_wp2_with fail
        refine (HGR.out _ hb.out).mono ?_
        rintro e w3 ⟨ug,rfl,og,hb3⟩
        obtain ⟨pg,qg,rfl,hgm⟩:=OwnG.slice og
        have O3:Hid (OwnS w3 w.heap.size u3 (expL ms)):=HFE.out.next hb3
        have G3:Hid (OwnE w3 w.heap.size (.slice pg (graphL d ms).length qg) (graphL d ms)):=OwnG.base og hb.out.size
        have B3:Hid (Below w.heap.size w w3):=hb.out.trans (hb3.mono hb.out.size)
        generalize hE:graphL d ms=E at *
        generalize hXX:expL ms=X at *
        generalize hNN:namesL d ms=NM at *
        have hXL:X.length≤1048576:=HLEN.out
        have hNL:NM.length≤1048576:=HLNM.out
        obtain ⟨nx,hnx⟩:∃ nx,nx=X.length+NM.length:=⟨_,rfl⟩
        have HNX:Hid (nx=X.length+NM.length):=hnx
        have hnxb:nx≤2097152:=by omega
        generalize hel:E.length=ne at *
        have HEL:Hid (E.length=ne):=hel
        have hnem:ne≤9223372036854775807:=by unfold maxLen at hgm;omega
        clear hb hb3 og HFE hE hXX hNN hnx hel hlt HGR hgm
        go_wp2_with fail
        go_loopw [3,7] (fun ov iv wx=>∃ (i:Nat) (out:List ByteArray),i≤out.length∧iv=.int .i64 i∧Hid (BfsI E X NM i 0 out)∧Hid (OwnS wx w.heap.size ov out)∧Hid (OwnE wx w.heap.size (.slice pg ne qg) E)∧Hid (Below w.heap.size w wx)) (fun _ iv _=>nx - (intOf iv).toNat)
        case atStart=>exact ⟨0,X,Nat.zero_le _,rfl,BfsI.start,O3,G3,B3⟩
        case round =>
          obtain ⟨i,out,hio,rfl,hbf,oo,og,hb⟩:=hrel
          clear O3 G3 B3
          have hol:out.length≤nx:=by rw [HNX.out];exact hbf.out.len
          obtain ⟨po,qo,rfl⟩:=OwnS.slice oo.out
          by_cases hlt:i<out.length
          · obtain ⟨y,hy⟩:∃ y,out[i]?=some y:=⟨out[i],List.getElem?_eq_getElem _⟩
            have hii:(i:Int)<(out.length:Int):=by omega
            have HY:Hid (out[i]?=some y):=hy
            clear hy
            go_wp2_with fail
            go_loopw [3,8] (fun ov kv wx=>∃ (k:Nat) (o2:List ByteArray),k≤ne∧kv=.int .i64 k∧Hid (BfsI E X NM i k o2)∧Hid (o2[i]?=some y)∧Hid (OwnS wx w.heap.size ov o2)∧Hid (OwnE wx w.heap.size (.slice pg ne qg) E)∧Hid (Below w.heap.size w wx)) (fun _ kv _=>ne - (intOf kv).toNat)
            case atStart=>exact ⟨0,out,Nat.zero_le _,rfl,hbf,HY,oo,og,hb⟩
            case round =>
              obtain ⟨k,o2,hkn,rfl,hbf2,hy2,oo2,og2,hb2⟩:=hrel
              clear oo og hb hbf
              have hol2:o2.length≤nx:=by rw [HNX.out];exact hbf2.out.len
              have hil2:i<o2.length:=(List.getElem?_eq_some_iff.1 hy2.out).1
              by_cases hlk:k<ne
              · obtain ⟨e,hek⟩:∃ e,E[k]?=some e:=⟨E[k]'(by rw [HEL.out];exact hlk),List.getElem?_eq_getElem _⟩
                obtain ⟨gg,rfl,c0,c1⟩:=og2.out.at hek
                obtain ⟨po2,qo2,rfl⟩:=OwnS.slice oo2.out
                obtain ⟨go,rfl,c2⟩:=oo2.out.at hy2.out
                have hki:(k:Int)<(ne:Int):=by omega
                have hii2:(i:Int)<(o2.length:Int):=by omega
                have HEK:Hid (E[k]?=some e):=hek
                clear hek
                generalize hln:o2.length=lo at *
                have HLO:Hid (o2.length=lo):=hln
                clear hln
                by_cases hq:e.1=y
                · have hqb:(e.1.toList == y.toList)=true:=by simp [hq]
                  have HBN:Hid (BfsI E X NM i (k+1) (onceS o2 [e.2])):=hbf2.out.take HEK.out hy2.out hq (HED.out e (List.mem_of_getElem? HEK.out))
                  have HYN:Hid ((onceS o2 [e.2])[i]?=some y):=by
                    rcases onceS_one o2 e.2 with ⟨_,h2⟩ | ⟨_,h2⟩
                    · show _=_;rw [h2];exact hy2.out
                    · show _=_;rw [h2,List.getElem?_append_left (by rw [HLO.out];exact hil2)];exact hy2.out
                  have HOO:Hid (∀ c ∈ o2,okS c):=fun c hc=>HON.out c (HNM.out c (hbf2.out.sound c hc))
                  have HOE:Hid (okS e.2):=HON.out _ (HED.out e (List.mem_of_getElem? HEK.out))
                  go_wp2_with fail
                  go_quiet (fail)
                  have KD:Hid (Below wr.heap.size wr ((wr.drewN nq).alloc (.cells #[.string e.2] 9))):=(⟨rfl,rfl,rfl,Nat.le_refl _,fun _ _=>rfl⟩:Below wr.heap.size wr (wr.drewN nq)).alloc (Nat.le_refl _) _
                  have HO5:Hid (StrV ((wr.drewN nq).alloc (.cells #[.string e.2] 9)) (.slice (some ⟨go,0,none⟩) lo qo2) o2):=(oo2.out.next KD.out).strV HOO.out
                  have HO6:Hid (StrR ((wr.drewN nq).alloc (.cells #[.string e.2] 9)) (.slice (some ⟨wr.heap.size,0,none⟩) 1 1) [e.2]):=one_strR (W:=wr.drewN nq) HOE.out
                  have HLL:Hid (o2.length + [e.2].length≤8388608):=by show _≤_;rw [HLO.out];simp;omega
                  go_wp2_with fail
                  refine (once_any _ _ _ o2 [e.2] HO5.out HO6.out HLL.out).mono ?_
                  rintro e9 w9 ⟨u9,rfl,o9,hb9⟩
                  have B9:Hid (Below wr.heap.size wr w9):=KD.out.trans (hb9.mono KD.out.size)
                  have O9:Hid (OwnS w9 w.heap.size u9 (onceS o2 [e.2])):=OwnS.base o9 (Nat.le_trans hb2.out.size KD.out.size)
                  have FIN:Hid (OwnE w9 w.heap.size (.slice (some ⟨gg,0,none⟩) ne qg) E∧Below w.heap.size w w9):=⟨og2.out.next B9.out,hb2.out.trans (B9.out.mono hb2.out.size)⟩
                  clear o9 hb9
                  go_wp2_with fail
                  exact ⟨⟨k+1,_,by omega,by go_num,HBN,HYN,O9,FIN.out.1,FIN.out.2⟩,by simp [intOf];omega⟩
                · have hqb:(e.1.toList == y.toList)=false:=by simpa using str_ne hq
                  go_wp2_with fail
                  go_quiet (fail)
                  have KD:Hid (Below wr.heap.size wr (wr.drewN nq)):=⟨rfl,rfl,rfl,Nat.le_refl _,fun _ _=>rfl⟩
                  have HBN:Hid (BfsI E X NM i (k+1) o2):=hbf2.out.skip HEK.out hy2.out hq
                  go_wp2_with fail
                  exact ⟨⟨k+1,o2,by omega,by go_num,HBN,hy2,oo2.out.next KD.out,og2.out.next KD.out,hb2.out.trans (KD.out.mono hb2.out.size)⟩,by simp [intOf];omega⟩
              · have HB3:Hid (BfsI E X NM (i+1) 0 o2):=by
                  have:=hbf2.out
                  rw [show k=E.length by rw [HEL.out];omega] at this
                  exact this.next
                go_wp2_with fail
                exact ⟨⟨i+1,o2,by omega,by go_num,HB3,oo2,og2,hb2⟩,by simp [intOf];omega⟩
          · have HDN:Hid (∀ x,x ∈ out ↔ Rch E X x):=fun x=>hbf.out.done (by omega) x
            have HOO:Hid (∀ c ∈ out,okS c):=fun c hc=>HON.out c (HNM.out c ((HDN.out c).1 hc))
            have HLO:Hid (out.length≤2097152):=by show _≤_;omega
            go_wp2_with fail
            refine (sorted_any _ _ _ (oo.out.strR HOO.out) HLO.out).mono ?_
            rintro e w4 ⟨un,rfl,on,hb4⟩
            have HSO:Hid (sortS out=l):=asc_ext ord_text _ _ (sortS_asc _) HLA.out (fun x=>by rw [sortS_iff,HDN.out,HLR.out])
            have FIN:Hid (OwnS w4 w.heap.size un l∧Below w.heap.size w w4):=⟨by rw [← HSO.out];exact OwnS.base on hb.out.size,hb.out.trans (hb4.mono hb.out.size)⟩
            clear on hb4
            go_wp2_with fail
            go_ret
            exact ⟨_,rfl,FIN.out⟩
section
open Go.Proofs.Tryz
theorem below_draw {w w':World} (h:Below w.drew.heap.size w.drew w'):Bz w w':=⟨h.os,h.tape,h.output,h.size,h.block⟩
theorem OwnS.grown {w w':World} {B:Nat} {v:Value} {l:List ByteArray} {row:Option Nat} (h:OwnS w B v l) (hg:w.grownBy w' row) (hne:∀ g,v.ownBlock=some g->row≠some g):OwnS w' B v l:=by
 refine ⟨⟨h.1.1,?_⟩,Nat.le_trans h.2 hg.size⟩
 rcases h.1.2 with hn | ⟨g,cap,cur,hv,hB,hgg,hr⟩
 . exact .inl hn
 . exact .inr ⟨g,cap,cur,hv,hB,(hg.block g (Array.getElem?_eq_some_iff.1 hgg).1 (λe=>hne g (by rw [hv];rfl) e.symm)).trans hgg,hr⟩
theorem specUnused_any (d:Nat) (w:World) (v:Value) (ms:List Md) (R:List ByteArray) (hR:IsReach d ms R) (h:Rows w All 3 (HMd w All d) v ms) (hw:wtS (wtMd d) ms<=1048576) :
 Calls prog 5 #[v] w λe w'=>∃ u,e=.returned u/\OwnS w' w.heap.size u (unS d R ms)/\Bz w w':=by
 have HMS:Hid (∀ w',Bz w w'->Rows w' All 3 (HMd w' All d) v ms):=λw' hw=>h.mono (sqO hw) sqj (λ_ _ _ h=>h.mono (sqO hw) sqj);have HG:Hid (∀ w',Bz w w'->Calls prog 14 #[v] w' λe w''=>e=.returned (.bool (goodB d ms))/\Below w'.heap.size w' w''):=λw' hb=>specGood_any d w' v ms (HMS.out w' hb) hw;have HRE:Hid (∀ w',Bz w w'->Calls prog 15 #[v] w' λe w''=>∃ u,e=.returned u/\OwnS w'' w'.heap.size u R/\Below w'.heap.size w' w''):=λw' hb=>specReached_any d w' v ms R hR (HMS.out w' hb) hw;have B1:Hid (Bz w (w.alloc (.cells #[] 9))):=(sqN _ _);have O1:Hid (OwnS (w.alloc (.cells #[] 9)) w.heap.size (.slice (some ⟨w.heap.size,0,none⟩) 0 0) []):=OwnS.fresh;unfold unS
 cases hgd:goodB d ms with
 | false =>
  clear HRE HMS h hR;go_enter func5,ntmps5;go_wp2_with fail;refine (HG.out _ B1.out).mono ?_;rintro e w2 ⟨rfl,hb2⟩;rw [hgd];have O2:=hid (O1.out.next hb2);have B2:=hid (B1.out.trans (hb2.mono B1.out.size));clear hb2;go_wp2;go_ret;exact ⟨_,rfl,by simpa using O2.out,B2.out⟩
 | true =>
  have HRK:Hid (∀ x ∈ R,okS x):=λx hx=>fnames_ok h hw x (rch_names hgd ((hR.2 x).1 hx).2);have HNK:Hid (∀ x ∈ unL R ms,okS x):=λx hx=>fnames_ok h hw x (unL_mem d hx);have HLN:=hid (Nat.le_trans (unL_len d R ms) (Nat.le_trans (namesL_len d ms) hw));have HFX:Hid (∀ m ∈ ms,∀ f ∈ m.funs,okI f.arity):=λm hm f hf=>rows_arity h hm hf;obtain ⟨p,cap,rfl,hcl,hcm,hx⟩:=h;have HX:=hid hx
  have HWM:Hid (∀ k m,ms[k]?=some m->wtMd d m<=1048576):=λk m hk=>Nat.le_trans (by
   have h2:=sum_take_succ (wtMd d) ms k m hk;have h3:=sum_take_le (wtMd d) ms (k+1);unfold wtS
   omega) hw
  have hnb:=sqM hcl hcm;obtain ⟨i0,hi,hz0,hz1,hz2⟩:=info_parts info_str;generalize hn:ms.length=n at *;have HN:=hid hn;clear hx hn hw hR HMS;go_enter func5,ntmps5;go_wp2_with fail;refine (HG.out _ B1.out).mono ?_;rintro e w2 ⟨rfl,hb2⟩;rw [hgd];have O2:=hid (O1.out.next hb2);have B2:=hid (B1.out.trans (hb2.mono B1.out.size));clear hb2 O1 B1;go_wp2_with fail;refine (HRE.out _ B2.out).mono ?_;rintro e w3 ⟨ur,rfl,or3,hb3⟩;have R3:=hid or3;have O3:=hid (O2.out.next hb3);have B3:=hid (B2.out.trans (hb3.mono B2.out.size))
  have D3:Hid (∀ g,ur.ownBlock=some g->(Value.slice (some ⟨w.heap.size,0,none⟩) 0 0).ownBlock≠some g):=λg hg e=>by
   have h1:=(R3.out.off hg).1;have h2:=(O2.out.off (b:=w.heap.size) rfl).2;have h4:w.heap.size=g:=(by simpa [Value.ownBlock] using e);omega
  clear hb3 or3 O2 HRE HG;go_wp2_with fail
  go_loopw [3,5] (λov iv wx=>∃ a:Nat,a<=n/\iv=.int .i64 a/\Hid (OwnS wx w.heap.size ov (unL R (ms.take a)))/\Hid (OwnS wx w2.heap.size ur R)/\Hid (∀ g,ur.ownBlock=some g->ov.ownBlock≠some g)/\Hid (Bz w wx)) (λ_ iv _=>n - (intOf iv).toNat)
  case atStart=>exact ⟨0,Nat.zero_le _,rfl,by show OwnS _ _ _ _;simpa [unL] using O3.out,R3,D3,B3⟩
  case round =>
   obtain ⟨a,ha,rfl,ho,hr,hd,hb⟩:=hrel;clear O3 B3 R3 B2 D3;by_cases hlt:a<n
   . obtain ⟨m,hmk⟩:=sqA (l:=ms) (k:=a) HN.out hlt
     obtain ⟨g,off,rfl,-,hgl,hat⟩:=HX.out (sqE hmk);obtain ⟨cs,hcsl,hcs,hm⟩:=hat a m hmk;obtain ⟨ev,fv,rfl,hms,he,hf⟩:=hm;obtain ⟨pf,cf,rfl,hcf,hcmf,hxf⟩:=hf;have HXF:=hid hxf
     have HWF:Hid (∀ (k:Nat) (f:Fn'),m.funs[k]?=some f->f.name.size<=1048576):=λk f hk=>by
      have h1:=HWM.out a m hmk;have h2:=wt_mem (wtFn d) (List.mem_of_getElem? hk);have h3:wtMd d m=m.name.size+wtS wtRf m.exports+wtS (wtFn d) m.funs:=rfl;have h4:wtFn d f=f.name.size+wtS (wtCl (wtEx d)) f.clauses:=rfl;show _<=_;omega
     have HAF:Hid (∀ (k:Nat) (f:Fn'),m.funs[k]?=some f->okI f.arity):=λk f hk=>HFX.out m (List.mem_of_getElem? hmk) f (List.mem_of_getElem? hk);have hmn:m.name.size<=1048576:=(by have:=HWM.out a m hmk;unfold wtMd at this;omega);have HA0:Hid (w.cell? ⟨g,off+a * 3,none⟩=some (.string m.name)/\w.cell? ⟨g,off+a * 3+2,none⟩=some (.slice pf m.funs.length cf)):=⟨hcs 0 (by omega),hcs 2 (by omega)⟩;have HGL':=hid hgl;have hki:(a:Int)<(n:Int):=(by omega);have hk0:=sqI a;have hne:m.funs.length<=9223372036854775807:=(by unfold maxLen at hcmf;omega);obtain ⟨HJ,HLx⟩:=flat_takeG (unM R) ms a m hmk;have HJJ:Hid (unL R (ms.take (a+1))=unL R (ms.take a) ++ (fnN m).filter (isUn R)):=HJ
     have HLL:Hid ((unL R (ms.take a)).length+((fnN m).filter (isUn R)).length<=1048576):=by
      have h1:=HLN.out;have h2:((ms.take a).flatMap (unM R)).length+(unM R m).length<=(unL R ms).length:=HLx;show ((ms.take a).flatMap (unM R)).length+(unM R m).length<=_;omega
     generalize hA0:unL R (ms.take a)=A0 at *;generalize hn1:m.funs.length=ne at *;have HN1:=hid hn1;have HFL:Hid ((fnN m).length=ne):=(by show _=_;unfold fnN;rw [List.length_map];exact hn1);clear hxf hcs hcsl hat HJ HLx hA0 hms hn1 hmk hcf hcmf he;go_wp2_with fail
     go_loopw [3,6] (λov iv wx=>∃ b:Nat,b<=ne/\iv=.int .i64 b/\Hid (OwnS wx w.heap.size ov (A0 ++ ((fnN m).take b).filter (isUn R)))/\Hid (OwnS wx w2.heap.size ur R)/\Hid (∀ g,ur.ownBlock=some g->ov.ownBlock≠some g)/\Hid (Bz w wx)) (λ_ iv _=>ne - (intOf iv).toNat)
     case atStart=>exact ⟨0,Nat.zero_le _,rfl,by show OwnS _ _ _ _;simpa using ho.out,hr,hd,hb⟩
     case round =>
      obtain ⟨b,hbn,rfl,ho2,hr2,hd2,hb2⟩:=hrel;clear ho hb hr hd;have a0:=(hb2.out.cell (p:=⟨g,off+a * 3,none⟩) HGL'.out).trans HA0.out.1;have a2:=(hb2.out.cell (p:=⟨g,off+a * 3+2,none⟩) HGL'.out).trans HA0.out.2;by_cases hlb:b<ne
      . obtain ⟨f,hfk⟩:∃ f,m.funs[b]?=some f:=⟨m.funs[b]'(by rw [HN1.out];exact hlb),List.getElem?_eq_getElem _⟩
        obtain ⟨g5,o5,rfl,-,hgl5,hat5⟩:=HXF.out (sqE hfk);obtain ⟨cs5,hcsl5,hcs5,cv,rfl,hfs,hfa,-⟩:=hat5 b f hfk;obtain ⟨b0,b1⟩:=sqC2 hcs5 (by omega);rw [<-hb2.out.cell (p:=⟨g5,_,none⟩) hgl5] at b0 b1;simp at b0 b1;have hbi:(b:Int)<(ne:Int):=(by omega);have hbi0:=sqI b;obtain ⟨NN,hNN⟩:∃ NN,NN=nmT m.name f.name f.arity:=⟨_,rfl⟩
        have CN:Hid (∀ w',Calls prog 16 #[.string m.name,.string f.name,.int .i64 f.arity] w' λe w''=>e=.returned (.string NN)/\Below w'.heap.size w' w''):=λw'=>by rw [hNN];exact specName_any w' m.name f.name f.arity hmn (HWF.out b f hfk) (HAF.out b f hfk)
        have HTK:Hid (A0 ++ ((fnN m).take (b+1)).filter (isUn R)=if hasS R NN then A0 ++ ((fnN m).take b).filter (isUn R) else (A0 ++ ((fnN m).take b).filter (isUn R)) ++ [NN]):=by
         show _=_;have e1:(fnN m)[b]?=some NN:=(by unfold fnN;rw [List.getElem?_map,hfk,hNN];rfl);rw [List.take_add_one,e1];simp only [Option.toList_some];rw [filt_snoc]
         split <;> simp
        have HLB:Hid (hasS R NN=false->(A0 ++ ((fnN m).take b).filter (isUn R)).length+1<=1048576):=λhh=>by
         have h1:=HLL.out;have h2:=congrArg List.length HTK.out;rw [hh] at h2;simp only [Bool.false_eq_true,if_false,List.length_append,List.length_cons,List.length_nil] at h2;have h3:(((fnN m).take (b+1)).filter (isUn R)).length<=((fnN m).filter (isUn R)).length:=(List.Sublist.filter _ (List.take_sublist _ _)).length_le;rw [List.length_append];omega
        generalize hP:A0 ++ ((fnN m).take b).filter (isUn R)=P at *;have CE:Hid (∀ w',Bz wr w'->w'.cell? ⟨g,off+a * 3,none⟩=some (.string m.name)/\w'.cell? ⟨g,off+a * 3+2,none⟩=some (.slice (some ⟨g5,o5,none⟩) ne cf)/\w'.cell? ⟨g5,o5+b * 3,none⟩=some (.string f.name)/\w'.cell? ⟨g5,o5+b * 3+1,none⟩=some (.int .i64 f.arity)):=λw' hb=>⟨cell_next hb a0,cell_next hb a2,cell_next hb b0,cell_next hb b1⟩;clear hcs5 hcsl5 hat5 hP hNN hfk hfs hfa;go_wp2_with fail
        go_region_held3 (λw'=>w'.cell? ⟨g,off+a * 3,none⟩=some (.string m.name)/\w'.cell? ⟨g,off+a * 3+2,none⟩=some (.slice (some ⟨g5,o5,none⟩) ne cf)/\w'.cell? ⟨g5,o5+b * 3,none⟩=some (.string f.name)/\w'.cell? ⟨g5,o5+b * 3+1,none⟩=some (.int .i64 f.arity))
         (first | with_reducible exact CE.out _ K6.out | with_reducible exact CE.out _ (Below.refl _ _).drew)
         (first | (go_at_call 16;refine (CN.out _).mono ?_;rintro e w6 ⟨rfl,hb6⟩;have K6:=hid (below_draw hb6);clear hb6))
        go_split_ands;have R6:=hid (hr2.out.next K6.out);have O6:=hid (ho2.out.next K6.out);have B6:=hid (hb2.out.trans (K6.out.mono hb2.out.size));have HS:=hid (hasS_any w6 ur R NN (R6.out.strR HRK.out));clear a0 a2 b0 b1 hr2 ho2 hb2 CE CN K6
        cases hh:hasS R NN with
        | true =>
         rw [hh] at HS HTK;go_wp2_with fail;refine HS.out.mono ?_;rintro e w7 ⟨rfl,rfl⟩;go_wp2_with fail;refine ⟨⟨b+1,by omega,by go_num,?_,R6,hd2,B6⟩,by simp [intOf];omega⟩;show OwnS _ _ _ _;rw [HTK.out];exact O6.out
        | false =>
         have HL1:=HLB.out hh;rw [hh] at HS HTK;go_wp2_with fail;refine HS.out.mono ?_;rintro e w7 ⟨rfl,rfl⟩;have K1:Hid (Bz w7 (w7.alloc (.cells #[.string NN] 9))):=(sqN _ _);have OA:=hid (O6.out.next K1.out);have RA:=hid (R6.out.next K1.out);have NA:=hid (one_str w7 NN _ rfl);go_wp2_with (at_builtin;refine wpList_append_own_at _ rfl _ _ 24 rfl w.heap.size 9 i0 (.string ⟨#[]⟩) 1 16 underlying24 hi hz0 hz1 hz2 rfl (by decide) u3 _ _ rfl OA.out.1 _ 1 1 (strs [NN]) rfl rfl NA.out (strs_oneCell _) (by unfold maxLen;omega) (by omega) OA.out.2 ?_;intro v9 w9 ho9 hg9 _ hat9;have R9:=hid (RA.out.grown hg9 hd2.out);have D9:Hid (∀ g,ur.ownBlock=some g->v9.ownBlock≠some g):=(λg hg e=>by rcases hat9 with h1 | h1 <;> rw [h1] at e;exact hd2.out g hg e;have h2:=(RA.out.off hg).2;have h3:=Option.some.inj e;omega);have O9:=hid (OwnS.of ho9 (by simp) rfl (Nat.le_trans OA.out.2 hg9.size));have B9:Hid (Bz w w9):=(B6.out.trans (K1.out.mono B6.out.size)).trans (OA.out.below hg9);clear ho9 hg9 hat9);refine ⟨⟨b+1,by omega,by go_num,?_,R9,D9,B9⟩,by simp [intOf];omega⟩;show OwnS _ _ _ _;rw [HTK.out];exact O9.out
      . have HFE:Hid (OwnS wr w.heap.size u3 (unL R (ms.take (a+1)))):=by
         have h1:=ho2.out;rw [List.take_of_length_le (by rw [HFL.out];omega),<-HJJ.out] at h1;exact h1
        go_wp2_with fail;exact ⟨⟨a+1,by omega,by go_num,HFE,hr2,hd2,hb2⟩,by simp [intOf];omega⟩
   . have HFE:Hid (OwnS wr w.heap.size u3 (unL R ms)):=by
      have h1:=ho.out;rw [List.take_of_length_le (by rw [HN.out];omega)] at h1;exact h1
     have SO:=hid (sorted_any wr u3 _ (HFE.out.strR HNK.out) (by have:=HLN.out;omega));clear ho HX HWM HFE;go_wp2_with fail;refine SO.out.mono ?_;rintro e w4 ⟨u4,rfl,o4,b4⟩;have FIN:Hid (OwnS w4 w.heap.size u4 (sortS (unL R ms))/\Bz w w4):=⟨OwnS.base o4 hb.out.size,hb.out.trans (b4.mono hb.out.size)⟩;clear o4 b4 SO;go_wp2;go_ret;exact ⟨_,rfl,by simpa using FIN.out.1,FIN.out.2⟩
end
theorem drewN_below (w:World) (q:Nat):Below w.heap.size w (w.drewN q):=⟨rfl,rfl,rfl,Nat.le_refl _,fun _ _=>rfl⟩
theorem compact_one {l:List Edge} (h:l.length<2):compactE l=l:=by
  match l,h with
  | [],_=>rfl
  | [x],_=>rfl
theorem zeroEd (w:World):(zeroValue 70).run Tryz.prog w=.ok (.agg #[.string ⟨#[]⟩,.string ⟨#[]⟩]) w:=by kernel_rfl
theorem clear_ed (w:World) (ty:TypeId) (b o n c:Nat) (hn:0<n) (hc:∀ j,j<n * 2→(w.cell? ⟨b,o+j,none⟩).isSome=true) (hf:∀ j,j<n * 2→w.frozen? ⟨b,o+j,none⟩=false) :
    (Builtin.clear_ #[68] ty #[.slice (some ⟨b,o,none⟩) n c]).run Tryz.prog w=.ok (.tuple #[]) (w.setCells b o (List.replicate (n * 2) (.string ⟨#[]⟩))):=by
  have hzc:(Builtin.zeroCells #[Value.string ⟨#[]⟩,.string ⟨#[]⟩] n).toList=List.replicate (n * 2) (.string ⟨#[]⟩):=by
    rw [List.eq_replicate_iff]
    refine ⟨by simp [size_zeroCells],fun v hv=>?_⟩
    obtain ⟨i,hi⟩:=List.mem_iff_getElem?.1 hv
    simp [Builtin.zeroCells] at hi
    obtain ⟨j,-,hi⟩:=hi
    rcases Nat.mod_two_eq_zero_or_one j with hm | hm <;> (rw [hm] at hi;exact hi.symm)
  have hst:=run_storeCells_cells (P:=Tryz.prog) b o (List.replicate (n * 2) (.string ⟨#[]⟩)) 0 w (by simpa using hc) (by simpa using hf) (by intro v hv';rw [List.eq_of_mem_replicate hv'];rfl)
  simp only [Nat.add_zero] at hst
  obtain ⟨m,rfl⟩:∃ m,n=m+1:=⟨n - 1,by omega⟩
  have hzv:=zeroEd w
  simp [Builtin.clear_,run_underlying Tryz.underlying68,hzv,Value.cells,hzc,hst]
theorem compact_any (w:World) (B:Nat) (v:Value) (l:List Edge) (h:OwnE w B v l) (hl:l.length≤1048576) :
    Calls Tryz.prog 112 #[v] w fun e w'=>∃ u,e=.returned u∧OwnE w' B u (compactE l)∧Below B w w'∧∀ a,a<w.heap.size→v.ownBlock≠some a→w'.heap[a]?=w.heap[a]?:=by
  obtain ⟨hr,hB⟩:=h.raw
  by_cases h2:l.length<2
  · have HO:Hid (OwnE w B v (compactE l)):=by show OwnE _ _ _ _;rw [compact_one h2];exact h
    obtain ⟨p,q,rfl,-⟩:=owns_slice hr
    have hlt:(l.length:Int)<2:=by omega
    clear h hr
    go_enter Tryz.func112,Tryz.ntmps112
    go_wp2
    go_ret
    exact ⟨_,rfl,HO.out,Below.refl _ _,fun _ _ _=>rfl⟩
  · obtain ⟨p,q,rfl,-⟩:=owns_slice hr
    obtain ⟨g,rfl⟩:=owns_some hr (by omega)
    have hg:=hr.lt g rfl
    have hqn:l.length≤q:=by
      rcases hr.2 with ⟨hv,_⟩ | ⟨g',cap',cur,hv,_,_,hc,_⟩
      · cases hv
      · cases hv;exact hc
    have HR:Hid (w.ownsRow B 70 2 (.slice (some ⟨g,0,none⟩) l.length q) l.length (edC l)):=hr
    have HG:Hid (B≤g∧g<w.heap.size):=hg
    have HC1:Hid (compactE (l.take 1)=l.take 1):=compact_one (by rw [List.length_take];omega)
    have hnl:¬ (l.length:Int)<2:=by omega
    generalize hn:l.length=n at *
    have HN:Hid (l.length=n):=hn
    have eqG:=edG
    have eqE:=edE
    clear h hr hg hn
    go_enter Tryz.func112,Tryz.ntmps112
    go_wp2
    go_loopw [3] (fun iv wr=>∃ k:Nat,1≤k∧k≤n∧iv=.int .i64 k∧Hid (wr.ownsRow B 70 2 (.slice (some ⟨g,0,none⟩) n q) n (edC l))∧Hid (w.grownBy wr (some g))∧Hid (compactE (l.take k)=l.take k)) (fun iv _=>n - (intOf iv).toNat)
    case atStart=>exact ⟨1,Nat.le_refl _,by omega,rfl,HR,World.grownBy.refl _ _,HC1⟩
    case round =>
      obtain ⟨k,hk1,hk,rfl,ho,hgr,hcp⟩:=hrel
      by_cases hlt:k<n
      · obtain ⟨x,hx⟩:∃ x,l[k]?=some x:=⟨l[k]'(by rw [HN.out];exact hlt),List.getElem?_eq_getElem _⟩
        obtain ⟨y,hy⟩:∃ y,l[k - 1]?=some y:=⟨l[k - 1]'(by rw [HN.out];omega),List.getElem?_eq_getElem _⟩
        obtain ⟨x1,x2⟩:=x
        obtain ⟨y1,y2⟩:=y
        obtain ⟨a1,a2⟩:=edC_at l k _ hx
        obtain ⟨b1,b2⟩:=edC_at l (k - 1) _ hy
        have c1:=(ho.out.cellAt (k * 2) (by omega)).trans a1
        have c2:=(ho.out.cellAt (k * 2+1) (by omega)).trans a2
        have d1:=(ho.out.cellAt ((k - 1) * 2) (by omega)).trans b1
        have d2:=(ho.out.cellAt ((k - 1) * 2+1) (by omega)).trans b2
        have HCT:Hid (compactE (l.take (k+1))=if (x1,x2)=(y1,y2) then compactE (l.take k) else compactE (l.take k) ++ [(x1,x2)]):=compact_take hk1 hx hy
        have HTK:Hid (l.take (k+1)=l.take k ++ [(x1,x2)]):=by show _=_;rw [List.take_add_one,hx];rfl
        have hki:(k:Int)<(n:Int):=by omega
        have hk0:(0:Int)≤(k:Int):=by omega
        clear a1 a2 b1 b2
        by_cases hdup:(x1,x2)=(y1,y2)
        · have hb:((x1.toList == y1.toList) && (x2.toList == y2.toList))=true:=by cases hdup;simp
          go_wp2_with fail
          go_quiet (fail)
          have HOq:Hid ((wr.drewN nq).ownsRow B 70 2 (.slice (some ⟨g,0,none⟩) n q) n (edC l)):=owns_next ho.out (drewN_below wr nq)
          have HGq:Hid (w.grownBy (wr.drewN nq) (some g)):=grownBy_transR hgr.out (grownBy_belowR (drewN_below wr nq))
          have HCK:Hid (l.take k=compactE (l.take (k+1))):=by show _=_;rw [HCT.out,if_pos hdup];exact hcp.out.symm
          generalize wr.drewN nq=wq at *
          clear ho hgr hcp c1 c2 d1 d2 HCT HTK hx hy hb
          go_wp2_with fail
          go_loopw [3,5] (fun kv iv wx=>∃ (kk k2:Nat) (arr:List Edge),1≤k2∧k+k2≤n∧kk+1≤k+k2∧kv=.int .i64 kk∧iv=.int .i64 k2∧Hid (arr.length=n)∧Hid (arr.take kk=compactE (l.take (k+k2)))∧Hid (∀ i,k+k2≤i+1→arr[i]?=l[i]?)∧Hid (wx.ownsRow B 70 2 (.slice (some ⟨g,0,none⟩) n q) n (edC arr))∧Hid (w.grownBy wx (some g))) (fun _ iv _=>n - k - (intOf iv).toNat)
          case atStart=>exact ⟨k,1,l,Nat.le_refl _,by omega,by omega,rfl,rfl,HN,HCK,fun _ _=>rfl,HOq,HGq⟩
          case round =>
            obtain ⟨kk,k2,arr,h1,hle,hkk,rfl,rfl,hal,hat,hhi,ho,hgr⟩:=hrel
            by_cases hlt2:k+k2<n
            · obtain ⟨x,hx⟩:∃ x,l[k+k2]?=some x:=⟨l[k+k2]'(by rw [HN.out];exact hlt2),List.getElem?_eq_getElem _⟩
              obtain ⟨y,hy⟩:∃ y,l[k+k2 - 1]?=some y:=⟨l[k+k2 - 1]'(by rw [HN.out];omega),List.getElem?_eq_getElem _⟩
              obtain ⟨x1,x2⟩:=x
              obtain ⟨y1,y2⟩:=y
              obtain ⟨a1,a2⟩:=edC_at arr (k+k2) _ ((hhi.out _ (by omega)).trans hx)
              obtain ⟨b1,b2⟩:=edC_at arr (k+k2 - 1) _ ((hhi.out _ (by omega)).trans hy)
              have c1:=(ho.out.cellAt ((k+k2) * 2) (by omega)).trans a1
              have c2:=(ho.out.cellAt ((k+k2) * 2+1) (by omega)).trans a2
              have d1:=(ho.out.cellAt ((k+k2 - 1) * 2) (by omega)).trans b1
              have d2:=(ho.out.cellAt ((k+k2 - 1) * 2+1) (by omega)).trans b2
              rw [show (k+k2) * 2=k * 2+k2 * 2 by omega] at c1 c2
              rw [show (k+k2 - 1) * 2=k * 2+(k2 - 1) * 2 by omega] at d1 d2
              have HCT:Hid (compactE (l.take (k+(k2+1)))=if (x1,x2)=(y1,y2) then compactE (l.take (k+k2)) else compactE (l.take (k+k2)) ++ [(x1,x2)]):=compact_take (j:=k+k2) (by omega) hx hy
              have HXI:Hid (l[k+k2]?=some (x1,x2)):=hx
              have hki:(k2:Int)<((n - k:Nat):Int):=by omega
              have hki':(k2:Int)<(n:Int) - (k:Int):=by omega
              have hk0:(0:Int)≤(k2:Int):=by omega
              have hkki:(kk:Int)<(n:Int):=by omega
              clear a1 a2 b1 b2 hx hy
              by_cases hdup2:(x1,x2)=(y1,y2)
              · have hb2:((x1.toList == y1.toList) && (x2.toList == y2.toList))=true:=by cases hdup2;simp
                have HA2:Hid (arr.take kk=compactE (l.take (k+(k2+1)))):=by show _=_;rw [HCT.out,if_pos hdup2];exact hat.out
                go_wp2_with fail
                go_quiet (fail)
                have HO2:Hid ((wr.drewN nq).ownsRow B 70 2 (.slice (some ⟨g,0,none⟩) n q) n (edC arr)):=owns_next ho.out (drewN_below wr nq)
                have HG2:Hid (w.grownBy (wr.drewN nq) (some g)):=grownBy_transR hgr.out (grownBy_belowR (drewN_below wr nq))
                generalize wr.drewN nq=wz at *
                clear ho hgr c1 c2 d1 d2
                go_wp2_with fail
                exact ⟨⟨kk,k2+1,arr,by omega,by omega,by omega,rfl,by go_num,hal,HA2,fun i hi=>hhi.out i (by omega),HO2,HG2⟩,by show n - k - ((k2:Int)+1).toNat<n - k - ((k2:Int)).toNat;omega⟩
              · have hb2:((x1.toList == y1.toList) && (x2.toList == y2.toList))=false:=by
                  rw [Bool.and_eq_false_iff]
                  by_cases e1:x1=y1
                  · right
                    simpa using str_ne (a:=x2) (b:=y2) (fun e2=>hdup2 (by rw [e1,e2]))
                  · left
                    simpa using str_ne e1
                have HA2:Hid ((arr.set kk (x1,x2)).take (kk+1)=compactE (l.take (k+(k2+1)))):=by
                  show _=_
                  rw [HCT.out,if_neg hdup2,← hat.out,List.take_add_one,List.take_set_of_le (Nat.le_refl _)]
                  rw [List.getElem?_set_self (by rw [hal.out];omega)]
                  rfl
                have HH2:Hid (∀ i,k+(k2+1)≤i+1→(arr.set kk (x1,x2))[i]?=l[i]?):=fun i hi=>by
                  rw [List.getElem?_set_ne (by omega)]
                  exact hhi.out i (by omega)
                go_wp2_with fail
                go_quiet (fail)
                have HO2:Hid ((wr.drewN nq).ownsRow B 70 2 (.slice (some ⟨g,0,none⟩) n q) n (edC arr)):=owns_next ho.out (drewN_below wr nq)
                have HG2:Hid (w.grownBy (wr.drewN nq) (some g)):=grownBy_transR hgr.out (grownBy_belowR (drewN_below wr nq))
                have c1':(wr.drewN nq).cell? ⟨g,k * 2+k2 * 2,none⟩=some (.string x1):=c1
                have c2':(wr.drewN nq).cell? ⟨g,k * 2+k2 * 2+1,none⟩=some (.string x2):=c2
                generalize wr.drewN nq=wz at *
                clear ho hgr c1 c2 d1 d2
                have hlen:(edC arr).length=n * 2:=by rw [edC_len,hal.out]
                obtain ⟨o1,e1⟩:∃ u,wz.cell? ⟨g,kk * 2,none⟩=some u:=⟨_,(HO2.out.cellAt (kk * 2) (by omega)).trans (List.getElem?_eq_getElem (by rw [hlen];omega))⟩
                obtain ⟨o2,e2⟩:∃ u,wz.cell? ⟨g,kk * 2+1,none⟩=some u:=⟨_,(HO2.out.cellAt (kk * 2+1) (by omega)).trans (List.getElem?_eq_getElem (by rw [hlen];omega))⟩
                have f1:=HO2.out.frozenAt (kk * 2)
                have f2:=HO2.out.frozenAt (kk * 2+1)
                obtain ⟨s1,s2⟩:=HO2.out.stored (kk * 2) (.string x1)
                obtain ⟨s3,s4⟩:=s1.stored (kk * 2+1) (.string x2)
                rw [edC_set arr kk (x1,x2) (by rw [hal.out];omega)] at s3
                have SO:Hid _:=s3
                have SG:Hid _:=grownBy_transR HG2.out (grownBy_transR s2 s4)
                clear s1 s2 s3 s4 hlen
                go_wp2_with fail
                exact ⟨⟨kk+1,k2+1,arr.set kk (x1,x2),by omega,by omega,by omega,by go_num,by go_num,by show _=_;rw [List.length_set];exact hal.out,HA2,HH2,SO,SG⟩,by show n - k - ((k2:Int)+1).toNat<n - k - ((k2:Int)).toNat;omega⟩
            · have hend:k+k2=n:=by omega
              have hlen:(edC arr).length=n * 2:=by rw [edC_len,hal.out]
              have hcl:∀ ty,(Builtin.clear_ #[68] ty #[.slice (some ⟨g,kk * 2,none⟩) (n - kk) (q - kk)]).run Tryz.prog wr=.ok (.tuple #[]) (wr.setCells g (kk * 2) (List.replicate ((n - kk) * 2) (.string ⟨#[]⟩))):=fun ty=>clear_ed wr ty g (kk * 2) (n - kk) (q - kk) (by omega) (fun j hj=>by
                rw [ho.out.cellAt (kk * 2+j) (by omega),List.getElem?_eq_getElem (by rw [hlen];omega)];rfl) (fun j hj=>ho.out.frozenAt _)
              obtain ⟨xs',k1,k2',k3⟩:=owns_setCells (List.replicate ((n - kk) * 2) (.string ⟨#[]⟩)) (kk * 2) wr (edC arr) ho.out
              have HLC:Hid ((compactE l).length=kk∧edC (compactE l)=xs'.take (kk * 2)):=by
                have e0:l.take (k+k2)=l:=List.take_of_length_le (by rw [HN.out];omega)
                have e1:=hat.out
                rw [e0] at e1
                refine ⟨?_,?_⟩
                · rw [← e1,List.length_take,hal.out];omega
                · rw [k2',← e1,edC_take]
              have HOF:Hid (OwnE (wr.setCells g (kk * 2) (List.replicate ((n - kk) * 2) (.string ⟨#[]⟩))) B (.slice (some ⟨g,0,none⟩) kk q) (compactE l)):=by
                refine OwnE.ofRaw ?_ ?_
                · rw [HLC.out.1,HLC.out.2];exact owns_shrink k1 (by omega)
                · have:=(grownBy_transR hgr.out k3).size;omega
              have HGF:Hid (Below B w (wr.setCells g (kk * 2) (List.replicate ((n - kk) * 2) (.string ⟨#[]⟩)))):=below_grownR (grownBy_transR hgr.out k3) HG.out.1 hB
              have hki:¬ (k2:Int)<((n - k:Nat):Int):=by omega
              have hki':¬ (k2:Int)<(n:Int) - (k:Int):=by omega
              have hkk0:(0:Int)≤(kk:Int):=by omega
              have hkkn:(kk:Int)≤(n:Int):=by omega
              have hkkq:(kk:Int)≤(q:Int):=by omega
              have HGB:Hid (∀ a,a<w.heap.size→(Value.slice (some ⟨g,0,none⟩) n q).ownBlock≠some a→(wr.setCells g (kk * 2) (List.replicate ((n - kk) * 2) (.string ⟨#[]⟩))).heap[a]?=w.heap[a]?):=fun a ha hne=>(grownBy_transR hgr.out k3).block a ha (fun e=>hne e.symm)
              clear k1 k2' k3 ho hgr hat hhi hlen
              go_wp2_with fail
              go_ret
              exact ⟨_,rfl,HOF.out,HGF.out,HGB.out⟩
        · have hb:((x1.toList == y1.toList) && (x2.toList == y2.toList))=false:=by
            rw [Bool.and_eq_false_iff]
            by_cases e1:x1=y1
            · right
              simpa using str_ne (a:=x2) (b:=y2) (fun e2=>hdup (by rw [e1,e2]))
            · left
              simpa using str_ne e1
          have HCK:Hid (compactE (l.take (k+1))=l.take (k+1)):=by show _=_;rw [HCT.out,if_neg hdup,hcp.out,HTK.out]
          go_wp2_with fail
          go_quiet (fail)
          have HOq:Hid ((wr.drewN nq).ownsRow B 70 2 (.slice (some ⟨g,0,none⟩) n q) n (edC l)):=owns_next ho.out (drewN_below wr nq)
          have HGq:Hid (w.grownBy (wr.drewN nq) (some g)):=grownBy_transR hgr.out (grownBy_belowR (drewN_below wr nq))
          generalize wr.drewN nq=wq at *
          clear ho hgr hcp c1 c2 d1 d2 HCT HTK hx hy hb
          go_wp2_with fail
          exact ⟨⟨k+1,by omega,by omega,by go_num,HOq,HGq,HCK⟩,by show n - ((k:Int)+1).toNat<n - ((k:Int)).toNat;omega⟩
      · have HOF:Hid (OwnE wr B (.slice (some ⟨g,0,none⟩) n q) (compactE l)):=by
          have e0:l.take k=l:=List.take_of_length_le (by rw [HN.out];omega)
          have e1:=hcp.out
          rw [e0] at e1
          show OwnE _ _ _ _
          rw [e1]
          refine OwnE.ofRaw ?_ ?_
          · rw [HN.out];exact ho.out
          · have:=hgr.out.size;omega
        have HGF:Hid (Below B w wr):=below_grownR hgr.out HG.out.1 hB
        have hki:¬ (k:Int)<(n:Int):=by omega
        go_wp2_with fail
        go_ret
        exact ⟨_,rfl,HOF.out,HGF.out,fun a ha hne=>hgr.out.block a ha (fun e=>hne e.symm)⟩
end Go.Proofs.YtonpgdfpgpepiaaGreatDoor
