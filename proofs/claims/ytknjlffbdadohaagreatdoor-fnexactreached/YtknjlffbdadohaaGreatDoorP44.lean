/-
  GraphComp GraphCmpct ReachSpec
-/
import Derived.Test.YtknjlffbdadohaaGreatDoorP41
set_option maxHeartbeats 16000000
set_option linter.unusedVariables false
set_option maxRecDepth 100000
namespace Go.Proofs.YtknjlffbdadohaaGreatDoor
open Go.ChangeShapes Go.WideShapes Go.ChangeAt Go.RowKit
def edC (l:List Edge):List Value:=l.flatMap fun e=>[.string e.1,.string e.2]
theorem edC_len (l:List Edge):(edC l).length=l.length * 2:=by
  induction l with
  | nil=>rfl
  | cons e l ih=>simp only [edC,List.flatMap_cons,List.length_append,List.length_cons,List.length_nil] at ih ⊢;omega
theorem edC_at:∀ (l:List Edge) (k:Nat) (e:Edge),l[k]?=some e→(edC l)[k * 2]?=some (.string e.1)∧(edC l)[k * 2+1]?=some (.string e.2)
  | [],k,e,h=>by simp at h
  | x :: l,0,e,h=>by simp at h;subst h;exact ⟨rfl,rfl⟩
  | x :: l,k+1,e,h=>by
    have ih:=edC_at l k e (by simpa using h)
    have e1:edC (x :: l)=Value.string x.1 :: Value.string x.2 :: edC l:=rfl
    rw [e1,show (k+1) * 2=k * 2+1+1 by omega]
    exact ih
theorem edC_set:∀ (l:List Edge) (k:Nat) (e:Edge),k<l.length→((edC l).set (k * 2) (.string e.1)).set (k * 2+1) (.string e.2)=edC (l.set k e)
  | [],k,e,h=>by simp at h
  | x :: l,0,e,h=>rfl
  | x :: l,k+1,e,h=>by
    have ih:=edC_set l k e (by simpa using h)
    have e1:edC (x :: l)=Value.string x.1 :: Value.string x.2 :: edC l:=rfl
    have e2:edC ((x :: l).set (k+1) e)=Value.string x.1 :: Value.string x.2 :: edC (l.set k e):=rfl
    rw [e1,e2,show (k+1) * 2=k * 2+1+1 by omega]
    simp only [List.set_cons_succ]
    rw [ih]
theorem edC_take:∀ (l:List Edge) (k:Nat),(edC l).take (k * 2)=edC (l.take k)
  | [],k=>by simp [edC]
  | x :: l,0=>by simp [edC]
  | x :: l,k+1=>by
    have ih:=edC_take l k
    have e1:edC (x :: l)=Value.string x.1 :: Value.string x.2 :: edC l:=rfl
    rw [e1,show (k+1) * 2=k * 2+1+1 by omega]
    simp only [List.take_succ_cons]
    rw [ih]
    rfl
theorem cellsR_ed:∀ {l:List Edge} {cells:List Value},CellsR 2 HEd cells l→cells=edC l:=by
  intro l cells h
  apply List.ext_getElem?
  intro j
  have hl:cells.length=l.length * 2:=h.1
  by_cases hj:j<l.length * 2
  · obtain ⟨cs,hc,hat,he⟩:=h.2 (j / 2) (l[j / 2]'(by omega)) (List.getElem?_eq_getElem _)
    obtain ⟨a1,a2⟩:=edC_at l (j / 2) _ (List.getElem?_eq_getElem (by omega:j / 2<l.length))
    unfold HEd at he
    subst he
    rcases Nat.mod_two_eq_zero_or_one j with hm | hm
    · have e:j=j / 2 * 2:=by omega
      have:=hat 0 (by omega)
      rw [Nat.add_zero,← e] at this
      rw [this]
      rw [← e] at a1
      rw [a1];rfl
    · have e:j=j / 2 * 2+1:=by omega
      have:=hat 1 (by omega)
      rw [← e] at this
      rw [this]
      rw [← e] at a2
      rw [a2];rfl
  · rw [List.getElem?_eq_none (by omega),List.getElem?_eq_none (by rw [edC_len];omega)]
theorem cellsR_edC:∀ (l:List Edge),CellsR 2 HEd (edC l) l
  | []=>CellsR.nil
  | e :: l=>by
    have:=(CellsR.one (c:=2) (R:=HEd) (cs:=[.string e.1,.string e.2]) (y:=e) rfl rfl).append (cellsR_edC l)
    exact this
theorem OwnE.raw {w:World} {B:Nat} {v:Value} {l:List Edge} (h:OwnE w B v l):w.ownsRow B 48 2 v l.length (edC l)∧B≤w.heap.size:=by
  obtain ⟨⟨cells,h1,h2⟩,h3⟩:=h
  rw [cellsR_ed h2] at h1
  exact ⟨h1,h3⟩
theorem OwnE.ofRaw {w:World} {B:Nat} {v:Value} {l:List Edge} (h:w.ownsRow B 48 2 v l.length (edC l)) (hb:B≤w.heap.size):OwnE w B v l:=⟨⟨_,h,cellsR_edC l⟩,hb⟩
theorem compact_snoc:∀ (l:List Edge) (x:Edge),compactE (l ++ [x])=if l.getLast?=some x then compactE l else compactE l ++ [x]
  | [],x=>by simp [compactE]
  | [a],x=>by
    by_cases h:a=x
    · subst h
      have:cmpE a a=0:=(ord_edge.eq a a trivial trivial).2 rfl
      simp [compactE,this]
    · have:cmpE a x≠0:=fun e=>h ((ord_edge.eq a x trivial trivial).1 e)
      simp [compactE,this,h]
  | a :: b :: l,x=>by
    have ih:=compact_snoc (b :: l) x
    have e1:(a :: b :: l).getLast?=(b :: l).getLast?:=by simp
    rw [e1]
    have e2:compactE (a :: b :: l ++ [x])=if cmpE a b=0 then compactE (b :: l ++ [x]) else a :: compactE (b :: l ++ [x]):=rfl
    have e3:compactE (a :: b :: l)=if cmpE a b=0 then compactE (b :: l) else a :: compactE (b :: l):=rfl
    rw [e2,e3,ih]
    split <;> split <;> simp
theorem compact_take {l:List Edge} {j:Nat} {x y:Edge} (hj:1≤j) (hx:l[j]?=some x) (hy:l[j - 1]?=some y):compactE (l.take (j+1))=if x=y then compactE (l.take j) else compactE (l.take j) ++ [x]:=by
  have hl:=(List.getElem?_eq_some_iff.1 hx).1
  have e:(l.take j).getLast?=some y:=by
    rw [List.getLast?_eq_getElem?,List.length_take,Nat.min_eq_left (by omega),List.getElem?_take_of_lt (by omega)]
    exact hy
  rw [List.take_add_one,hx]
  show compactE (l.take j ++ [x])=_
  rw [compact_snoc,e]
  by_cases h:x=y
  · rw [if_pos h,if_pos (by rw [h])]
  · rw [if_neg h,if_neg (by intro e;exact h (Option.some.inj e).symm)]
theorem edU:Tryz.prog.underlying 48=some (.array 2 9):=by kernel_rfl
theorem edG:Tryz.prog.eqGuardType Tryz.prog.depth 48=false:=by kernel_rfl
theorem edE (a a' b b':ByteArray) (w:World):(Op.equalIn 10000 48 (.agg #[.string a,.string b]) (.agg #[.string a',.string b'])).run Tryz.prog w=.ok ((a.toList == a'.toList) && (b.toList == b'.toList)) w:=by
  obtain ⟨i,hi,-⟩:=info_parts info_str
  rw [show (10000:Nat)=9999+1 from rfl,run_equalIn_array w 9999 _ _ edU hi]
  have hc:Tryz.prog.cellsOf 9=1:=by kernel_rfl
  rw [hc]
  cases h1:(a.toList == a'.toList) <;> cases h2:(b.toList == b'.toList) <;> simp [go_sem,Op.eqItems,List.range_succ,Tryz.underlying9,h1,h2]
theorem owns_setCells {B c g n cap:Nat} {e:TypeId}:∀ (vs:List Value) (o:Nat) (w:World) (xs:List Value),w.ownsRow B e c (.slice (some ⟨g,0,none⟩) n cap) n xs→∃ xs',(w.setCells g o vs).ownsRow B e c (.slice (some ⟨g,0,none⟩) n cap) n xs'∧xs'.take o=xs.take o∧w.grownBy (w.setCells g o vs) (some g)
  | [],o,w,xs,h=>⟨xs,h,rfl,World.grownBy.refl _ _⟩
  | v :: vs,o,w,xs,h=>by
    obtain ⟨h1,h2⟩:=h.stored o v
    obtain ⟨xs',k1,k2,k3⟩:=owns_setCells vs (o+1) (w.setCell ⟨g,o,none⟩ v) (xs.set o v) h1
    refine ⟨xs',k1,?_,grownBy_transR h2 k3⟩
    have e1:xs'.take o=(xs'.take (o+1)).take o:=by rw [List.take_take,Nat.min_eq_left (by omega)]
    rw [e1,k2,List.take_take,Nat.min_eq_left (by omega),List.take_set_of_le (Nat.le_refl _)]
theorem drewN_below (w:World) (q:Nat):Below w.heap.size w (w.drewN q):=⟨rfl,rfl,rfl,Nat.le_refl _,fun _ _=>rfl⟩
theorem compact_one {l:List Edge} (h:l.length<2):compactE l=l:=by
  match l,h with
  | [],_=>rfl
  | [x],_=>rfl
theorem zeroEd (w:World):(zeroValue 48).run Tryz.prog w=.ok (.agg #[.string ⟨#[]⟩,.string ⟨#[]⟩]) w:=by kernel_rfl
theorem clear_ed (w:World) (ty:TypeId) (b o n c:Nat) (hn:0<n) (hc:∀ j,j<n * 2→(w.cell? ⟨b,o+j,none⟩).isSome=true) (hf:∀ j,j<n * 2→w.frozen? ⟨b,o+j,none⟩=false) :
    (Builtin.clear_ #[46] ty #[.slice (some ⟨b,o,none⟩) n c]).run Tryz.prog w=.ok (.tuple #[]) (w.setCells b o (List.replicate (n * 2) (.string ⟨#[]⟩))):=by
  have hzc:(Builtin.zeroCells #[Value.string ⟨#[]⟩,.string ⟨#[]⟩] n).toList=List.replicate (n * 2) (.string ⟨#[]⟩):=by
    rw [List.eq_replicate_iff]
    refine ⟨by simp [size_zeroCells],fun v hv=>?_⟩
    obtain ⟨i,hi⟩:=List.mem_iff_getElem?.1 hv
    simp [Builtin.zeroCells] at hi
    obtain ⟨j,-,hi⟩:=hi
    rcases Nat.mod_two_eq_zero_or_one j with hm | hm <;> (rw [hm] at hi;exact hi.symm)
  have hst:=run_storeCells_cells (P:=Tryz.prog) b o (List.replicate (n * 2) (.string ⟨#[]⟩)) 0 w (by simpa using hc) (by simpa using hf) (by intro v hv';rw [List.eq_of_mem_replicate hv'];rfl)
  simp only [Nat.add_zero] at hst
  obtain ⟨m,rfl⟩:∃ m,n=m+1:=⟨n - 1,by omega⟩
  have hzv:=zeroEd w
  simp [Builtin.clear_,run_underlying Tryz.underlying46,hzv,Value.cells,hzc,hst]
theorem compact_any (w:World) (B:Nat) (v:Value) (l:List Edge) (h:OwnE w B v l) (hl:l.length≤1048576) :
    Calls Tryz.prog 98 #[v] w fun e w'=>∃ u,e=.returned u∧OwnE w' B u (compactE l)∧Below B w w'∧∀ a,a<w.heap.size→v.ownBlock≠some a→w'.heap[a]?=w.heap[a]?:=by
  obtain ⟨hr,hB⟩:=h.raw
  by_cases h2:l.length<2
  · have HO:Hid (OwnE w B v (compactE l)):=by show OwnE _ _ _ _;rw [compact_one h2];exact h
    obtain ⟨p,q,rfl,-⟩:=owns_slice hr
    have hlt:(l.length:Int)<2:=by omega
    clear h hr
    go_enter Tryz.func98,Tryz.ntmps98
    go_wp2
    go_ret
    exact ⟨_,rfl,HO.out,Below.refl _ _,fun _ _ _=>rfl⟩
  · obtain ⟨p,q,rfl,-⟩:=owns_slice hr
    obtain ⟨g,rfl⟩:=owns_some hr (by omega)
    have hg:=hr.lt g rfl
    have hqn:l.length≤q:=by
      rcases hr.2 with ⟨hv,_⟩ | ⟨g',cap',cur,hv,_,_,hc,_⟩
      · cases hv
      · cases hv;exact hc
    have HR:Hid (w.ownsRow B 48 2 (.slice (some ⟨g,0,none⟩) l.length q) l.length (edC l)):=hr
    have HG:Hid (B≤g∧g<w.heap.size):=hg
    have HC1:Hid (compactE (l.take 1)=l.take 1):=compact_one (by rw [List.length_take];omega)
    have hnl:¬ (l.length:Int)<2:=by omega
    generalize hn:l.length=n at *
    have HN:Hid (l.length=n):=hn
    have eqG:=edG
    have eqE:=edE
    clear h hr hg hn
    go_enter Tryz.func98,Tryz.ntmps98
    go_wp2
    go_loopw [3] (fun iv wr=>∃ k:Nat,1≤k∧k≤n∧iv=.int .i64 k∧Hid (wr.ownsRow B 48 2 (.slice (some ⟨g,0,none⟩) n q) n (edC l))∧Hid (w.grownBy wr (some g))∧Hid (compactE (l.take k)=l.take k)) (fun iv _=>n - (intOf iv).toNat)
    case atStart=>exact ⟨1,Nat.le_refl _,by omega,rfl,HR,World.grownBy.refl _ _,HC1⟩
    case round =>
      obtain ⟨k,hk1,hk,rfl,ho,hgr,hcp⟩:=hrel
      by_cases hlt:k<n
      · obtain ⟨x,hx⟩:∃ x,l[k]?=some x:=⟨l[k]'(by rw [HN.out];exact hlt),List.getElem?_eq_getElem _⟩
        obtain ⟨y,hy⟩:∃ y,l[k - 1]?=some y:=⟨l[k - 1]'(by rw [HN.out];omega),List.getElem?_eq_getElem _⟩
        obtain ⟨x1,x2⟩:=x
        obtain ⟨y1,y2⟩:=y
        obtain ⟨a1,a2⟩:=edC_at l k _ hx
        obtain ⟨b1,b2⟩:=edC_at l (k - 1) _ hy
        have c1:=(ho.out.cellAt (k * 2) (by omega)).trans a1
        have c2:=(ho.out.cellAt (k * 2+1) (by omega)).trans a2
        have d1:=(ho.out.cellAt ((k - 1) * 2) (by omega)).trans b1
        have d2:=(ho.out.cellAt ((k - 1) * 2+1) (by omega)).trans b2
        have HCT:Hid (compactE (l.take (k+1))=if (x1,x2)=(y1,y2) then compactE (l.take k) else compactE (l.take k) ++ [(x1,x2)]):=compact_take hk1 hx hy
        have HTK:Hid (l.take (k+1)=l.take k ++ [(x1,x2)]):=by show _=_;rw [List.take_add_one,hx];rfl
        have hki:(k:Int)<(n:Int):=by omega
        have hk0:(0:Int)≤(k:Int):=by omega
        clear a1 a2 b1 b2
        by_cases hdup:(x1,x2)=(y1,y2)
        · have hb:((x1.toList == y1.toList) && (x2.toList == y2.toList))=true:=by cases hdup;simp
          go_wp2_with fail
          go_quiet (fail)
          have HOq:Hid ((wr.drewN nq).ownsRow B 48 2 (.slice (some ⟨g,0,none⟩) n q) n (edC l)):=owns_next ho.out (drewN_below wr nq)
          have HGq:Hid (w.grownBy (wr.drewN nq) (some g)):=grownBy_transR hgr.out (grownBy_belowR (drewN_below wr nq))
          have HCK:Hid (l.take k=compactE (l.take (k+1))):=by show _=_;rw [HCT.out,if_pos hdup];exact hcp.out.symm
          generalize wr.drewN nq=wq at *
          clear ho hgr hcp c1 c2 d1 d2 HCT HTK hx hy hb
          go_wp2_with fail
          go_loopw [3,5] (fun kv iv wx=>∃ (kk k2:Nat) (arr:List Edge),1≤k2∧k+k2≤n∧kk+1≤k+k2∧kv=.int .i64 kk∧iv=.int .i64 k2∧Hid (arr.length=n)∧Hid (arr.take kk=compactE (l.take (k+k2)))∧Hid (∀ i,k+k2≤i+1→arr[i]?=l[i]?)∧Hid (wx.ownsRow B 48 2 (.slice (some ⟨g,0,none⟩) n q) n (edC arr))∧Hid (w.grownBy wx (some g))) (fun _ iv _=>n - k - (intOf iv).toNat)
          case atStart=>exact ⟨k,1,l,Nat.le_refl _,by omega,by omega,rfl,rfl,HN,HCK,fun _ _=>rfl,HOq,HGq⟩
          case round =>
            obtain ⟨kk,k2,arr,h1,hle,hkk,rfl,rfl,hal,hat,hhi,ho,hgr⟩:=hrel
            by_cases hlt2:k+k2<n
            · obtain ⟨x,hx⟩:∃ x,l[k+k2]?=some x:=⟨l[k+k2]'(by rw [HN.out];exact hlt2),List.getElem?_eq_getElem _⟩
              obtain ⟨y,hy⟩:∃ y,l[k+k2 - 1]?=some y:=⟨l[k+k2 - 1]'(by rw [HN.out];omega),List.getElem?_eq_getElem _⟩
              obtain ⟨x1,x2⟩:=x
              obtain ⟨y1,y2⟩:=y
              obtain ⟨a1,a2⟩:=edC_at arr (k+k2) _ ((hhi.out _ (by omega)).trans hx)
              obtain ⟨b1,b2⟩:=edC_at arr (k+k2 - 1) _ ((hhi.out _ (by omega)).trans hy)
              have c1:=(ho.out.cellAt ((k+k2) * 2) (by omega)).trans a1
              have c2:=(ho.out.cellAt ((k+k2) * 2+1) (by omega)).trans a2
              have d1:=(ho.out.cellAt ((k+k2 - 1) * 2) (by omega)).trans b1
              have d2:=(ho.out.cellAt ((k+k2 - 1) * 2+1) (by omega)).trans b2
              rw [show (k+k2) * 2=k * 2+k2 * 2 by omega] at c1 c2
              rw [show (k+k2 - 1) * 2=k * 2+(k2 - 1) * 2 by omega] at d1 d2
              have HCT:Hid (compactE (l.take (k+(k2+1)))=if (x1,x2)=(y1,y2) then compactE (l.take (k+k2)) else compactE (l.take (k+k2)) ++ [(x1,x2)]):=compact_take (j:=k+k2) (by omega) hx hy
              have HXI:Hid (l[k+k2]?=some (x1,x2)):=hx
              have hki:(k2:Int)<((n - k:Nat):Int):=by omega
              have hki':(k2:Int)<(n:Int) - (k:Int):=by omega
              have hk0:(0:Int)≤(k2:Int):=by omega
              have hkki:(kk:Int)<(n:Int):=by omega
              clear a1 a2 b1 b2 hx hy
              by_cases hdup2:(x1,x2)=(y1,y2)
              · have hb2:((x1.toList == y1.toList) && (x2.toList == y2.toList))=true:=by cases hdup2;simp
                have HA2:Hid (arr.take kk=compactE (l.take (k+(k2+1)))):=by show _=_;rw [HCT.out,if_pos hdup2];exact hat.out
                go_wp2_with fail
                go_quiet (fail)
                have HO2:Hid ((wr.drewN nq).ownsRow B 48 2 (.slice (some ⟨g,0,none⟩) n q) n (edC arr)):=owns_next ho.out (drewN_below wr nq)
                have HG2:Hid (w.grownBy (wr.drewN nq) (some g)):=grownBy_transR hgr.out (grownBy_belowR (drewN_below wr nq))
                generalize wr.drewN nq=wz at *
                clear ho hgr c1 c2 d1 d2
                go_wp2_with fail
                exact ⟨⟨kk,k2+1,arr,by omega,by omega,by omega,rfl,by go_num,hal,HA2,fun i hi=>hhi.out i (by omega),HO2,HG2⟩,by show n - k - ((k2:Int)+1).toNat<n - k - ((k2:Int)).toNat;omega⟩
              · have hb2:((x1.toList == y1.toList) && (x2.toList == y2.toList))=false:=by
                  rw [Bool.and_eq_false_iff]
                  by_cases e1:x1=y1
                  · right
                    simpa using str_ne (a:=x2) (b:=y2) (fun e2=>hdup2 (by rw [e1,e2]))
                  · left
                    simpa using str_ne e1
                have HA2:Hid ((arr.set kk (x1,x2)).take (kk+1)=compactE (l.take (k+(k2+1)))):=by
                  show _=_
                  rw [HCT.out,if_neg hdup2,← hat.out,List.take_add_one,List.take_set_of_le (Nat.le_refl _)]
                  rw [List.getElem?_set_self (by rw [hal.out];omega)]
                  rfl
                have HH2:Hid (∀ i,k+(k2+1)≤i+1→(arr.set kk (x1,x2))[i]?=l[i]?):=fun i hi=>by
                  rw [List.getElem?_set_ne (by omega)]
                  exact hhi.out i (by omega)
                go_wp2_with fail
                go_quiet (fail)
                have HO2:Hid ((wr.drewN nq).ownsRow B 48 2 (.slice (some ⟨g,0,none⟩) n q) n (edC arr)):=owns_next ho.out (drewN_below wr nq)
                have HG2:Hid (w.grownBy (wr.drewN nq) (some g)):=grownBy_transR hgr.out (grownBy_belowR (drewN_below wr nq))
                have c1':(wr.drewN nq).cell? ⟨g,k * 2+k2 * 2,none⟩=some (.string x1):=c1
                have c2':(wr.drewN nq).cell? ⟨g,k * 2+k2 * 2+1,none⟩=some (.string x2):=c2
                generalize wr.drewN nq=wz at *
                clear ho hgr c1 c2 d1 d2
                have hlen:(edC arr).length=n * 2:=by rw [edC_len,hal.out]
                obtain ⟨o1,e1⟩:∃ u,wz.cell? ⟨g,kk * 2,none⟩=some u:=⟨_,(HO2.out.cellAt (kk * 2) (by omega)).trans (List.getElem?_eq_getElem (by rw [hlen];omega))⟩
                obtain ⟨o2,e2⟩:∃ u,wz.cell? ⟨g,kk * 2+1,none⟩=some u:=⟨_,(HO2.out.cellAt (kk * 2+1) (by omega)).trans (List.getElem?_eq_getElem (by rw [hlen];omega))⟩
                have f1:=HO2.out.frozenAt (kk * 2)
                have f2:=HO2.out.frozenAt (kk * 2+1)
                obtain ⟨s1,s2⟩:=HO2.out.stored (kk * 2) (.string x1)
                obtain ⟨s3,s4⟩:=s1.stored (kk * 2+1) (.string x2)
                rw [edC_set arr kk (x1,x2) (by rw [hal.out];omega)] at s3
                have SO:Hid _:=s3
                have SG:Hid _:=grownBy_transR HG2.out (grownBy_transR s2 s4)
                clear s1 s2 s3 s4 hlen
                go_wp2_with fail
                exact ⟨⟨kk+1,k2+1,arr.set kk (x1,x2),by omega,by omega,by omega,by go_num,by go_num,by show _=_;rw [List.length_set];exact hal.out,HA2,HH2,SO,SG⟩,by show n - k - ((k2:Int)+1).toNat<n - k - ((k2:Int)).toNat;omega⟩
            · have hend:k+k2=n:=by omega
              have hlen:(edC arr).length=n * 2:=by rw [edC_len,hal.out]
              have hcl:∀ ty,(Builtin.clear_ #[46] ty #[.slice (some ⟨g,kk * 2,none⟩) (n - kk) (q - kk)]).run Tryz.prog wr=.ok (.tuple #[]) (wr.setCells g (kk * 2) (List.replicate ((n - kk) * 2) (.string ⟨#[]⟩))):=fun ty=>clear_ed wr ty g (kk * 2) (n - kk) (q - kk) (by omega) (fun j hj=>by
                rw [ho.out.cellAt (kk * 2+j) (by omega),List.getElem?_eq_getElem (by rw [hlen];omega)];rfl) (fun j hj=>ho.out.frozenAt _)
              obtain ⟨xs',k1,k2',k3⟩:=owns_setCells (List.replicate ((n - kk) * 2) (.string ⟨#[]⟩)) (kk * 2) wr (edC arr) ho.out
              have HLC:Hid ((compactE l).length=kk∧edC (compactE l)=xs'.take (kk * 2)):=by
                have e0:l.take (k+k2)=l:=List.take_of_length_le (by rw [HN.out];omega)
                have e1:=hat.out
                rw [e0] at e1
                refine ⟨?_,?_⟩
                · rw [← e1,List.length_take,hal.out];omega
                · rw [k2',← e1,edC_take]
              have HOF:Hid (OwnE (wr.setCells g (kk * 2) (List.replicate ((n - kk) * 2) (.string ⟨#[]⟩))) B (.slice (some ⟨g,0,none⟩) kk q) (compactE l)):=by
                refine OwnE.ofRaw ?_ ?_
                · rw [HLC.out.1,HLC.out.2];exact owns_shrink k1 (by omega)
                · have:=(grownBy_transR hgr.out k3).size;omega
              have HGF:Hid (Below B w (wr.setCells g (kk * 2) (List.replicate ((n - kk) * 2) (.string ⟨#[]⟩)))):=below_grownR (grownBy_transR hgr.out k3) HG.out.1 hB
              have hki:¬ (k2:Int)<((n - k:Nat):Int):=by omega
              have hki':¬ (k2:Int)<(n:Int) - (k:Int):=by omega
              have hkk0:(0:Int)≤(kk:Int):=by omega
              have hkkn:(kk:Int)≤(n:Int):=by omega
              have hkkq:(kk:Int)≤(q:Int):=by omega
              have HGB:Hid (∀ a,a<w.heap.size→(Value.slice (some ⟨g,0,none⟩) n q).ownBlock≠some a→(wr.setCells g (kk * 2) (List.replicate ((n - kk) * 2) (.string ⟨#[]⟩))).heap[a]?=w.heap[a]?):=fun a ha hne=>(grownBy_transR hgr.out k3).block a ha (fun e=>hne e.symm)
              clear k1 k2' k3 ho hgr hat hhi hlen
              go_wp2_with fail
              go_ret
              exact ⟨_,rfl,HOF.out,HGF.out,HGB.out⟩
        · have hb:((x1.toList == y1.toList) && (x2.toList == y2.toList))=false:=by
            rw [Bool.and_eq_false_iff]
            by_cases e1:x1=y1
            · right
              simpa using str_ne (a:=x2) (b:=y2) (fun e2=>hdup (by rw [e1,e2]))
            · left
              simpa using str_ne e1
          have HCK:Hid (compactE (l.take (k+1))=l.take (k+1)):=by show _=_;rw [HCT.out,if_neg hdup,hcp.out,HTK.out]
          go_wp2_with fail
          go_quiet (fail)
          have HOq:Hid ((wr.drewN nq).ownsRow B 48 2 (.slice (some ⟨g,0,none⟩) n q) n (edC l)):=owns_next ho.out (drewN_below wr nq)
          have HGq:Hid (w.grownBy (wr.drewN nq) (some g)):=grownBy_transR hgr.out (grownBy_belowR (drewN_below wr nq))
          generalize wr.drewN nq=wq at *
          clear ho hgr hcp c1 c2 d1 d2 HCT HTK hx hy hb
          go_wp2_with fail
          exact ⟨⟨k+1,by omega,by omega,by go_num,HOq,HGq,HCK⟩,by show n - ((k:Int)+1).toNat<n - ((k:Int)).toNat;omega⟩
      · have HOF:Hid (OwnE wr B (.slice (some ⟨g,0,none⟩) n q) (compactE l)):=by
          have e0:l.take k=l:=List.take_of_length_le (by rw [HN.out];omega)
          have e1:=hcp.out
          rw [e0] at e1
          show OwnE _ _ _ _
          rw [e1]
          refine OwnE.ofRaw ?_ ?_
          · rw [HN.out];exact ho.out
          · have:=hgr.out.size;omega
        have HGF:Hid (Below B w wr):=below_grownR hgr.out HG.out.1 hB
        have hki:¬ (k:Int)<(n:Int):=by omega
        go_wp2_with fail
        go_ret
        exact ⟨_,rfl,HOF.out,HGF.out,fun a ha hne=>hgr.out.block a ha (fun e=>hne e.symm)⟩
theorem expM_len (m:Md):(expM m).length=m.exports.length:=by simp [expM]
theorem expL_len (d:Nat) (ms:List Md):(expL ms).length≤wtS (wtMd d) ms:=flat_lenW expM (wtMd d) ms (fun m _=>by
  rw [expM_len];unfold wtMd wtS;omega)
theorem namesL_len (d:Nat) (ms:List Md):(namesL d ms).length≤wtS (wtMd d) ms:=by unfold namesL;rw [List.length_map];exact ftOf_len d ms
theorem graphL_wt (d:Nat) (ms:List Md) (h:wtS (wtMd d) ms≤1048576):(graphL d ms).length≤1048576 * 1048576+1048576:=by
  unfold graphL
  split
  · rw [tellE_eq]
    have h1:=flat_mul (tlE (ftOf nmT d ms)) (sumT (ftOf nmT d ms)) (fun x=>tlF_len x _) (sortS ((ftOf nmT d ms).map Prod.fst))
    have h2:=sortS_len ((ftOf nmT d ms).map Prod.fst) ((ftOf nmT d ms).map Prod.fst).length
    rw [List.take_of_length_le (Nat.le_refl _),List.length_map] at h2
    have h3:=ftOf_len d ms
    have h4:=sumT_len d ms
    rw [← ftOf_eq] at h3 h4
    have h5:(sortS ((ftOf nmT d ms).map Prod.fst)).length * sumT (ftOf nmT d ms)≤1048576 * 1048576:=Nat.mul_le_mul (by omega) (by omega)
    omega
  · simp
theorem nameOk {m s:ByteArray} {n:Int} (h1:m.size≤1048576) (h2:s.size≤1048576) (h3:okI n):okS (nmT m s n):=okS_small (nameT_len _ _ _ h1 h2 h3)
theorem rows_arityX {w:World} {d:Nat} {v:Value} {ms:List Md} (h:Rows w All 3 (HMd w All d) v ms) {m:Md} (hm:m ∈ ms) {r:Rf} (hr:r ∈ m.exports):okS r.name∧okI r.arity:=by
  obtain ⟨cs,ev,fv,_,_,hx,_⟩:=rows_get h hm
  obtain ⟨cs2,_,h1,h2⟩:=rows_get hx hr
  exact ⟨h1,h2⟩
theorem expL_ok {w:World} {d:Nat} {v:Value} {ms:List Md} (h:Rows w All 3 (HMd w All d) v ms) (hw:wtS (wtMd d) ms≤1048576):∀ c ∈ expL ms,okS c:=by
  intro c hc
  obtain ⟨m,hm,hc⟩:=List.mem_flatMap.1 hc
  obtain ⟨r,hr,rfl⟩:=List.mem_map.1 hc
  have h1:=wt_mem (wtMd d) hm
  have h2:=wt_mem wtRf hr
  have h3:wtMd d m=m.name.size+wtS wtRf m.exports+wtS (wtFn d) m.funs:=rfl
  have h4:wtRf r=r.name.size:=rfl
  exact nameOk (by omega) (by omega) (rows_arityX h hm hr).2
theorem OwnE.at {w:World} {B n q:Nat} {p:Option Addr} {l:List Edge} {k:Nat} {e:Edge} (h:OwnE w B (.slice p n q) l) (hk:l[k]?=some e):∃ g,p=some ⟨g,0,none⟩∧w.cell? ⟨g,k * 2,none⟩=some (.string e.1)∧w.cell? ⟨g,k * 2+1,none⟩=some (.string e.2):=by
  have hl:=(List.getElem?_eq_some_iff.1 hk).1
  have hr:=h.raw.1
  obtain ⟨h1,h2⟩:=edC_at l k e hk
  rcases id hr.2 with ⟨hv,hn⟩ | ⟨g,cap,cur,hv,_⟩
  · omega
  · cases hv
    exact ⟨g,rfl,(hr.cellAt (k * 2) (by omega)).trans h1,(hr.cellAt (k * 2+1) (by omega)).trans h2⟩
theorem one_strR {W:World} {s:ByteArray} (hs:okS s):StrR (W.alloc (.cells #[.string s] 9)) (.slice (some ⟨W.heap.size,0,none⟩) 1 1) [s] :=
  OwnS.strR (B:=0) (l:=[s]) ⟨⟨by simp [strs],.inr ⟨W.heap.size,1,#[.string s],rfl,Nat.zero_le _,Blk.new,Nat.le_refl _,by decide,by simp,by simp [strs]⟩⟩,Nat.zero_le _⟩ (fun x hx=>by rw [List.mem_singleton.1 hx];exact hs)
end Go.Proofs.YtknjlffbdadohaaGreatDoor
