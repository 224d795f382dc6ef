/-
  EdMark
-/
import Derived.Test.YtkkabbfdjhcfcaaGreatDoorP48
import Derived.Test.YtkkabbfdjhcfcaaGreatDoorP05
set_option maxHeartbeats 16000000
set_option linter.unusedVariables false
set_option maxRecDepth 100000
namespace Go.Proofs.YtkkabbfdjhcfcaaGreatDoor
open Go.ChangeShapes Go.WideShapes Go.ChangeAt Go.RowKit
theorem eqPair_any (w:World) (x y:ByteArray):Calls Tryz.prog 21 #[.agg #[.string x,.string y],.agg #[.string x,.string y]] w fun e w'=>e=.returned (.bool true)∧Below w.heap.size w w':=by
  obtain ⟨W2,hW2⟩:∃ W2,W2=(w.alloc (.cells #[.string x,.string y] 51)).alloc (.cells #[.string x,.string y] 51):=⟨_,rfl⟩
  have bA:Hid (Blk W2 w.heap.size #[.string x,.string y] 51):=by show Blk _ _ _ _;rw [hW2];exact Blk.new.alloc
  have bB:Hid (Blk W2 (w.heap.size+1) #[.string x,.string y] 51):=by
    show Blk _ _ _ _
    rw [hW2]
    have:=Blk.new (w:=w.alloc (.cells #[.string x,.string y] 51)) (cs:=#[.string x,.string y]) (t:=51)
    rwa [alloc_hs] at this
  have B2:Hid (Below w.heap.size w W2):=by show Below _ _ _;rw [hW2];exact ((Below.refl _ _).alloc (Nat.le_refl _) _).alloc (by simp only [alloc_hs];omega) _
  have HW2:Hid (W2=(w.alloc (.cells #[.string x,.string y] 51)).alloc (.cells #[.string x,.string y] 51)):=hW2
  clear hW2
  have hxx:(x.toList == x.toList)=true:=by simp
  have hyy:(y.toList == y.toList)=true:=by simp
  go_enter Tryz.func21,Tryz.ntmps21
  go_wp2_with fail
  rw [← HW2.out]
  go_loopw [5] (fun iv wr=>∃ i:Nat,i≤2∧iv=.int .i64 i∧Hid (Below W2.heap.size W2 wr)) (fun iv _=>2 - (intOf iv).toNat)
  case atStart=>exact ⟨0,by omega,rfl,Below.refl _ _⟩
  case round =>
    obtain ⟨i,hi,rfl,hb⟩:=hrel
    have bA2:=bA.out.next hb.out
    have bB2:=bB.out.next hb.out
    have a0:=bA2.cell 0 _ rfl
    have a1:=bA2.cell 1 _ rfl
    have b0:=bB2.cell 0 _ rfl
    have b1:=bB2.cell 1 _ rfl
    clear bA2 bB2
    rcases (by omega:i=0∨i=1∨i=2) with rfl | rfl | rfl
    · go_wp2_with fail
      go_quiet (fail)
      have HB2:Hid (Below W2.heap.size W2 (wr.drewN nq)):=⟨hb.out.os,hb.out.tape,hb.out.output,hb.out.size,hb.out.block⟩
      go_wp2_with fail
      exact ⟨⟨1,by omega,by go_num,HB2⟩,by simp [intOf]⟩
    · go_wp2_with fail
      go_quiet (fail)
      have HB2:Hid (Below W2.heap.size W2 (wr.drewN nq)):=⟨hb.out.os,hb.out.tape,hb.out.output,hb.out.size,hb.out.block⟩
      go_wp2_with fail
      exact ⟨⟨2,by omega,by go_num,HB2⟩,by simp [intOf]⟩
    · go_wp2_with fail
      go_ret
      exact ⟨rfl,B2.out.trans (hb.out.mono B2.out.size)⟩
theorem eqEd_own {w:World} {B1 B2:Nat} {u1 u2:Value} {l:List Edge} (h1:OwnE w B1 u1 l) (h2:OwnE w B2 u2 l) (hl:l.length≤1048576) :
    Calls Tryz.prog 8 #[u1,u2] w fun e w'=>e=.returned (.bool true)∧Below w.heap.size w w':=by
  obtain ⟨r1,-⟩:=h1.raw
  obtain ⟨r2,-⟩:=h2.raw
  obtain ⟨p1,q1,rfl,-⟩:=owns_slice r1
  obtain ⟨p2,q2,rfl,-⟩:=owns_slice r2
  have R1:Hid (w.ownsRow B1 51 2 (.slice p1 l.length q1) l.length (edC l)):=r1
  have R2:Hid (w.ownsRow B2 51 2 (.slice p2 l.length q2) l.length (edC l)):=r2
  generalize hn:l.length=n at *
  have HN:Hid (l.length=n):=hn
  clear r1 r2 h1 h2 hn
  go_enter Tryz.func8,Tryz.ntmps8
  go_wp2_with fail
  go_loopw [5] (fun iv wr=>∃ i:Nat,i≤n∧iv=.int .i64 i∧Hid (Below w.heap.size w wr)) (fun iv _=>n - (intOf iv).toNat)
  case atStart=>exact ⟨0,Nat.zero_le _,rfl,Below.refl _ _⟩
  case round =>
    obtain ⟨i,hi,rfl,hb⟩:=hrel
    by_cases hlt:i<n
    · obtain ⟨⟨x,y⟩,hx⟩:∃ x,l[i]?=some x:=⟨l[i]'(by rw [HN.out];exact hlt),List.getElem?_eq_getElem _⟩
      obtain ⟨a1,a2⟩:=edC_at l i _ hx
      obtain ⟨g1,rfl⟩:=owns_some R1.out (by omega)
      obtain ⟨g2,rfl⟩:=owns_some R2.out (by omega)
      have o1:=owns_next R1.out hb.out
      have o2:=owns_next R2.out hb.out
      have c1:=(o1.cellAt (i * 2) (by omega)).trans a1
      have c2:=(o1.cellAt (i * 2+1) (by omega)).trans a2
      have d1:=(o2.cellAt (i * 2) (by omega)).trans a1
      have d2:=(o2.cellAt (i * 2+1) (by omega)).trans a2
      have hii:(i:Int)<(n:Int):=by omega
      have hi0:(0:Int)≤(i:Int):=by omega
      clear a1 a2 o1 o2 hx
      go_wp2_with fail
      go_region_law
        (first
          | (go_simp;go_at_call 21;refine (eqPair_any _ x y).mono ?_;rintro e w1 ⟨rfl,hb1⟩;have K1:Hid (Below wr.heap.size wr w1):=⟨hb1.os,hb1.tape,hb1.output,hb1.size,hb1.block⟩;clear hb1;dsimp only))
      all_goals
        have HB1:Hid (Below w.heap.size w w1):=hb.out.trans (K1.out.mono hb.out.size)
        go_wp2_with fail
        exact ⟨⟨i+1,by omega,by go_num,HB1⟩,by simp [intOf];omega⟩
    · go_wp2_with fail
      go_ret
      exact ⟨rfl,hb.out⟩
def edMk (k:Nat):Value:=.string ⟨(109 :: Lib.decDigits k).toArray⟩
def edMks (t:Nat) (xs:List Value):List Value:=((List.range t).map fun i=>edMk (1+i)) ++ xs.drop t
theorem edMks_zero (xs:List Value):edMks 0 xs=xs:=by simp [edMks]
theorem edMks_set (t:Nat) (xs:List Value) (h:t<xs.length):(edMks t xs).set t (edMk (1+t))=edMks (t+1) xs:=by
  unfold edMks
  have h1:((List.range t).map fun i=>edMk (1+i)).length=t:=by simp
  rw [List.set_append_right _ _ (by omega),h1,Nat.sub_self,List.drop_eq_getElem_cons h,List.set_cons_zero]
  simp [List.range_succ]
theorem edMks_len (t:Nat) (xs:List Value) (h:t≤xs.length):(edMks t xs).length=xs.length:=by simp [edMks];omega
theorem edMks_all (xs:List Value):edMks xs.length xs=(List.range xs.length).map fun i=>edMk (1+i):=by simp [edMks]
theorem markEd_own {w:World} {B g n cap:Nat} {xs:List Value} (h:w.ownsRow B 51 2 (.slice (some ⟨g,0,none⟩) n cap) n xs) (hn:n≤1048576) :
    Calls Tryz.prog 11 #[.slice (some ⟨g,0,none⟩) n cap,.int .i64 1] w fun e w'=>e=.returned (.int .i64 ((1+n * 2:Nat):Int))∧w'.ownsRow B 51 2 (.slice (some ⟨g,0,none⟩) n cap) n (edMks (n * 2) xs)∧w.grownBy w' (some g):=by
  have HL:Hid (xs.length=n * 2):=h.1
  have H0:Hid (w.ownsRow B 51 2 (.slice (some ⟨g,0,none⟩) n cap) n xs):=h
  clear h
  go_enter Tryz.func11,Tryz.ntmps11
  go_wp2_with fail
  go_loopw [1,5] (fun kv iv wr=>∃ i:Nat,i≤n∧iv=.int .i64 i∧kv=.int .i64 ((1+i * 2:Nat):Int)∧Hid (wr.ownsRow B 51 2 (.slice (some ⟨g,0,none⟩) n cap) n (edMks (i * 2) xs))∧Hid (w.grownBy wr (some g))) (fun _ iv _=>n - (intOf iv).toNat)
  case atStart=>exact ⟨0,Nat.zero_le _,rfl,rfl,by show World.ownsRow _ _ _ _ _ _ _;rw [Nat.zero_mul,edMks_zero];exact H0.out,World.grownBy.refl _ _⟩
  case round =>
    obtain ⟨i,hi,rfl,rfl,ho,hg⟩:=hrel
    by_cases hlt:i<n
    · have hii:(i:Int)<(n:Int):=by omega
      have hi0:(0:Int)≤(i:Int):=by omega
      go_wp2_with fail
      go_loopw [1,6] (fun kv iv wx=>∃ j:Nat,j≤2∧iv=.int .i64 j∧kv=.int .i64 ((1+(i * 2+j):Nat):Int)∧Hid (wx.ownsRow B 51 2 (.slice (some ⟨g,0,none⟩) n cap) n (edMks (i * 2+j) xs))∧Hid (w.grownBy wx (some g))) (fun _ iv _=>2 - (intOf iv).toNat)
      case atStart=>exact ⟨0,by omega,rfl,rfl,ho,hg⟩
      case round =>
        obtain ⟨j,hj,rfl,rfl,ho2,hg2⟩:=hrel
        clear ho hg
        by_cases hlj:j<2
        · have hji:(j:Int)<2:=by omega
          have hj0:(0:Int)≤(j:Int):=by omega
          have hlen:=edMks_len (i * 2+j) xs (by have:=HL.out;omega)
          rw [HL.out] at hlen
          obtain ⟨old,hold⟩:∃ u,wr.cell? ⟨g,i * 2+j,none⟩=some u:=⟨_,(ho2.out.cellAt (i * 2+j) (by omega)).trans (List.getElem?_eq_getElem (by rw [hlen];omega))⟩
          have hfz:=ho2.out.frozenAt (i * 2+j)
          obtain ⟨kk,hkk⟩:∃ kk,kk=1+(i * 2+j):=⟨_,rfl⟩
          have HKK:Hid (kk=1+(i * 2+j)):=hkk
          have CM:Hid (∀ w',Calls Tryz.prog 23 #[.int .i64 (kk:Int)] w' fun e w''=>e=.returned (.string ⟨(109 :: Lib.decDigits kk).toArray⟩)∧Below w'.heap.size w' w''):=fun w'=>markText_any kk w' (by omega) (by omega)
          rw [← hkk]
          have hkb:kk≤4194304:=by omega
          clear hkk hlen
          go_wp2_with fail
          go_region_law
            (first
              | (go_simp;go_at_call 23;refine (CM.out _).mono ?_;rintro e w1 ⟨rfl,hb1⟩;have K1:Hid (Below wr.heap.size wr w1):=⟨hb1.os,hb1.tape,hb1.output,hb1.size,hb1.block⟩;have hold1:=cell_next K1.out hold;have hfz1:=(owns_next ho2.out K1.out).frozenAt (i * 2+j);clear hb1;dsimp only))
          all_goals
            have st:=(owns_next ho2.out K1.out).stored (i * 2+j) (edMk kk)
            rw [HKK.out,edMks_set (i * 2+j) xs (by have:=HL.out;omega)] at st
            have SO:Hid ((w1.setCell ⟨g,i * 2+j,none⟩ (.string ⟨(109 :: Lib.decDigits kk).toArray⟩)).ownsRow B 51 2 (.slice (some ⟨g,0,none⟩) n cap) n (edMks (i * 2+(j+1)) xs)):=by show World.ownsRow _ _ _ _ _ _ _;rw [HKK.out];exact st.1
            have SG:Hid (w.grownBy (w1.setCell ⟨g,i * 2+j,none⟩ (.string ⟨(109 :: Lib.decDigits kk).toArray⟩)) (some g)):=by show World.grownBy _ _ _;rw [HKK.out];exact grownBy_transR (grownBy_transR hg2.out (grownBy_belowR K1.out)) st.2
            clear st hold hfz hold1 hfz1
            go_wp2_with fail
            refine ⟨⟨j+1,by omega,by go_num,?_,SO,SG⟩,by simp [intOf];omega⟩
            have:=HKK.out
            subst this
            go_num
        · have e1:i * 2+j=(i+1) * 2:=by omega
          rw [e1] at ho2
          rw [e1]
          clear e1
          go_wp2_with fail
          exact ⟨⟨i+1,by omega,by go_num,rfl,ho2,hg2⟩,by simp [intOf];omega⟩
    · have e1:i=n:=by omega
      subst e1
      go_wp2_with fail
      go_ret
      exact ⟨rfl,ho.out,hg.out⟩
theorem heldEd_own {w:World} {g n cap:Nat} (h:∀ t,t<n * 2→w.cell? ⟨g,t,none⟩=some (edMk (1+t))) (hn:n≤1048576) (hc:n≤cap) :
    Calls Tryz.prog 12 #[.slice (some ⟨g,0,none⟩) n cap,.int .i64 1] w fun e w'=>e=.returned (.int .i64 ((1+n * 2:Nat):Int))∧Below w.heap.size w w':=by
  have H0:Hid (∀ t,t<n * 2→w.cell? ⟨g,t,none⟩=some (edMk (1+t))):=h
  clear h
  go_enter Tryz.func12,Tryz.ntmps12
  go_wp2_with fail
  go_loopw [1,5] (fun kv iv wr=>∃ i:Nat,i≤n∧iv=.int .i64 i∧kv=.int .i64 ((1+i * 2:Nat):Int)∧Hid (Below w.heap.size w wr)) (fun _ iv _=>n - (intOf iv).toNat)
  case atStart=>exact ⟨0,Nat.zero_le _,rfl,rfl,Below.refl _ _⟩
  case round =>
    obtain ⟨i,hi,rfl,rfl,hb⟩:=hrel
    by_cases hlt:i<n
    · have hii:(i:Int)<(n:Int):=by omega
      have hi0:(0:Int)≤(i:Int):=by omega
      go_wp2_with fail
      go_loopw [1,6] (fun kv iv wx=>∃ j:Nat,j≤2∧iv=.int .i64 j∧kv=.int .i64 ((1+(i * 2+j):Nat):Int)∧Hid (Below w.heap.size w wx)) (fun _ iv _=>2 - (intOf iv).toNat)
      case atStart=>exact ⟨0,by omega,rfl,rfl,hb⟩
      case round =>
        obtain ⟨j,hj,rfl,rfl,hb2⟩:=hrel
        clear hb
        by_cases hlj:j<2
        · have hji:(j:Int)<2:=by omega
          have hj0:(0:Int)≤(j:Int):=by omega
          have c0:=H0.out (i * 2+j) (by omega)
          have hgl:g<w.heap.size:=World.block_lt_of_cell? w ⟨g,i * 2+j,none⟩ c0
          have c1:wr.cell? ⟨g,i * 2+j,none⟩=some (.string ⟨(109 :: Lib.decDigits (1+(i * 2+j))).toArray⟩):=(hb2.out.cell (p:=⟨g,i * 2+j,none⟩) hgl).trans c0
          have hgl':g<wr.heap.size:=Nat.lt_of_lt_of_le hgl hb2.out.size
          obtain ⟨kk,hkk⟩:∃ kk,kk=1+(i * 2+j):=⟨_,rfl⟩
          rw [← hkk] at c1
          have HKK:Hid (kk=1+(i * 2+j)):=hkk
          have CM:Hid (∀ w',Calls Tryz.prog 23 #[.int .i64 (kk:Int)] w' fun e w''=>e=.returned (.string ⟨(109 :: Lib.decDigits kk).toArray⟩)∧Below w'.heap.size w' w''):=fun w'=>markText_any kk w' (by omega) (by omega)
          rw [← hkk]
          have hkb:kk≤4194304:=by omega
          clear hkk c0
          go_wp2_with fail
          go_region_with ((go_at_call 23;refine (CM.out _).mono ?_;rintro e w1 ⟨rfl,hb1⟩;have e2:=(hb1.cell (p:=⟨g,i * 2+j,none⟩) (by simpa using hgl')).trans c1;have HB1:Hid _:=hb1;clear hb1))
          all_goals go_wp2
          all_goals
            have hbe:Below w.heap.size w w1:=by
              refine Below.trans ?_ (HB1.out.mono (by exact hb2.out.size))
              repeat (first | exact hb2.out | apply Below.drew)
            refine ⟨⟨j+1,by omega,by go_num,?_,hbe⟩,by simp [intOf];omega⟩
            have:=HKK.out
            subst this
            go_num
        · have e1:i * 2+j=(i+1) * 2:=by omega
          rw [e1]
          clear e1
          go_wp2_with fail
          exact ⟨⟨i+1,by omega,by go_num,rfl,hb2⟩,by simp [intOf];omega⟩
    · have e1:i=n:=by omega
      subst e1
      go_wp2_with fail
      go_ret
      exact ⟨rfl,hb.out⟩
end Go.Proofs.YtkkabbfdjhcfcaaGreatDoor
