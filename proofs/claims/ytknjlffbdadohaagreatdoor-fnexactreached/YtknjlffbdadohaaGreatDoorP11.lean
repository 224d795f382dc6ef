/-
  Strs
-/
import Derived.Test.YtknjlffbdadohaaGreatDoorP07
import Derived.Test.YtknjlffbdadohaaGreatDoorP09
set_option maxHeartbeats 16000000
set_option linter.unusedVariables false
set_option maxRecDepth 100000
namespace Go.Proofs.YtknjlffbdadohaaGreatDoor
open Go.ChangeShapes Go.WideShapes Go.ChangeAt Go.RowKit
theorem eqStringS_some (b1 b2 c1 c2:Nat) (xs:List ByteArray) (w:World) (hl:xs.length≤4194304) (hc1:xs.length≤c1) (hc2:xs.length≤c2)
    (h1:∀ i,i<xs.length→w.cell? ⟨b1,i,none⟩=some (.string (xs.getD i ByteArray.empty))) (h2:∀ i,i<xs.length→w.cell? ⟨b2,i,none⟩=some (.string (xs.getD i ByteArray.empty))) :
    Calls Tryz.prog 8 #[.slice (some ⟨b1,0,none⟩) xs.length c1,.slice (some ⟨b2,0,none⟩) xs.length c2] w fun e w'=>e=.returned (.bool true)∧∃ k,w'=w.drewN k:=by
  have H1:Hid (∀ i,i<xs.length→w.cell? ⟨b1,i,none⟩=some (.string (xs.getD i ByteArray.empty))):=h1
  have H2:Hid (∀ i,i<xs.length→w.cell? ⟨b2,i,none⟩=some (.string (xs.getD i ByteArray.empty))):=h2
  clear h1 h2
  go_enter Tryz.func8,Tryz.ntmps8
  go_wp2
  go_loopw [5] (fun i wr=>∃ k m:Nat,k≤xs.length∧i=.int .i64 k∧wr=w.drewN m) (fun i _=>xs.length - (intOf i).toNat)
  case atStart=>exact ⟨0,0,Nat.zero_le _,rfl,rfl⟩
  case round =>
    obtain ⟨k,m,hk,rfl,rfl⟩:=hrel
    by_cases hlt:k<xs.length
    · have e1:=H1.out k hlt
      have e2:=H2.out k hlt
      generalize xs.getD k ByteArray.empty=x at e1 e2
      go_wp2
      go_quiet (fail)
      go_wp2
      exact ⟨⟨k+1,m+nq,by omega,by go_num,rfl⟩,by simp [intOf];omega⟩
    · go_wp2
      go_ret
      exact ⟨rfl,m,rfl⟩
def markS (k:Nat):Value:=.string ⟨(109 :: Lib.decDigits k).toArray⟩
def marks (k n:Nat):List Value:=(List.range n).map fun i=>markS (k+i)
theorem marks_length (k n:Nat):(marks k n).length=n:=by simp [marks]
theorem marks_get (k n i:Nat) (h:i<n):(marks k n)[i]?=some (markS (k+i)):=by simp [marks,h]
theorem marks_set (k i:Nat) (xs:List Value) (h:i<xs.length):(marks k i ++ xs.drop i).set i (markS (k+i))=marks k (i+1) ++ xs.drop (i+1):=by
  have h1:(marks k i).length=i:=marks_length k i
  rw [List.set_append_right _ _ (by omega),h1,Nat.sub_self,List.drop_eq_getElem_cons h,List.set_cons_zero]
  simp [marks,List.range_succ]
theorem markStringS_own (B g n cap k0:Nat) (xs:List Value) (w:World) (hn:n≤4194304) (hk:1≤k0) (hk':k0≤4194304) (h:w.ownsRow B 9 1 (.slice (some ⟨g,0,none⟩) n cap) n xs) :
    Calls Tryz.prog 11 #[.slice (some ⟨g,0,none⟩) n cap,.int .i64 k0] w fun e w'=>e=.returned (.int .i64 ((k0+n:Nat):Int))∧w'.ownsRow B 9 1 (.slice (some ⟨g,0,none⟩) n cap) n (marks k0 n)∧w.grownBy w' (some g):=by
  have hx:xs.length=n:=by have:=h.1;omega
  have hcap:n≤cap:=by
    rcases h.2 with ⟨hv,_⟩ | ⟨g',cap',cur,hv,_,_,hc,_⟩
    · cases hv
    · cases hv;exact hc
  have H:Hid (w.ownsRow B 9 1 (.slice (some ⟨g,0,none⟩) n cap) n xs):=h
  clear h
  go_enter Tryz.func11,Tryz.ntmps11
  go_wp2
  go_loopw [1,5] (fun kv iv wr=>∃ i kk:Nat,i≤n∧iv=.int .i64 i∧kv=.int .i64 kk∧Hid (kk=k0+i)∧wr.ownsRow B 9 1 (.slice (some ⟨g,0,none⟩) n cap) n (marks k0 i ++ xs.drop i)∧w.grownBy wr (some g)) (fun _ iv _=>n - (intOf iv).toNat)
  case atStart=>exact ⟨0,k0,Nat.zero_le _,rfl,rfl,rfl,by simpa [marks] using H.out,World.grownBy.refl _ _⟩
  case round =>
    obtain ⟨i,kk,hi,rfl,rfl,hkk,hown,hgr⟩:=hrel
    have hkb:1≤kk∧kk≤8388608:=by have:=hkk.out;omega
    have HO:Hid (wr.ownsRow B 9 1 (.slice (some ⟨g,0,none⟩) n cap) n (marks k0 i ++ xs.drop i)):=hown
    have HG:Hid (w.grownBy wr (some g)):=hgr
    clear hown hgr
    by_cases hlt:i<n
    · go_wp2_with fail
      refine (markText_any kk _ (by omega) (by omega)).mono ?_
      rintro e w1 ⟨rfl,hb1⟩
      have hgl:g<wr.heap.size:=(HO.out.lt g rfl).2
      have ho1:w1.ownsRow B 9 1 (.slice (some ⟨g,0,none⟩) n cap) n (marks k0 i ++ xs.drop i) :=
        HO.out.kept ⟨hb1.os,hb1.tape,hb1.output,hb1.size,fun j hj _=>hb1.block j hj⟩ (row:=none) (Or.inr (by simp [Value.ownBlock]))
      have hfz:=ho1.frozenAt i
      have hcl:∃ u,w1.cell? ⟨g,i,none⟩=some u:=⟨_,(ho1.cellAt i (by omega)).trans (List.getElem?_eq_getElem (by simp [marks_length];omega))⟩
      obtain ⟨u,hcl⟩:=hcl
      have HO1:Hid (w1.ownsRow B 9 1 (.slice (some ⟨g,0,none⟩) n cap) n (marks k0 i ++ xs.drop i)):=ho1
      have HB1:Hid (Below wr.heap.size wr w1):=hb1
      clear ho1 hb1
      have e1:kk=k0+i:=hkk.out
      have st:=HO1.out.stored i (markS (k0+i))
      rw [marks_set k0 i xs (by omega),← e1] at st
      have HST:Hid _:=st
      have HE:Hid (kk=k0+i):=e1
      clear st e1
      go_wp2
      exact ⟨⟨i+1,kk+1,by omega,by go_num,by go_num,(by have:=HE.out;show kk+1=k0+(i+1);omega),HST.out.1,grownBy_trans HG.out (grownBy_trans (grownBy_below HB1.out) HST.out.2)⟩,by simp [intOf];omega⟩
    · have e2:marks k0 i ++ xs.drop i=marks k0 n:=by
        obtain rfl:i=n:=by omega
        rw [List.drop_eq_nil_of_le (by omega),List.append_nil]
      have HO':=HO.out
      rw [e2] at HO'
      have HO2:Hid _:=HO'
      have hkn:kk=k0+n:=by have:=hkk.out;omega
      clear HO' e2
      have HK:Hid (kk=k0+n):=hkn
      clear hkn
      go_wp2
      go_ret
      exact ⟨by rw [HK.out];rfl,HO2.out,HG.out⟩
theorem heldStringS_own (g n cap k0:Nat) (w:World) (hn:n≤4194304) (hcap:n≤cap) (hk:1≤k0) (hk':k0≤4194304) (h:∀ i,i<n→w.cell? ⟨g,i,none⟩=some (markS (k0+i))) :
    Calls Tryz.prog 12 #[.slice (some ⟨g,0,none⟩) n cap,.int .i64 k0] w fun e w'=>e=.returned (.int .i64 ((k0+n:Nat):Int))∧Below w.heap.size w w':=by
  have H:Hid (∀ i,i<n→w.cell? ⟨g,i,none⟩=some (markS (k0+i))):=h
  clear h
  go_enter Tryz.func12,Tryz.ntmps12
  go_wp2
  go_loopw [1,5] (fun kv iv wr=>∃ i kk:Nat,i≤n∧iv=.int .i64 i∧kv=.int .i64 kk∧Hid (kk=k0+i)∧Below w.heap.size w wr) (fun _ iv _=>n - (intOf iv).toNat)
  case atStart=>exact ⟨0,k0,Nat.zero_le _,rfl,rfl,rfl,Below.refl _ _⟩
  case round =>
    obtain ⟨i,kk,hi,rfl,rfl,hkk,hb⟩:=hrel
    have hkb:1≤kk∧kk≤8388608:=by have:=hkk.out;omega
    have HB:Hid (Below w.heap.size w wr):=hb
    clear hb
    by_cases hlt:i<n
    · have e0:=H.out i hlt
      have hgl:g<w.heap.size:=World.block_lt_of_cell? w ⟨g,i,none⟩ e0
      have e1:wr.cell? ⟨g,i,none⟩=some (.string ⟨(109 :: Lib.decDigits kk).toArray⟩):=by
        rw [HB.out.cell (p:=⟨g,i,none⟩) hgl,e0,hkk.out];rfl
      have hgl':g<wr.heap.size:=Nat.lt_of_lt_of_le hgl HB.out.size
      clear e0
      go_wp2
      go_region_with ((go_at_call 23;refine (markText_any kk _ (by omega) (by omega)).mono ?_;rintro e w1 ⟨rfl,hb1⟩;have hb2:=hb1;have e2:=(hb1.cell (p:=⟨g,i,none⟩) (by simpa using hgl')).trans e1;have HB1:Hid _:=hb1;clear hb1 hb2))
      all_goals go_wp2
      all_goals
        have hbe:Below w.heap.size w w1:=by
          refine Below.trans ?_ (HB1.out.mono (by exact HB.out.size))
          repeat (first | exact HB.out | apply Below.drew)
        exact ⟨⟨i+1,kk+1,by omega,by go_num,by go_num,(by have:=hkk.out;show kk+1=k0+(i+1);omega),hbe⟩,by simp [intOf];omega⟩
    · have hkn:kk=k0+n:=by have:=hkk.out;omega
      have HK:Hid (kk=k0+n):=hkn
      clear hkn
      go_wp2
      go_ret
      exact ⟨by rw [HK.out];rfl,HB.out⟩
end Go.Proofs.YtknjlffbdadohaaGreatDoor
