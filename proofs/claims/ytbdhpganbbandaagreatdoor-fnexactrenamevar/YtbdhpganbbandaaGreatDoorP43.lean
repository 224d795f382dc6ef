/-
  NameMath3 NameList
-/
import Derived.Test.YtbdhpganbbandaaGreatDoorP40
import Derived.Test.YtbdhpganbbandaaGreatDoorP27
set_option maxHeartbeats 16000000
set_option linter.unusedVariables false
set_option maxRecDepth 100000
namespace Go.Proofs.YtbdhpganbbandaaGreatDoor
open Go.ChangeShapes Go.WideShapes Go.ChangeAt Go.RowKit
section
open Go.Sort
theorem insS_perm:∀ (l:List ByteArray) (s:ByteArray),keyS s ∉ l.map keyS→((insS l s).map keyS).Perm (keyS s :: l.map keyS)
 | [],s,h=>List.Perm.refl _
 | x :: xs,s,h=>by
  have h1:x.toList≠s.toList:=fun e=>h (by simp [keyS,e]);unfold insS
  split
  · exact ((insS_perm xs s (fun h'=>h (by simp only [List.map_cons,List.mem_cons];exact .inr h'))).cons _).trans (List.Perm.swap _ _ _)
  · exact List.Perm.refl _
theorem insS_asc:∀ (l:List ByteArray) (s:ByteArray),(l.map keyS).Pairwise (fun a b=>a≤b)→((insS l s).map keyS).Pairwise (fun a b=>a≤b)
 | [],s,h=>by simp [insS]
 | x :: xs,s,h=>by
  obtain ⟨h1,h2⟩:=List.pairwise_cons.1 h;unfold insS
  split
  · rename_i hlt
    have hlt':keyS x<keyS s:=by
     unfold ltS at hlt;rw [bytesLess_eq] at hlt;exact of_decide_eq_true hlt
    refine List.pairwise_cons.2 ⟨fun y hy=>?_,insS_asc xs s h2⟩;obtain ⟨z,hz,rfl⟩:=List.mem_map.1 hy
    rcases insS_mem xs s z hz with rfl | hz
    · exact List.le_of_lt hlt'
    · exact h1 _ (List.mem_map.2 ⟨z,hz,rfl⟩)
  · rename_i hlt
    have hle:keyS s≤keyS x:=by
     have:¬ keyS x<keyS s:=fun e=>hlt (by unfold ltS;rw [bytesLess_eq];exact decide_eq_true e);exact List.not_lt.1 this
    split
    · exact h
    · refine List.pairwise_cons.2 ⟨fun y hy=>?_,h⟩
      rcases List.mem_cons.1 hy with rfl | hy
      · exact hle
      · exact List.le_trans hle (h1 y hy)
theorem sortS_from:∀ (l acc:List ByteArray),(acc.map keyS ++ l.map keyS).Nodup→(acc.map keyS).Pairwise (fun a b=>a≤b) →
 ((l.foldl insS acc).map keyS).Perm (acc.map keyS ++ l.map keyS)∧((l.foldl insS acc).map keyS).Pairwise (fun a b=>a≤b)
 | [],acc,hn,h=>⟨by simp,h⟩
 | s :: l,acc,hn,h=>by
  have hs:keyS s ∉ acc.map keyS:=by
   intro hm;have:=(List.nodup_append.1 hn).2.2 _ hm (keyS s) (by simp);exact this rfl
  have hp:=insS_perm acc s hs
  have hp2:((insS acc s).map keyS ++ l.map keyS).Perm (acc.map keyS ++ (s :: l).map keyS):=by
   refine (hp.append_right _).trans ?_;simp only [List.map_cons,List.cons_append];exact List.perm_middle.symm
  obtain ⟨g1,g2⟩:=sortS_from l (insS acc s) (hp2.symm.nodup_iff.1 hn) (insS_asc acc s h);exact ⟨g1.trans hp2,g2⟩
theorem sortS_perm (l:List ByteArray) (hn:NdK l):((sortS l).map keyS).Perm (l.map keyS)∧((sortS l).map keyS).Pairwise (fun a b=>a≤b):=by
 have:=sortS_from l [] (by simpa [NdK] using hn) (by simp)
 simpa [sortS] using this
theorem keysL_eq (K:List (List UInt8)) (l:List ByteArray) (hn:NdK l) (hm:∀ x,x ∈ l.map keyS ↔ x ∈ K):keysL K=(sortS l).map keyS:=by
 obtain ⟨h1,h2⟩:=sortS_perm l hn;have h3:((sortS l).map keyS).Perm (strKeys (setD K)):=h1.trans (setD_perm K _ hn hm);unfold keysL keysD;rw [← mergeSort_of_perm h3];exact List.mergeSort_of_pairwise (h2.imp (fun h=>decide_eq_true h))
theorem encStr_keyS (s:ByteArray):encStr (keyS s)=.string s:=by
 unfold encStr keyS;rw [ByteArray.toList_eq]
theorem keysL_strs (K:List (List UInt8)) (l:List ByteArray) (hn:NdK l) (hm:∀ x,x ∈ l.map keyS ↔ x ∈ K):(keysL K).map encStr=strs (sortS l)∧(keysL K).length=(sortS l).length:=by
 rw [keysL_eq K l hn hm];refine ⟨?_,by simp⟩;unfold strs;rw [List.map_map];exact List.map_congr_left (fun s _=>encStr_keyS s)
end
section
open Go.Maps Go.WideMaps Go.Sort
theorem MapAt.made (w:World):MapAt (w.alloc (.map #[] 0)) w.heap.size []:=by
 unfold MapAt;exact World.ownsMap_made w _ _ _
theorem list_any (w:World) (mb:Nat) (K:List (List UInt8)) (l:List ByteArray) (hm:MapAt w mb K) (hK:K.length<=67108864) (hn:NdK l) (hl:∀ x,x ∈ l.map keyS ↔ x ∈ K) :
 Calls Tryz.prog 119 #[.map (some mb)] w λe w'=>∃ u,e=.returned u/\OwnS w' w.heap.size u (sortS l)/\Bz w w':=by
 refine (list_in w mb K.length (setD K) hm hK (Nat.le_trans (setD_size K) hK)).mono ?_;rintro e w' ⟨u,rfl,ho,hb⟩;obtain ⟨h1,h2⟩:=keysL_strs K l hn hl;unfold keysL at h1 h2;rw [h1,h2] at ho;exact ⟨u,rfl,⟨ho,hb.size⟩,hb⟩
end
end Go.Proofs.YtbdhpganbbandaaGreatDoor
