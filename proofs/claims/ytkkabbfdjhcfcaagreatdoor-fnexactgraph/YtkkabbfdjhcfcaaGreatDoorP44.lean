/-
  GoodTop
-/
import Derived.Test.YtkkabbfdjhcfcaaGreatDoorP43
set_option maxHeartbeats 16000000
set_option linter.unusedVariables false
set_option maxRecDepth 100000
namespace Go.Proofs.YtkkabbfdjhcfcaaGreatDoor
open Go.ChangeShapes Go.WideShapes Go.ChangeAt Go.RowKit
def goodB (d:Nat) (ms:List Md):Bool:=pgOk d ms && (checkP d ms).isEmpty
theorem implGood_any (d:Nat) (w:World) (v:Value) (ms:List Md) (hT:Tabs w) (h:Rows w All 3 (HMd w All d) v ms) (hw:wtS (wtMd d) ms≤1048576) :
    Calls Tryz.prog 19 #[v] w fun e w'=>e=.returned (.bool (goodB d ms))∧Below w.heap.size w w':=by
  have HTAB:Hid (Tabs w):=hT
  have HMS:Hid (∀ w',Below w.heap.size w w'→Rows w' All 3 (HMd w' All d) v ms):=fun w' hw=>h.mono (SameOn.of_below hw) (fun _ h=>h) (fun _ _ _ h=>h.mono (SameOn.of_below hw) (fun _ h=>h))
  have HWM:Hid (∀ m ∈ ms,wtMd d m≤1048576):=fun m hm=>Nat.le_trans (wt_mem (wtMd d) hm) hw
  have HRUN:Hid (∀ m ∈ ms,∀ f ∈ m.funs,Runs (fun (s:List Pb) _=>s.length+1≤1048576) (stK f.name f.arity ms m) [] (f.clauses.flatMap fun c=>c.2.flatMap (preX d))):=runs_all hw
  have HLEN:Hid ((ms.flatMap (modP ms d)).length≤1048576):=Nat.le_trans (allP_len ms ms d) hw
  have HO0:Hid (Rows w All 3 (HMd w All d) v ms):=h
  obtain ⟨p,cap,rfl,-⟩:=h
  clear hT hw
  go_enter Tryz.func19,Tryz.ntmps19
  go_wp2_with fail
  refine (implProgramOk_any d _ _ ms HTAB.out HO0.out).mono ?_
  rintro e w1 ⟨rfl,hb1⟩
  have HB1:Hid (Below w.heap.size w w1):=hb1
  clear hb1
  cases hG:pgOk d ms with
  | false =>
    have HC:Hid (goodB d ms=false):=by show _=_;unfold goodB;rw [hG];rfl
    go_wp2_with fail
    go_ret
    exact ⟨by rw [HC.out];rfl,HB1.out⟩
  | true =>
    have HC:Hid (goodB d ms=(ms.flatMap (modQ ms d)).isEmpty):=by show _=_;unfold goodB checkP;rw [hG,if_pos rfl,allQ_eq hG,Bool.true_and]
    have HLQ:Hid ((ms.flatMap (modQ ms d)).length≤1048576):=by show _≤_;rw [allQ_eq hG];exact HLEN.out
    go_wp2_with fail
    refine (problems_any d _ _ ms (HTAB.out.below HB1.out) (HMS.out _ HB1.out) HWM.out HLQ.out HRUN.out).mono ?_
    rintro e w2 ⟨u2,rfl,ho2,hb2⟩
    obtain ⟨p2,q2,rfl,hm2⟩:=ho2.slice
    have HB2:Hid (Below w.heap.size w w2):=HB1.out.trans (hb2.mono HB1.out.size)
    clear ho2 hb2
    cases hL:ms.flatMap (modQ ms d) with
    | nil =>
      have HC2:Hid (goodB d ms=true):=by show _=_;rw [HC.out,hL];rfl
      rw [hL,List.length_nil] at *
      go_wp2_with fail
      go_ret
      exact ⟨by rw [HC2.out];rfl,HB2.out⟩
    | cons q l =>
      have HC2:Hid (goodB d ms=false):=by show _=_;rw [HC.out,hL];rfl
      have hz:¬ (((ms.flatMap (modQ ms d)).length:Nat):Int)=0:=by rw [hL,List.length_cons];omega
      generalize (ms.flatMap (modQ ms d)).length=n2 at *
      clear hL HC
      go_wp2_with fail
      go_ret
      exact ⟨by rw [HC2.out];first | rfl | simp,HB2.out⟩
theorem specGood_any (d:Nat) (w:World) (v:Value) (ms:List Md) (h:Rows w All 3 (HMd w All d) v ms) (hw:wtS (wtMd d) ms≤1048576) :
    Calls Tryz.prog 14 #[v] w fun e w'=>e=.returned (.bool (goodB d ms))∧Below w.heap.size w w':=by
  have HMS:Hid (∀ w',Below w.heap.size w w'→Rows w' All 3 (HMd w' All d) v ms):=fun w' hw=>h.mono (SameOn.of_below hw) (fun _ h=>h) (fun _ _ _ h=>h.mono (SameOn.of_below hw) (fun _ h=>h))
  have HO0:Hid (Rows w All 3 (HMd w All d) v ms):=h
  have HWW:Hid (wtS (wtMd d) ms≤1048576):=hw
  obtain ⟨p,cap,rfl,-⟩:=h
  clear hw
  go_enter Tryz.func14,Tryz.ntmps14
  go_wp2_with fail
  refine (specProgramOk_any d _ _ ms HO0.out).mono ?_
  rintro e w1 ⟨rfl,hb1⟩
  have HB1:Hid (Below w.heap.size w w1):=hb1
  clear hb1
  cases hG:pgOk d ms with
  | false =>
    have HC:Hid (goodB d ms=false):=by show _=_;unfold goodB;rw [hG];rfl
    go_wp2_with fail
    go_ret
    exact ⟨by rw [HC.out];rfl,HB1.out⟩
  | true =>
    have HC:Hid (goodB d ms=(checkP d ms).isEmpty):=by show _=_;unfold goodB;rw [hG,Bool.true_and]
    go_wp2_with fail
    refine (specCheck_any d _ _ ms (HMS.out _ HB1.out) HWW.out).mono ?_
    rintro e w2 ⟨u2,rfl,ho2,hb2⟩
    obtain ⟨p2,q2,rfl,hm2⟩:=ho2.slice
    have HB2:Hid (Below w.heap.size w w2):=HB1.out.trans (hb2.mono HB1.out.size)
    clear ho2 hb2
    cases hL:checkP d ms with
    | nil =>
      have HC2:Hid (goodB d ms=true):=by show _=_;rw [HC.out,hL];rfl
      rw [hL,List.length_nil] at *
      go_wp2_with fail
      go_ret
      exact ⟨by rw [HC2.out];rfl,HB2.out⟩
    | cons q l =>
      have HC2:Hid (goodB d ms=false):=by show _=_;rw [HC.out,hL];rfl
      have hz:¬ (((checkP d ms).length:Nat):Int)=0:=by rw [hL,List.length_cons];omega
      generalize (checkP d ms).length=n2 at *
      clear hL HC
      go_wp2_with fail
      go_ret
      exact ⟨by rw [HC2.out];first | rfl | simp,HB2.out⟩
end Go.Proofs.YtkkabbfdjhcfcaaGreatDoor
