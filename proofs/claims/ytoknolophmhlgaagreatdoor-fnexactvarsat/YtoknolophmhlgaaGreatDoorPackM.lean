/-
  Texts of the proof, packed: NameImplA, RangeBound, Iter, NameImplB, NameImplC, NameMath3, Tight.
-/
import Derived.Test.YtoknolophmhlgaaGreatDoorPackH
import Derived.Test.YtoknolophmhlgaaGreatDoorPackL
import Derived.Maps.Own
import Derived.Maps.OwnSet
import Derived.StringKeys
import Derived.RangeFuncNested
import Derived.RangeFuncBound
import Derived.RangeFuncCalls
import Derived.RangeFuncLeaves
import Derived.Shelf.Abstract
import Derived.Shelf.RegionOpen
import Derived.WalkKit
import Derived.OwnWalkIn
import Derived.TacticsInMore
import Derived.LoopNIn
import Derived.LoopIn
import Derived.Maps.OwnIn
import Derived.Maps.AppendAt
import Derived.Shelf.SlIter.Nil
import Derived.Shelf.SortM.Plain
import Derived.Shelf.SortM.SortNone
import Derived.Ground.GgzProg
import Derived.Ground.SlgmProg
import Derived.Test.YtoknolophmhlgaaGreatDoorProg
import Derived.Sort.Walk0
import Derived.Test.YtoknolophmhlgaaGreatDoorPackA
/-
  The program's eachExp and eachOf, by contract.
-/
namespace Go.Proofs.YtoknolophmhlgaaGreatDoor
open Go.ChangeShapes Go.WideShapes Go.ChangeAt Go.RowKit Go.Maps Go.WideMaps
set_option linter.unusedVariables false
set_option maxRecDepth 100000

theorem mkMap (w : World) : Sem.run Tryz.prog (Instr.makeMap 80 none) w = .ok (.map (some w.heap.size)) (w.alloc (.map #[] 0)) := by kernel_rfl
theorem lawS : Keyed Tryz.prog 9 := string_keyed Tryz.underlying9
/-- How a value that holds nothing reads. -/
def setR (_ : Value) : Option (DataW Unit × List MemPlace) := some (.agg [], [])
def setD (K : List (List UInt8)) : DataW Unit := K.foldl (fun D x => D.put (.string x) (.agg [])) (.map [])
theorem setD_snoc (K : List (List UInt8)) (x : List UInt8) : setD (K ++ [x]) = (setD K).put (.string x) (.agg []) := by simp [setD, List.foldl_append]
/-- The names that have been put into the map in block mb. -/
def MapAt (w : World) (mb : Nat) (K : List (List UInt8)) : Prop := w.ownsMap Tryz.prog 9 setR mb K.length (setD K)
theorem MapAt.keep {w w' : World} {mb : Nat} {K : List (List UInt8)} (h : MapAt w mb K) (he : w'.heap[mb]? = w.heap[mb]?) : MapAt w' mb K := by
  obtain ⟨es, clock, h1, h2⟩ := h
  exact ⟨es, clock, he.trans h1, h2⟩
theorem MapAt.lt {w : World} {mb : Nat} {K : List (List UInt8)} (h : MapAt w mb K) : mb < w.heap.size := by
  obtain ⟨es, clock, h1, h2⟩ := h
  exact (Array.getElem?_eq_some_iff.1 h1).1

theorem add_any (w : World) (mb : Nat) (K : List (List UInt8)) (s : ByteArray) (h : MapAt w mb K) (hs : okS s) (hK : K.length < maxLen) :
    Calls Tryz.prog 63 #[.map (some mb), .string s] w fun e w' => e = .returned (.tuple #[]) ∧ MapAt w' mb (K ++ [s.data.toList]) ∧ Off [mb] w w' := by
  have H : Hid (MapAt w mb K) := h
  have hk : keyOf Tryz.prog 9 (.string s) = some (.string s.data.toList) := keyOf_string_mk Tryz.underlying9 hs
  clear h
  go_enter Tryz.func63, Tryz.ntmps63
  go_wp2_with (at_mapUpdate; refine wpList_mapUpdate_own _ rfl _ _ _ 80 rfl 9 _ lawS Tryz.underlying80 setR mb K.length (setD K) rfl H.out hK _ _ _ rfl rfl hk (.agg []) [] rfl ?_; intro w1 hm1 hg1)
  go_end0
  refine ⟨rfl, ?_, Off.of_grown hg1 (by simp)⟩
  unfold MapAt
  rw [setD_snoc, List.length_append]
  exact hm1

/-- What the closure that tells names holds: the map, the box of the method that puts a name into it. -/
structure Ev (w : World) (mb tb : Nat) (K : List (List UInt8)) : Prop where
  m : MapAt w mb K
  b : Blk w tb #[.func (.func 63) #[.map (some mb)] #[]] 109
  ne : tb ≠ mb
theorem Ev.next {w w' : World} {mb tb : Nat} {K : List (List UInt8)} (h : Ev w mb tb K) (hb : Below w.heap.size w w') : Ev w' mb tb K :=
  ⟨h.m.keep (hb.block mb h.m.lt), h.b.next hb, h.ne⟩
theorem HEx.offN {w w' : World} {mb d : Nat} {cs : List Value} {x : Ex} (h : HEx w (fun g => g ≠ mb) d cs x) (ho : Off [mb] w w') : HEx w' (fun g => g ≠ mb) d cs x :=
  h.mono ⟨ho.size, fun g hg hl => ho.block g hl (by simpa using hg)⟩ (fun _ h => h)
abbrev FV (tb : Nat) : Value := .func (.func 83) #[] #[.pointer (some ⟨tb, 0, none⟩)]

theorem cbk_any (w : World) (mb tb d : Nat) (cs : List Value) (x : Ex) (K : List (List UInt8)) (h : HEx w (fun g => g ≠ mb) (d + 1) cs x) (hv : Ev w mb tb K) (hK : K.length < 4194304) (A : List (List UInt8)) (hA : (if x.kind = 2 then [keyS x.text] else []) = A) :
    Calls Tryz.prog 83 #[.agg cs.toArray, .pointer (some ⟨tb, 0, none⟩)] w fun e w' => e = .returned (.tuple #[]) ∧ Ev w' mb tb (K ++ A) ∧ Off [mb] w w' := by
  obtain ⟨kv, cv, rfl, -, -, hts, -, f0, f1⟩ := h
  obtain ⟨p, cap, rfl, -⟩ := f0
  obtain ⟨pc, capc, rfl, -⟩ := f1
  have BA : Below w.heap.size w (w.alloc (.cells #[.int .i64 x.kind, .int .i64 x.n, .string x.text, .string x.mod, .slice p x.kids.length cap, .slice pc x.clauses.length capc] 73)) := (Below.refl _ _).alloc (Nat.le_refl _) _
  have HV : Hid (Ev (w.alloc (.cells #[.int .i64 x.kind, .int .i64 x.n, .string x.text, .string x.mod, .slice p x.kids.length cap, .slice pc x.clauses.length capc] 73)) mb tb K) := hv.next BA
  have HBA : Hid (Below w.heap.size w (w.alloc (.cells #[.int .i64 x.kind, .int .i64 x.n, .string x.text, .string x.mod, .slice p x.kids.length cap, .slice pc x.clauses.length capc] 73))) := BA
  have ct := HV.out.b.cell 0 _ rfl
  by_cases hk : x.kind = 2
  · rw [if_pos hk] at hA
    subst hA
    clear hv BA
    rw [hk] at HV HBA ct ⊢
    go_enter Tryz.func83, Tryz.ntmps83
    go_wp2_with fail
    refine (add_any _ mb K x.text HV.out.m hts (by unfold maxLen; omega)).mono ?_
    rintro e w1 ⟨rfl, hm1, ho1⟩
    have h1 : Ev w1 mb tb (K ++ [keyS x.text]) := ⟨by unfold keyS; rw [ByteArray.toList_eq]; exact hm1, (ho1.block tb HV.out.b.lt (by simpa using HV.out.ne)).trans HV.out.b, HV.out.ne⟩
    go_wp2_with fail
    go_end0
    exact ⟨rfl, h1, (Off.of_below HBA.out).trans ho1⟩
  · rw [if_neg hk] at hA
    subst hA
    rw [List.append_nil]
    have hkb : (x.kind == 2) = false := by simpa using hk
    clear hv BA
    go_enter Tryz.func83, Tryz.ntmps83
    go_wp2_with fail
    go_end0
    exact ⟨rfl, HV.out, Off.of_below HBA.out⟩

theorem HEx.shapeN {w : World} {S : Nat → Prop} {d : Nat} {cs : List Value} {x : Ex} (h : HEx w S d cs x) : ∃ sk sn st se p1 n1 q1 p2 n2 q2, cs = [.int .i64 sk, .int .i64 sn, .string st, .string se, .slice p1 n1 q1, .slice p2 n2 q2] := by
  cases d with
  | zero => exact h.elim
  | succ d =>
    obtain ⟨kv, cv, rfl, _, _, _, _, ⟨p1, c1, rfl, _⟩, ⟨p2, c2, rfl, _⟩⟩ := h
    exact ⟨_, _, _, _, _, _, _, _, _, _, rfl⟩
def EeC (d : Nat) : Prop := ∀ (w : World) (mb tb : Nat) (cs : List Value) (x : Ex) (K : List (List UInt8)), HEx w (fun g => g ≠ mb) d cs x → Ev w mb tb K → K.length + (varL d x).length ≤ 2097152 →
    Calls Tryz.prog 82 #[.agg cs.toArray, FV tb] w fun e w' => e = .returned (.tuple #[]) ∧ Ev w' mb tb (K ++ varL d x) ∧ Off [mb] w w'
def EoC (d : Nat) : Prop := ∀ (w : World) (mb tb : Nat) (v : Value) (es : List Ex) (K : List (List UInt8)), Rows w (fun g => g ≠ mb) 6 (HEx w (fun g => g ≠ mb) d) v es → Ev w mb tb K → K.length + (es.flatMap (varL d)).length ≤ 2097152 →
    Calls Tryz.prog 97 #[v, FV tb] w fun e w' => e = .returned (.tuple #[]) ∧ Ev w' mb tb (K ++ es.flatMap (varL d)) ∧ Off [mb] w w'

set_option maxHeartbeats 8000000 in
theorem eachOf_of {d : Nat} (hE : EeC d) : EoC d := by
  intro w mb tb v es K hr hv hK
  obtain ⟨p, cap, rfl, hcl, hcm, hx⟩ := hr
  have hnb : es.length ≤ 9223372036854775807 := by unfold maxLen at hcm; omega
  have HX : Hid (es ≠ [] → ∃ g off, p = some ⟨g, off, none⟩ ∧ g ≠ mb ∧ g < w.heap.size ∧ ∀ i x, es[i]? = some x → ∃ cs, cs.length = 6 ∧ (∀ j, j < 6 → w.cell? ⟨g, off + i * 6 + j, none⟩ = cs[j]?) ∧ HEx w (fun g => g ≠ mb) d cs x) := hx
  have HV : Hid (Ev w mb tb K) := hv
  have HK : Hid (K.length + (es.flatMap (varL d)).length ≤ 2097152) := hK
  generalize hn : es.length = n at *
  have HN : Hid (es.length = n) := hn
  clear hx hv hK hn
  go_enter Tryz.func97, Tryz.ntmps97
  go_wp2_with fail
  go_loopw [8] (fun iv wr => ∃ k : Nat, k ≤ n ∧ iv = .int .i64 k ∧ Hid (Ev wr mb tb (K ++ (es.take k).flatMap (varL d))) ∧ Hid (Off [mb] w wr)) (fun iv _ => n - (intOf iv).toNat)
  case atStart => exact ⟨0, Nat.zero_le _, rfl, by show Ev _ _ _ _; simpa using HV.out, Off.refl _ _⟩
  case round =>
    obtain ⟨k, hk, rfl, HVk, HOk⟩ := hrel
    by_cases hlt : k < n
    · obtain ⟨x, hxk⟩ : ∃ x, es[k]? = some x := ⟨es[k]'(by rw [HN.out]; exact hlt), List.getElem?_eq_getElem _⟩
      obtain ⟨g, off, rfl, hgm, hgl, hat⟩ := HX.out (by intro h; rw [h] at hxk; simp at hxk)
      obtain ⟨cs, hcsl, hcs, r1⟩ := hat k x hxk
      have E1 : Hid (HEx wr (fun g => g ≠ mb) d cs x) := r1.offN HOk.out
      obtain ⟨c0, c1, c2, c3, c4, c5, rfl⟩ := len6 hcsl
      have hge : wr.heap[g]? = w.heap[g]? := HOk.out.block g hgl (by simpa using hgm)
      have a0 := (World.cell?_of_block (a := ⟨g, off + k * 6 + 0, none⟩) hge).trans (hcs 0 (by omega))
      have a1 := (World.cell?_of_block (a := ⟨g, off + k * 6 + 1, none⟩) hge).trans (hcs 1 (by omega))
      have a2 := (World.cell?_of_block (a := ⟨g, off + k * 6 + 2, none⟩) hge).trans (hcs 2 (by omega))
      have a3 := (World.cell?_of_block (a := ⟨g, off + k * 6 + 3, none⟩) hge).trans (hcs 3 (by omega))
      have a4 := (World.cell?_of_block (a := ⟨g, off + k * 6 + 4, none⟩) hge).trans (hcs 4 (by omega))
      have a5 := (World.cell?_of_block (a := ⟨g, off + k * 6 + 5, none⟩) hge).trans (hcs 5 (by omega))
      simp at a0 a1 a2 a3 a4 a5
      have HJ : Hid (K ++ (es.take (k + 1)).flatMap (varL d) = K ++ (es.take k).flatMap (varL d) ++ varL d x) := by
        show _ = _
        rw [List.take_add_one, hxk]; simp
      have HKk : Hid ((K ++ (es.take k).flatMap (varL d)).length + (varL d x).length ≤ 2097152) := by
        have h1 := HK.out
        have h2 : (es.flatMap (varL d)) = (es.take k).flatMap (varL d) ++ (varL d x ++ (es.drop (k + 1)).flatMap (varL d)) := by
          have h3 : es = es.take k ++ x :: es.drop (k + 1) := by
            have h4 := List.take_append_drop k es
            rw [List.drop_eq_getElem_cons (by rw [HN.out]; exact hlt)] at h4
            have h5 : es[k]'(by rw [HN.out]; exact hlt) = x := (List.getElem?_eq_some_iff.1 hxk).2
            rw [h5] at h4
            exact h4.symm
          conv => lhs; rw [h3]
          simp
        rw [h2] at h1
        show _ ≤ _
        simp only [List.length_append] at h1 ⊢
        omega
      generalize K ++ (es.take k).flatMap (varL d) = Kk at *
      have hki : (k : Int) < (n : Int) := by omega
      have hk0 : (0 : Int) ≤ (k : Int) := by omega
      clear hat hcs hcsl r1 hge
      obtain ⟨sk, sn, st, se, p1, n1, q1, p2, n2, q2, hsh⟩ := HEx.shapeN E1.out
      simp only [List.cons.injEq, and_true] at hsh
      obtain ⟨rfl, rfl, rfl, rfl, rfl, rfl⟩ := hsh
      have HBA : Hid (Below wr.heap.size wr (wr.alloc (.cells #[.int .i64 sk, .int .i64 sn, .string st, .string se, .slice p1 n1 q1, .slice p2 n2 q2] 73))) := (Below.refl _ _).alloc (Nat.le_refl _) _
      go_wp2_with fail
      refine (hE _ mb tb _ x Kk (E1.out.offN (Off.of_below HBA.out)) (HVk.out.next HBA.out) HKk.out).mono ?_
      rintro e w1 ⟨rfl, hv1, ho1⟩
      go_wp2_with fail
      exact ⟨⟨k + 1, by omega, by go_num, by show Ev _ _ _ _; rw [HJ.out]; exact hv1, (HOk.out.trans (Off.of_below HBA.out)).trans ho1⟩, by simp [intOf]; omega⟩
    · have HS : Hid (Ev wr mb tb (K ++ es.flatMap (varL d))) := by
        have := HVk.out
        rwa [List.take_of_length_le (by rw [HN.out]; omega)] at this
      go_wp2_with fail
      go_end0
      exact ⟨rfl, HS.out, HOk.out⟩

set_option maxHeartbeats 8000000 in
theorem eachExp_of {d : Nat} (hO : EoC d) : EeC (d + 1) := by
  intro w mb tb cs x K h hv hK
  have HEX : Hid (HEx w (fun g => g ≠ mb) (d + 1) cs x) := h
  obtain ⟨kv, cv, rfl, -, -, hts, -, f0, f1⟩ := h
  obtain ⟨kx, nx, tx, mx, ks, cl⟩ := x
  simp only [Ex.kind, Ex.n, Ex.text, Ex.mod, Ex.kids, Ex.clauses] at *
  have hvl : varL (d + 1) (.mk kx nx tx mx ks cl) = (if kx = 2 then [keyS tx] else []) ++ (ks.flatMap (varL d) ++ cl.flatMap fun c => c.1.flatMap (varL d) ++ c.2.flatMap (varL d)) := rfl
  rw [hvl] at hK ⊢
  generalize hA : (if kx = 2 then [keyS tx] else ([] : List (List UInt8))) = A at hK ⊢
  have HA : Hid ((if kx = 2 then [keyS tx] else ([] : List (List UInt8))) = A) := hA
  simp only [List.length_append] at hK
  have F0 : Hid (Rows w (fun g => g ≠ mb) 6 (HEx w (fun g => g ≠ mb) d) kv ks) := f0
  obtain ⟨p, cap, rfl, -⟩ := id f0
  obtain ⟨pc, capc, rfl, hcl', hcm', hxc⟩ := f1
  have hnc : cl.length ≤ 9223372036854775807 := by unfold maxLen at hcm'; omega
  have HXC : Hid (cl ≠ [] → ∃ g off, pc = some ⟨g, off, none⟩ ∧ g ≠ mb ∧ g < w.heap.size ∧ ∀ i x, cl[i]? = some x → ∃ cs, cs.length = 2 ∧ (∀ j, j < 2 → w.cell? ⟨g, off + i * 2 + j, none⟩ = cs[j]?) ∧ HCl w (fun g => g ≠ mb) (HEx w (fun g => g ≠ mb) d) cs x) := hxc
  have HKK : Hid (K.length + (A.length + ((ks.flatMap (varL d)).length + (cl.flatMap fun c => c.1.flatMap (varL d) ++ c.2.flatMap (varL d)).length)) ≤ 2097152) := hK
  generalize hm : cl.length = nc at *
  have HNC : Hid (cl.length = nc) := hm
  have HBA : Hid (Below w.heap.size w (w.alloc (.cells #[.int .i64 kx, .int .i64 nx, .string tx, .string mx, .slice p ks.length cap, .slice pc nc capc] 73))) := (Below.refl _ _).alloc (Nat.le_refl _) _
  have HV : Hid (Ev (w.alloc (.cells #[.int .i64 kx, .int .i64 nx, .string tx, .string mx, .slice p ks.length cap, .slice pc nc capc] 73)) mb tb K) := hv.next HBA.out
  have bA : Hid (Blk (w.alloc (.cells #[.int .i64 kx, .int .i64 nx, .string tx, .string mx, .slice p ks.length cap, .slice pc nc capc] 73)) w.heap.size #[.int .i64 kx, .int .i64 nx, .string tx, .string mx, .slice p ks.length cap, .slice pc nc capc] 73) := Blk.new
  have hmb : mb ≠ w.heap.size := by have := hv.m.lt; omega
  clear f0 hxc hA hm hvl hv hK
  go_enter Tryz.func82, Tryz.ntmps82
  go_wp2_with fail
  refine (cbk_any _ mb tb d _ _ K (HEX.out.offN (Off.of_below HBA.out)) HV.out (by have := HKK.out; omega) A HA.out).mono ?_
  rintro e w1 ⟨rfl, hv1, ho1⟩
  have HV1 : Hid (Ev w1 mb tb (K ++ A)) := hv1
  have HO1 : Hid (Off [mb] w w1) := (Off.of_below HBA.out).trans ho1
  have b1 : Hid (Blk w1 w.heap.size #[.int .i64 kx, .int .i64 nx, .string tx, .string mx, .slice p ks.length cap, .slice pc nc capc] 73) := (ho1.block w.heap.size bA.out.lt (by simpa using fun e => hmb e.symm)).trans bA.out
  have x4 := b1.out.cell 4 _ rfl
  clear hv1 ho1 HV bA
  go_wp2_with fail
  refine (hO _ mb tb _ ks (K ++ A) (Rows.mono F0.out ⟨HO1.out.size, fun g hg hl => HO1.out.block g hl (by simpa using hg)⟩ (fun _ h => h) (fun _ _ _ h => HEx.offN h HO1.out)) HV1.out (by have := HKK.out; simp only [List.length_append]; omega)).mono ?_
  rintro e w2 ⟨rfl, hv2, ho2⟩
  have HV2 : Hid (Ev w2 mb tb (K ++ A ++ ks.flatMap (varL d))) := hv2
  have HO2 : Hid (Off [mb] w w2) := HO1.out.trans ho2
  have b2 : Hid (Blk w2 w.heap.size #[.int .i64 kx, .int .i64 nx, .string tx, .string mx, .slice p ks.length cap, .slice pc nc capc] 73) := (ho2.block w.heap.size b1.out.lt (by simpa using fun e => hmb e.symm)).trans b1.out
  have x5 := b2.out.cell 5 _ rfl
  clear hv2 ho2 x4 b1 HV1 HO1
  go_wp2_with fail
  go_loopw [16] (fun iv wr => ∃ k : Nat, k ≤ nc ∧ iv = .int .i64 k ∧ Hid (Ev wr mb tb (K ++ A ++ ks.flatMap (varL d) ++ (cl.take k).flatMap fun c => c.1.flatMap (varL d) ++ c.2.flatMap (varL d))) ∧ Hid (Off [mb] w wr)) (fun iv _ => nc - (intOf iv).toNat)
  case atStart => exact ⟨0, Nat.zero_le _, rfl, by show Ev _ _ _ _; simpa using HV2.out, HO2.out⟩
  case round =>
    obtain ⟨k, hk, rfl, HVk, HOk⟩ := hrel
    clear x5 HV2 HO2 b2
    by_cases hlt : k < nc
    · obtain ⟨c, hck⟩ : ∃ c, cl[k]? = some c := ⟨cl[k]'(by rw [HNC.out]; exact hlt), List.getElem?_eq_getElem _⟩
      obtain ⟨g, off, rfl, hgm, hgl, hat⟩ := HXC.out (by intro h; rw [h] at hck; simp at hck)
      obtain ⟨cs, hcsl, hcs, pv, bv, rfl, rp, rb⟩ := hat k c hck
      have SK : Hid (SameOn (fun g => g ≠ mb) w wr) := ⟨HOk.out.size, fun g hg hl => HOk.out.block g hl (by simpa using hg)⟩
      have RP : Hid (Rows wr (fun g => g ≠ mb) 6 (HEx wr (fun g => g ≠ mb) d) pv c.1) := Rows.mono rp SK.out (fun _ h => h) (fun _ _ _ h => HEx.offN h HOk.out)
      have RB : Hid (Rows wr (fun g => g ≠ mb) 6 (HEx wr (fun g => g ≠ mb) d) bv c.2) := Rows.mono rb SK.out (fun _ h => h) (fun _ _ _ h => HEx.offN h HOk.out)
      obtain ⟨pp, capp, rfl, -⟩ := rp
      obtain ⟨pb, capb, rfl, -⟩ := rb
      have hge : wr.heap[g]? = w.heap[g]? := HOk.out.block g hgl (by simpa using hgm)
      have a0 := (World.cell?_of_block (a := ⟨g, off + k * 2 + 0, none⟩) hge).trans (hcs 0 (by omega))
      have a1 := (World.cell?_of_block (a := ⟨g, off + k * 2 + 1, none⟩) hge).trans (hcs 1 (by omega))
      simp at a0 a1
      have HJ : Hid ((K ++ A ++ ks.flatMap (varL d) ++ (cl.take (k + 1)).flatMap fun c => c.1.flatMap (varL d) ++ c.2.flatMap (varL d)) = (K ++ A ++ ks.flatMap (varL d) ++ (cl.take k).flatMap fun c => c.1.flatMap (varL d) ++ c.2.flatMap (varL d)) ++ c.1.flatMap (varL d) ++ c.2.flatMap (varL d)) := by
        show _ = _
        rw [List.take_add_one, hck]; simp
      have HKk : Hid ((K ++ A ++ ks.flatMap (varL d) ++ (cl.take k).flatMap fun c => c.1.flatMap (varL d) ++ c.2.flatMap (varL d)).length + (c.1.flatMap (varL d)).length + (c.2.flatMap (varL d)).length ≤ 2097152) := by
        have h1 := HKK.out
        have h2 : (cl.flatMap fun c => c.1.flatMap (varL d) ++ c.2.flatMap (varL d)) = ((cl.take k).flatMap fun c => c.1.flatMap (varL d) ++ c.2.flatMap (varL d)) ++ ((c.1.flatMap (varL d) ++ c.2.flatMap (varL d)) ++ (cl.drop (k + 1)).flatMap fun c => c.1.flatMap (varL d) ++ c.2.flatMap (varL d)) := by
          have h3 : cl = cl.take k ++ c :: cl.drop (k + 1) := by
            have h4 := List.take_append_drop k cl
            rw [List.drop_eq_getElem_cons (by rw [HNC.out]; exact hlt)] at h4
            have h5 : cl[k]'(by rw [HNC.out]; exact hlt) = c := (List.getElem?_eq_some_iff.1 hck).2
            rw [h5] at h4
            exact h4.symm
          conv => lhs; rw [h3]
          simp
        rw [h2] at h1
        show _ ≤ _
        simp only [List.length_append] at h1 ⊢
        omega
      generalize (K ++ A ++ ks.flatMap (varL d) ++ (cl.take k).flatMap fun c => c.1.flatMap (varL d) ++ c.2.flatMap (varL d)) = Kk at *
      have hki : (k : Int) < (nc : Int) := by omega
      have hk0 : (0 : Int) ≤ (k : Int) := by omega
      have hmw : mb ≠ wr.heap.size := by have := HVk.out.m.lt; omega
      have HBC : Hid (Below wr.heap.size wr (wr.alloc (.cells #[.slice pp c.1.length capp, .slice pb c.2.length capb] 45))) := (Below.refl _ _).alloc (Nat.le_refl _) _
      have bC : Hid (Blk (wr.alloc (.cells #[.slice pp c.1.length capp, .slice pb c.2.length capb] 45)) wr.heap.size #[.slice pp c.1.length capp, .slice pb c.2.length capb] 45) := Blk.new
      clear hat hcs hcsl hge
      go_wp2_with fail
      refine (hO _ mb tb _ c.1 Kk (Rows.mono RP.out ⟨HBC.out.size, fun g _ hl => HBC.out.block g hl⟩ (fun _ h => h) (fun _ _ _ h => HEx.offN h (Off.of_below HBC.out))) (HVk.out.next HBC.out) (by have := HKk.out; omega)).mono ?_
      rintro e w3 ⟨rfl, hv3, ho3⟩
      have HV3 : Hid (Ev w3 mb tb (Kk ++ c.1.flatMap (varL d))) := hv3
      have HO3 : Hid (Off [mb] wr w3) := (Off.of_below HBC.out).trans ho3
      have b3 : Blk w3 wr.heap.size #[.slice pp c.1.length capp, .slice pb c.2.length capb] 45 := (ho3.block wr.heap.size bC.out.lt (by simpa using fun e => hmw e.symm)).trans bC.out
      have y1 := b3.cell 1 _ rfl
      clear hv3 ho3 bC b3 a0 a1
      go_wp2_with fail
      refine (hO _ mb tb _ c.2 (Kk ++ c.1.flatMap (varL d)) (Rows.mono RB.out ⟨HO3.out.size, fun g hg hl => HO3.out.block g hl (by simpa using hg)⟩ (fun _ h => h) (fun _ _ _ h => HEx.offN h HO3.out)) HV3.out (by have := HKk.out; simp only [List.length_append]; omega)).mono ?_
      rintro e w4 ⟨rfl, hv4, ho4⟩
      go_wp2_with fail
      exact ⟨⟨k + 1, by omega, by go_num, by show Ev _ _ _ _; rw [HJ.out]; exact hv4, (HOk.out.trans HO3.out).trans ho4⟩, by simp [intOf]; omega⟩
    · have HS : Hid (Ev wr mb tb (K ++ (A ++ (ks.flatMap (varL d) ++ cl.flatMap fun c => c.1.flatMap (varL d) ++ c.2.flatMap (varL d))))) := by
        have := HVk.out
        rw [List.take_of_length_le (by rw [HNC.out]; omega)] at this
        show Ev _ _ _ _
        simpa only [List.append_assoc] using this
      go_wp2_with fail
      go_end0
      exact ⟨rfl, HS.out, HOk.out⟩

theorem eachExp_all : ∀ d, EeC d
  | 0 => fun w mb tb cs x K h _ _ => h.elim
  | d + 1 => eachExp_of (eachOf_of (eachExp_all d))

/-- eachVar with the method that puts a name into a map. -/
theorem eachVar_any (w : World) (mb d : Nat) (cs : List Value) (x : Ex) (K : List (List UInt8)) (h : HEx w (fun g => g ≠ mb) d cs x) (hm : MapAt w mb K) (hK : K.length + (varL d x).length ≤ 2097152) :
    Calls Tryz.prog 62 #[.agg cs.toArray, .func (.func 63) #[.map (some mb)] #[]] w fun e w' => e = .returned (.tuple #[]) ∧ MapAt w' mb (K ++ varL d x) ∧ Off [mb] w w' := by
  obtain ⟨sk, sn, st, se, p1, n1, q1, p2, n2, q2, rfl⟩ := HEx.shapeN h
  have HH : Hid (HEx w (fun g => g ≠ mb) d [.int .i64 sk, .int .i64 sn, .string st, .string se, .slice p1 n1 q1, .slice p2 n2 q2] x) := h
  have HM : Hid (MapAt w mb K) := hm
  have hlt := hm.lt
  clear h hm
  go_enter Tryz.func62, Tryz.ntmps62
  go_wp2_with fail
  have hB : Below w.heap.size w ((w.alloc (.cells #[.int .i64 sk, .int .i64 sn, .string st, .string se, .slice p1 n1 q1, .slice p2 n2 q2] 73)).alloc (.cells #[.func (.func 63) #[.map (some mb)] #[]] 109)) := ((Below.refl _ _).alloc (Nat.le_refl _) _).alloc (by simp) _
  have hE : Ev ((w.alloc (.cells #[.int .i64 sk, .int .i64 sn, .string st, .string se, .slice p1 n1 q1, .slice p2 n2 q2] 73)).alloc (.cells #[.func (.func 63) #[.map (some mb)] #[]] 109)) mb (w.heap.size + 1) K := ⟨HM.out.keep (hB.block mb hlt), by
    have := Blk.new (w := w.alloc (.cells #[.int .i64 sk, .int .i64 sn, .string st, .string se, .slice p1 n1 q1, .slice p2 n2 q2] 73)) (cs := #[.func (.func 63) #[.map (some mb)] #[]]) (t := 109)
    rwa [alloc_hs] at this, by omega⟩
  refine (eachExp_all d _ mb (w.heap.size + 1) _ x K (HH.out.offN (Off.of_below hB)) hE hK).mono ?_
  rintro e w1 ⟨rfl, hv1, ho1⟩
  go_wp2_with fail
  go_end0
  exact ⟨rfl, hv1.m, (Off.of_below hB).trans ho1⟩
end Go.Proofs.YtoknolophmhlgaaGreatDoor
/-
  A range over a method value: the iterator's receiver is bound; the body never leaves the loop; what the iterator lays for itself lies on while the rounds go.
-/
namespace Go.Proofs.YtoknolophmhlgaaGreatDoor
open Go.ChangeShapes Go.WideShapes Go.ChangeAt Go.RowKit Go.Maps Go.WideMaps Go.Shelf
set_option linter.unusedVariables false
set_option maxRecDepth 100000

theorem grown_of {A B : World} (h : Below A.heap.size A B) : A.grownBy B none := ⟨h.os, h.tape, h.output, h.size, fun k hk _ => h.block k hk⟩

theorem range_bound {α : Type} {F : Fence} {n : Nat} {P : Program} {g : Operand} {ps : Array Tmp} {assign body : Code} {Q : Exit → Act → World → Prop} {a : Act} {w : World}
    (hro : F.round = none) (h1 : 1 ≤ n) {gf : Nat} {bs : Array Value} (hg : a.eval g = .func (.func gf) bs #[]) (hFg : F.fn gf) (eg : ∀ args w, (callFunc gf args).run P w = .ok (.enter gf args) w)
    {encs : α → Array Value} (hps : ∀ x, (encs x).size = ps.size) (xs : List α)
    (hseq : ∀ (l : Nat) (J : Option Nat → List α → World → Prop) (W : World), Below w.heap.size w W →
      (∀ q s A B, J q s A → Below A.heap.size A B → J q s B) →
      (∀ s A B b, J none s A → Below A.heap.size A B → A.heap.size ≤ b → b < B.heap.size → J (some b) s B) →
      (∀ q pre x W1, J q pre W1 → pre.length < xs.length → YieldAt F (n - 1 - 1) P l (encs x) W1 fun e W' => e = .returned (.bool true) ∧ J q (pre ++ [x]) W' ∧ ∀ b, q = some b → b < W1.heap.size → W'.heap[b]? = W1.heap[b]?) →
      J none [] W → CallsIn F (n - 1) P gf (bs ++ #[.func (.yield l) #[] #[]]) W fun e W' => (∃ v, e = .returned v) ∧ ∃ q, J q xs W')
    (I : Option Nat → List α → World → Prop) (hI : ∀ q, OwnFrom w.heap.size (I q)) (hIn : ∀ s A B b, I none s A → Below A.heap.size A B → A.heap.size ≤ b → b < B.heap.size → I (some b) s B) (h0 : I none [] w) (a₁ : α → Act)
    (hassign : ∀ (l : Nat) (x : α) (W : World) (K : Act → World → Prop), K (a₁ x) W →
      assign.wpIn (F.inRound l) (n - 1 - 1) P (Exit.then K (fun _ _ _ => False)) { tmps := (ps.zip (encs x)).foldl (fun t (p, v) => t.setIfInBounds p v) a.tmps, defers := [] } W)
    (hbody : ∀ (l : Nat) (q : Option Nat) (pre : List α) (x : α) (W : World), I q pre W → pre.length < xs.length →
      body.wpIn (F.inRound l) (n - 1 - 1) P (fun e _ W' => e = .normal ∧ KeepsOthers W W' ∧ I q (pre ++ [x]) W' ∧ ∀ b, q = some b → b < W.heap.size → W'.heap[b]? = W.heap[b]?) (a₁ x) W)
    (hdone : ∀ (D : Nat) (q : Option Nat) (W : World), w.heap.size ≤ D → I q xs W → W.heap[D]? = some (.deferred (some [])) → Q .normal { a with defers := { target := .collected D, args := #[] } :: a.defers } W) :
    (Code.rangeFunc g ps assign body).wpIn F n P Q a w := by
  refine wpIn_rangeFunc fun fn hfn => ?_
  rw [hro]
  obtain ⟨R, hR⟩ : ∃ R : LoopState → Loop, R = fun st => { state := st, pending := none, fn := fn, tmps := a.tmps, params := ps, assign := assign, body := body, defers := w.heap.size } := ⟨_, rfl⟩
  obtain ⟨L, hL⟩ : ∃ L, L = w.heap.size + 1 := ⟨_, rfl⟩
  obtain ⟨W1, hW1⟩ : ∃ W1, W1 = (w.alloc (.deferred (some []))).alloc (.loop (R .ready)) := ⟨_, rfl⟩
  have b1 : Below w.heap.size w W1 := by rw [hW1]; exact ((Below.refl _ w).alloc (Nat.le_refl _) _).alloc (by simp) _
  have l1 : W1.heap[L]? = some (.loop (R .ready)) := by
    have := World.alloc_heap_new (w.alloc (.deferred (some []))) (.loop (R .ready))
    rw [World.size_alloc] at this
    rw [hW1, hL]; exact this
  have k1 : W1.heap[w.heap.size]? = some (.deferred (some [])) := by rw [hW1]; exact (Below.heap_alloc _ _ _ (by simp)).trans (World.alloc_heap_new w _)
  have i1 : I none [] W1 := by rw [hW1]; exact (hI none).alloc _ ((hI none).alloc _ h0)
  have hLw : w.heap.size ≤ L := by omega
  have hLn : w.heap.size ≠ L := by omega
  refine ⟨L, [{ target := .collected w.heap.size, args := #[] }], W1, { target := .fn (.func gf) #[], args := bs ++ #[.func (.yield L) #[] #[]] }, W1, gf, bs ++ #[.func (.yield L) #[] #[]], W1, ?_, ?_, ?_, ?_, fun _ => h1, ?_⟩
  · rw [hW1, hR, hL]; exact run_enterLoop_outer _ _ _ _ _
  · simp only [resolve, hg]
    simp [go_sem]
  · intro f' hf'; simp [Target.leads] at hf'; subst hf'; exact hFg
  · simp [invoke, go_sem, eg]
  · refine (hseq L (fun q s W => I q s W ∧ W.heap[L]? = some (.loop (R .ready)) ∧ W.heap[w.heap.size]? = some (.deferred (some [])) ∧ ∀ b, q = some b → L < b) W1 b1 ?_ ?_ ?_ ⟨i1, l1, k1, fun b e => by cases e⟩).mono ?_
    · rintro q s A B ⟨ha, hb, hc, hd⟩ hAB
      exact ⟨hI q s A B none ha (grown_of hAB) (fun r e => by cases e), (hAB.block _ (Array.getElem?_eq_some_iff.1 hb).1).trans hb, (hAB.block _ (Array.getElem?_eq_some_iff.1 hc).1).trans hc, hd⟩
    · rintro s A B b ⟨ha, hb, hc, hd⟩ hAB hbs hbB
      exact ⟨hIn s A B b ha hAB hbs hbB, (hAB.block _ (Array.getElem?_eq_some_iff.1 hb).1).trans hb, (hAB.block _ (Array.getElem?_eq_some_iff.1 hc).1).trans hc, fun b' e => by cases e; have := (Array.getElem?_eq_some_iff.1 hb).1; omega⟩
    · rintro q pre x W ⟨hi, hl, hk, hq⟩ hlen
      have hlt : L < W.heap.size := (Array.getElem?_eq_some_iff.1 hl).1
      have hy := run_yield (P := P) (args := encs x) hl (by rw [hR]; exact hps x)
      rw [hR] at hy
      refine ⟨fn, _, assign, body, hy, roundIn_of_wpIn hfn (hassign _ x W _ ⟨_, run_beginRound hl (by rw [hR]), ?_⟩)⟩
      refine wpIn_mono (hbody _ q pre x _ ((hI q).putObj _ hi hLw hl rfl) hlen) ?_
      rintro e a3 W3 ⟨rfl, hk3, hi3, hq3⟩
      have hl2 := hk3.same L _ (World.putObj_heap_same hlt) rfl
      have hk2 := hk3.same w.heap.size _ ((World.putObj_heap_other hLn).trans hk) rfl
      have hr := run_endRound (P := P) none hl2
      refine ⟨_, _, hr, rfl, ⟨(hI q).putObj _ hi3 hLw hl2 rfl, ?_, (World.putObj_heap_other hLn).trans hk2, hq⟩, ?_⟩
      · rw [World.putObj_heap_same (Array.getElem?_eq_some_iff.1 hl2).1, hR]; rfl
      · intro b hb hbl
        have hbL : b ≠ L := by have := hq b hb; omega
        rw [World.putObj_heap_other hbL, hq3 b hb (by simpa using hbl), World.putObj_heap_other hbL]
    · rintro e W2 ⟨⟨v, rfl⟩, q, hi, hl, hk, -⟩
      have he := run_endLoop (P := P) hl (by rw [hR]; simp)
      refine ⟨none, _, by rw [hR] at he; exact he, hdone _ q _ (Nat.le_refl _) ((hI q).putObj _ hi hLw hl rfl) ((World.putObj_heap_other hLn).trans hk)⟩
end Go.Proofs.YtoknolophmhlgaaGreatDoor
/-
  The contracts on the sorted keys of a map, laid at this program.
-/
namespace Go.Proofs
open Go.Shelf
def Tryz.keys85_ren : Go.Shelf.Ren := ⟨fun | 7 => 85 | 10 => 100 | n => n, fun | 23 => 80 | 26 => 9 | 3 => 125 | 28 => 127 | 0 => 0 | 27 => 112 | 33 => 98 | 4 => 4 | n => n, fun | n => n⟩
theorem Tryz.keys85 : Go.Proofs.SlLaysZ.n7 Tryz.prog Tryz.keys85_ren := {
  mixed := by kernel_rfl
  f7 := ⟨Tryz.f85.name, by decide, Tryz.func85.trans (congrArg some (by kernel_rfl))⟩
  f10 := ⟨Tryz.f100.name, by decide, Tryz.func100.trans (congrArg some (by kernel_rfl))⟩
  t0 := Tryz.underlying0
  a0 := Tryz.isAgg0
  z0 := Tryz.sizeOf0
  v0 := Tryz.zeroValue0
  t4 := Tryz.underlying4
  a4 := Tryz.isAgg4
  z4 := Tryz.sizeOf4
  v4 := Tryz.zeroValue4
  t23 := Tryz.underlying80
  a23 := Tryz.isAgg80
  z23 := Tryz.sizeOf80
  v23 := Tryz.zeroValue80
  t26 := Tryz.underlying9
  a26 := Tryz.isAgg9
  z26 := Tryz.sizeOf9
  v26 := Tryz.zeroValue9
  t27 := Tryz.underlying112
  a27 := Tryz.isAgg112
  z27 := Tryz.sizeOf112
  v27 := Tryz.zeroValue112
  t28 := Tryz.underlying127
  a28 := Tryz.isAgg127
  z28 := Tryz.sizeOf127
  v28 := Tryz.zeroValue127
  t33 := Tryz.underlying98
  a33 := Tryz.isAgg98
  z33 := Tryz.sizeOf98
  v33 := Tryz.zeroValue98 }
def Tryz.sorted84_ren : Go.Shelf.Ren := ⟨fun | 6 => 84 | 8 => 98 | 9 => 99 | 11 => 112 | 13 => 114 | 12 => 113 | 23 => 129 | 24 => 130 | 14 => 120 | 15 => 121 | 16 => 122 | 17 => 123 | 18 => 124 | 19 => 125 | 20 => 126 | 21 => 127 | 22 => 128 | 25 => 134 | 26 => 135 | 27 => 136 | 28 => 137 | 29 => 138 | 30 => 139 | 31 => 143 | n => n, fun | 26 => 9 | 28 => 127 | 24 => 27 | 0 => 0 | 3 => 3 | 37 => 152 | 48 => 169 | 50 => 171 | 4 => 4 | 40 => 161 | 39 => 160 | 45 => 166 | 5 => 5 | 9 => 9 | 51 => 174 | 55 => 178 | 57 => 184 | 58 => 185 | 33 => 98 | n => n, fun | n => n⟩
theorem Tryz.sorted84 : Go.Proofs.SlLaysZ.n6 Tryz.prog Tryz.sorted84_ren := {
  mixed := by kernel_rfl
  f6 := ⟨Tryz.f84.name, by decide, Tryz.func84.trans (congrArg some (by kernel_rfl))⟩
  f8 := ⟨Tryz.f98.name, by decide, Tryz.func98.trans (congrArg some (by kernel_rfl))⟩
  f11 := ⟨Tryz.f112.name, by decide, Tryz.func112.trans (congrArg some (by kernel_rfl))⟩
  t0 := Tryz.underlying0
  a0 := Tryz.isAgg0
  z0 := Tryz.sizeOf0
  v0 := Tryz.zeroValue0
  t24 := Tryz.underlying27
  a24 := Tryz.isAgg27
  z24 := Tryz.sizeOf27
  v24 := Tryz.zeroValue27
  t26 := Tryz.underlying9
  a26 := Tryz.isAgg9
  z26 := Tryz.sizeOf9
  v26 := Tryz.zeroValue9
  t28 := Tryz.underlying127
  a28 := Tryz.isAgg127
  z28 := Tryz.sizeOf127
  v28 := Tryz.zeroValue127
  i26 := by kernel_rfl }
def Tryz.sort99_ren : Go.Shelf.Ren := ⟨fun | 6 => 99 | 8 => 114 | 9 => 113 | 19 => 129 | 20 => 130 | 21 => 120 | 22 => 121 | 23 => 122 | 24 => 123 | 25 => 124 | 26 => 125 | 27 => 126 | 28 => 127 | 29 => 128 | 36 => 134 | 31 => 135 | 32 => 136 | 37 => 137 | 38 => 138 | 39 => 139 | 41 => 143 | n => n, fun | 27 => 27 | 29 => 9 | 3 => 3 | 32 => 152 | 26 => 27 | 0 => 0 | 44 => 169 | 46 => 171 | 4 => 4 | 36 => 161 | 35 => 160 | 41 => 166 | 5 => 5 | 9 => 9 | 53 => 174 | 57 => 178 | 63 => 184 | 64 => 185 | n => n, fun | n => n⟩
theorem Tryz.sort99 : Go.Proofs.SlLaysM.n6 Tryz.prog Tryz.sort99_ren := {
  mixed := by kernel_rfl
  f6 := ⟨Tryz.f99.name, by decide, Tryz.func99.trans (congrArg some (by kernel_rfl))⟩
  f8 := Tryz.func114.trans (congrArg some (by kernel_rfl))
  f9 := ⟨Tryz.f113.name, by decide, Tryz.func113.trans (congrArg some (by kernel_rfl))⟩
  f19 := Tryz.func129.trans (congrArg some (by kernel_rfl))
  f20 := Tryz.func130.trans (congrArg some (by kernel_rfl))
  f21 := ⟨Tryz.f120.name, by decide, Tryz.func120.trans (congrArg some (by kernel_rfl))⟩
  f22 := ⟨Tryz.f121.name, by decide, Tryz.func121.trans (congrArg some (by kernel_rfl))⟩
  f23 := ⟨Tryz.f122.name, by decide, Tryz.func122.trans (congrArg some (by kernel_rfl))⟩
  f24 := ⟨Tryz.f123.name, by decide, Tryz.func123.trans (congrArg some (by kernel_rfl))⟩
  f25 := ⟨Tryz.f124.name, by decide, Tryz.func124.trans (congrArg some (by kernel_rfl))⟩
  f26 := ⟨Tryz.f125.name, by decide, Tryz.func125.trans (congrArg some (by kernel_rfl))⟩
  f27 := ⟨Tryz.f126.name, by decide, Tryz.func126.trans (congrArg some (by kernel_rfl))⟩
  f28 := ⟨Tryz.f127.name, by decide, Tryz.func127.trans (congrArg some (by kernel_rfl))⟩
  f29 := ⟨Tryz.f128.name, by decide, Tryz.func128.trans (congrArg some (by kernel_rfl))⟩
  f31 := Tryz.func135.trans (congrArg some (by kernel_rfl))
  f32 := Tryz.func136.trans (congrArg some (by kernel_rfl))
  f36 := ⟨Tryz.f134.name, by decide, Tryz.func134.trans (congrArg some (by kernel_rfl))⟩
  f37 := ⟨Tryz.f137.name, by decide, Tryz.func137.trans (congrArg some (by kernel_rfl))⟩
  f38 := ⟨Tryz.f138.name, by decide, Tryz.func138.trans (congrArg some (by kernel_rfl))⟩
  f39 := ⟨Tryz.f139.name, by decide, Tryz.func139.trans (congrArg some (by kernel_rfl))⟩
  f41 := ⟨Tryz.f143.name, by decide, Tryz.func143.trans (congrArg some (by kernel_rfl))⟩
  t0 := Tryz.underlying0
  a0 := Tryz.isAgg0
  z0 := Tryz.sizeOf0
  v0 := Tryz.zeroValue0
  t3 := Tryz.underlying3
  a3 := Tryz.isAgg3
  z3 := Tryz.sizeOf3
  v3 := Tryz.zeroValue3
  t4 := Tryz.underlying4
  a4 := Tryz.isAgg4
  z4 := Tryz.sizeOf4
  v4 := Tryz.zeroValue4
  t5 := Tryz.underlying5
  a5 := Tryz.isAgg5
  z5 := Tryz.sizeOf5
  v5 := Tryz.zeroValue5
  t9 := Tryz.underlying9
  a9 := Tryz.isAgg9
  z9 := Tryz.sizeOf9
  v9 := Tryz.zeroValue9
  t26 := Tryz.underlying27
  a26 := Tryz.isAgg27
  z26 := Tryz.sizeOf27
  v26 := Tryz.zeroValue27
  t27 := Tryz.underlying27
  a27 := Tryz.isAgg27
  z27 := Tryz.sizeOf27
  v27 := Tryz.zeroValue27
  t29 := Tryz.underlying9
  a29 := Tryz.isAgg9
  z29 := Tryz.sizeOf9
  v29 := Tryz.zeroValue9
  t32 := Tryz.underlying152
  a32 := Tryz.isAgg152
  z32 := Tryz.sizeOf152
  v32 := Tryz.zeroValue152
  t35 := Tryz.underlying160
  a35 := Tryz.isAgg160
  z35 := Tryz.sizeOf160
  v35 := Tryz.zeroValue160
  t36 := Tryz.underlying161
  a36 := Tryz.isAgg161
  z36 := Tryz.sizeOf161
  v36 := Tryz.zeroValue161
  t41 := Tryz.underlying166
  a41 := Tryz.isAgg166
  z41 := Tryz.sizeOf166
  v41 := Tryz.zeroValue166
  t44 := Tryz.underlying169
  a44 := Tryz.isAgg169
  z44 := Tryz.sizeOf169
  v44 := Tryz.zeroValue169
  t46 := Tryz.underlying171
  a46 := Tryz.isAgg171
  z46 := Tryz.sizeOf171
  v46 := Tryz.zeroValue171
  t53 := Tryz.underlying174
  a53 := Tryz.isAgg174
  z53 := Tryz.sizeOf174
  v53 := Tryz.zeroValue174
  t57 := Tryz.underlying178
  a57 := Tryz.isAgg178
  z57 := Tryz.sizeOf178
  v57 := Tryz.zeroValue178
  t63 := Tryz.underlying184
  a63 := Tryz.isAgg184
  z63 := Tryz.sizeOf184
  v63 := Tryz.zeroValue184
  t64 := Tryz.underlying185
  a64 := Tryz.isAgg185
  z64 := Tryz.sizeOf185
  v64 := Tryz.zeroValue185 }
open Go.RowKit Go.Maps Go.Sort Go.Shelf


theorem Tryz.sorts84 (m : Nat) : AnyZ.SortsIn Tryz.prog Tryz.sorted84_ren Fence.wide m :=
  ⟨fun blk off cap ss W hH hblk hsz => callsIn_wide.2 (AnyM.slices_Sort_string Tryz.sort99 blk off cap ss W hH hblk hsz),
   fun p cap W => callsIn_wide.2 (AnyM.slices_Sort_string_none Tryz.sort99 p cap W)⟩

theorem Tryz.maps_Keys_85 (mb : Option Nat) (W : World) : CallsIn Fence.wide 5 Tryz.prog 85 #[.map mb] W fun e w' => e = .returned (.func (.func 100) #[] #[.pointer (some ⟨W.heap.size, 0, none⟩)]) ∧ w' = W.alloc (.cells #[.map mb] 80) :=
  AnyZ.keys_in Tryz.keys85 Fence.wide 5 trivial rfl mb W

set_option maxHeartbeats 1000000 in
theorem Tryz.slices_Sorted_keys_84_85 {H : Type} (b nn : Nat) (D0 : DataW H) (R : Value → Option (DataW H × List MemPlace)) (w : World) (hown : w.ownsMap Tryz.prog 9 R b nn D0) (hmax : Maps.size D0 ≤ maxLen) (hbytes : Maps.size D0 * 16 ≤ 140737488355328) :
    CallsIn Fence.wide 5 Tryz.prog 84 #[.func (.func 100) #[] #[.pointer (some ⟨w.heap.size, 0, none⟩)]] (w.alloc (.cells #[.map (some b)] 80)) fun e w' => ∃ (v : Value) (ss : List (List UInt8)), e = .returned v ∧ ss.Perm (strKeys D0) ∧
      w'.ownsRow (w.alloc (.cells #[.map (some b)] 80)).heap.size 9 1 v ss.length ((ss.mergeSort (fun x y => decide (x ≤ y))).map encStr) ∧ (v = .slice none 0 0 ↔ ss = []) ∧ Below (w.alloc (.cells #[.map (some b)] 80)).heap.size (w.alloc (.cells #[.map (some b)] 80)) w' := by
  have hbl := hown.lt
  have hseq : SeqGives Fence.wide 2 Tryz.prog 100 #[.pointer (some ⟨w.heap.size, 0, none⟩)] encStr (fun ss => ss.Perm (strKeys D0)) (Maps.size D0) (w.alloc (.cells #[.map (some b)] 80)) :=
    AnyZ.keys_gives (ρ := Tryz.keys85_ren) { Tryz.keys85 with } Fence.wide _ trivial rfl (by omega) w.heap.size b nn D0 _ (by simp) (by simp) (by
      obtain ⟨es, clock, hb, Ft, hs, hD⟩ := hown
      exact ⟨es, clock, (Below.heap_alloc _ _ b hbl).trans hb, Ft, hs, hD⟩)
  exact AnyZ.sorted_in Tryz.sorted84 Fence.wide 5 trivial trivial trivial trivial rfl (by omega) (Tryz.sorts84 _) (enters_of Tryz.func99 (by kernel_rfl) rfl) 100 #[.pointer (some ⟨w.heap.size, 0, none⟩)] trivial (enters_of Tryz.func100 (by kernel_rfl) rfl) _ _ hmax hbytes _ hseq

set_option maxHeartbeats 1000000 in
theorem Tryz.slices_Sorted_keys_nil_84_85 (w : World) :
    CallsIn Fence.wide 5 Tryz.prog 84 #[.func (.func 100) #[] #[.pointer (some ⟨w.heap.size, 0, none⟩)]] (w.alloc (.cells #[.map none] 80)) fun e w' => ∃ (v : Value) (ss : List (List UInt8)), e = .returned v ∧ ss = [] ∧
      w'.ownsRow (w.alloc (.cells #[.map none] 80)).heap.size 9 1 v ss.length ((ss.mergeSort (fun x y => decide (x ≤ y))).map encStr) ∧ (v = .slice none 0 0 ↔ ss = []) ∧ Below (w.alloc (.cells #[.map none] 80)).heap.size (w.alloc (.cells #[.map none] 80)) w' := by
  have hseq : SeqGives Fence.wide 2 Tryz.prog 100 #[.pointer (some ⟨w.heap.size, 0, none⟩)] encStr (fun ss : List (List UInt8) => ss = []) 0 (w.alloc (.cells #[.map none] 80)) :=
    AnyZ.keys_gives_nil (ρ := Tryz.keys85_ren) { Tryz.keys85 with } Fence.wide _ trivial rfl w.heap.size _ (by simp) (by simp)
  exact AnyZ.sorted_in Tryz.sorted84 Fence.wide 5 trivial trivial trivial trivial rfl (by omega) (Tryz.sorts84 _) (enters_of Tryz.func99 (by kernel_rfl) rfl) 100 #[.pointer (some ⟨w.heap.size, 0, none⟩)] trivial (enters_of Tryz.func100 (by kernel_rfl) rfl) _ 0 (Nat.zero_le _) (by omega) _ hseq
end Go.Proofs
/-
  The program's names.ascending, by contract.
-/
namespace Go.Proofs.YtoknolophmhlgaaGreatDoor
open Go.ChangeShapes Go.WideShapes Go.ChangeAt Go.RowKit Go.Maps Go.WideMaps Go.Shelf Go.Sort
set_option linter.unusedVariables false
set_option maxRecDepth 100000
attribute [local go_sem] Oper.semAt_some

/-- The names of a map, ascending. -/
def keysD (D : DataW Unit) : List (List UInt8) := (strKeys D).mergeSort (fun x y => decide (x ≤ y))
theorem keysD_len (D : DataW Unit) : (keysD D).length ≤ Maps.size D := by
  unfold keysD
  rw [List.length_mergeSort]
  cases D <;> simp [strKeys, Maps.size]
def keysL (K : List (List UInt8)) : List (List UInt8) := keysD (setD K)
structure SetOk (D : DataW Unit) : Prop where
  tidy : Tidy D
  keys : ∀ es, D = .map es → ∀ p ∈ es, ∃ x, p.1 = .string x
theorem put_ok {D : DataW Unit} (h : SetOk D) (x : List UInt8) : SetOk (D.put (.string x) (.agg [])) := by
  refine ⟨h.tidy.put (k := .string x) trivial _, fun es he p hp => ?_⟩
  obtain ⟨es0, rfl, hp0⟩ := h.tidy
  have he' : DataW.insert (Lit.string x, DataW.agg []) (es0.filter fun p => !p.1.sameKey (.string x)) = es := by simpa [DataW.put] using he
  rw [← he'] at hp
  have hp2 := ((insert_perm (Lit.string x, (DataW.agg [] : DataW Unit)) (es0.filter fun p => !p.1.sameKey (.string x))).mem_iff).1 hp
  rcases List.mem_cons.1 hp2 with rfl | hp2
  · exact ⟨x, rfl⟩
  · exact h.keys es0 rfl p (List.mem_filter.1 hp2).1
theorem setD_from : ∀ (K : List (List UInt8)) (D : DataW Unit), SetOk D → SetOk (K.foldl (fun D x => D.put (.string x) (.agg [])) D) ∧ Maps.size (K.foldl (fun D x => D.put (.string x) (.agg [])) D) ≤ Maps.size D + K.length ∧
    ∀ z, has (K.foldl (fun D x => D.put (.string x) (.agg [])) D) (.string z) = true ↔ has D (.string z) = true ∨ z ∈ K
  | [], D, h => ⟨h, by simp, fun z => by simp⟩
  | x :: xs, D, h => by
    obtain ⟨h1, h2, h3⟩ := setD_from xs _ (put_ok h x)
    refine ⟨h1, ?_, fun z => ?_⟩
    · have := size_put (k := .string x) h.tidy (.agg [])
      have h4 : Maps.size (D.put (.string x) (.agg [])) ≤ Maps.size D + 1 := by rw [this]; split <;> omega
      simp only [List.foldl_cons, List.length_cons]
      omega
    · rw [List.foldl_cons, h3 z]
      by_cases hz : z = x
      · subst hz
        have hm : IsMap D := by obtain ⟨es, rfl, _⟩ := h.tidy; exact ⟨es, rfl⟩
        simp [has_put_same hm (k := Lit.string z) trivial]
      · rw [has_put_other (by intro e; cases e; exact hz rfl)]
        simp [hz]
theorem setD_ok (K : List (List UInt8)) : SetOk (setD K) ∧ Maps.size (setD K) ≤ K.length ∧ ∀ z, has (setD K) (.string z) = true ↔ z ∈ K := by
  obtain ⟨h1, h2, h3⟩ := setD_from K (.map []) ⟨⟨[], rfl, List.Pairwise.nil⟩, fun es he p hp => by cases he; cases hp⟩
  refine ⟨h1, by (have h4 : Maps.size (DataW.map ([] : List (Lit × DataW Unit))) = 0 := rfl; rw [h4] at h2; unfold setD; omega), fun z => (h3 z).trans ?_⟩
  simp [has_eq]
theorem setD_size (K : List (List UInt8)) : Maps.size (setD K) ≤ K.length := (setD_ok K).2.1
/-- The keys are just the names, each once. -/
theorem setD_perm (K ss : List (List UInt8)) (hnd : ss.Nodup) (hm : ∀ x, x ∈ ss ↔ x ∈ K) : ss.Perm (strKeys (setD K)) := by
  obtain ⟨h1, -, h3⟩ := setD_ok K
  obtain ⟨es, he, hp⟩ := h1.tidy
  have hk := h1.keys es he
  rw [he] at h3 ⊢
  exact perm_strKeys hp hk hnd (fun x => (hm x).trans (h3 x).symm)
theorem keysL_len (K : List (List UInt8)) : (keysL K).length ≤ K.length := Nat.le_trans (keysD_len _) (setD_size K)
theorem srow {w : World} {B : Nat} {v : Value} {L : List (List UInt8)} {n : Nat} (hn : L.length = n) (h : w.ownsRow B 9 1 v n (L.map encStr)) :
    ∃ p cap, v = .slice p n cap ∧ (∀ a, p = some a → B ≤ a.block ∧ a.block < w.heap.size) ∧ ∀ k x, L[k]? = some x → ∃ b, p = some ⟨b, 0, none⟩ ∧ B ≤ b ∧ b < w.heap.size ∧ w.cell? ⟨b, k, none⟩ = some (encStr x) := by
  rcases h.2 with ⟨rfl, h0⟩ | ⟨g, cap, cur, rfl, hB, hg, hr⟩
  · refine ⟨none, 0, by rw [h0], fun a e => by (cases e), fun k x hx => ?_⟩
    have := (List.getElem?_eq_some_iff.1 hx).1
    omega
  · refine ⟨_, cap, rfl, fun a e => by (cases e; exact ⟨hB, (Array.getElem?_eq_some_iff.1 hg).1⟩), fun k x hx => ⟨g, rfl, hB, (Array.getElem?_eq_some_iff.1 hg).1, ?_⟩⟩
    have := (List.getElem?_eq_some_iff.1 hx).1
    rw [h.cellAt k (by omega)]
    simp [hx]

theorem blk_lt {A B : World} {b : Nat} (h : B.heap[b]? = A.heap[b]?) (hb : b < A.heap.size) : b < B.heap.size := by
  rw [Array.getElem?_eq_getElem hb] at h
  exact (Array.getElem?_eq_some_iff.1 h).1
def blkOf : Option Addr → Option Nat
  | some a => some a.block
  | none => none

set_option maxHeartbeats 4000000 in
theorem asc_in {R : Value → Option (DataW Unit × List MemPlace)} (l mb nn : Nat) (D : DataW Unit) (W0 : World) (hm : W0.ownsMap Tryz.prog 9 R mb nn D) (hsz : Maps.size D ≤ 4194304) (J : Option Nat → List (List UInt8) → World → Prop)
    (hJb : ∀ q s A B, J q s A → Below A.heap.size A B → J q s B) (hJn : ∀ s A B b, J none s A → Below A.heap.size A B → A.heap.size ≤ b → b < B.heap.size → J (some b) s B)
    (hY : ∀ q pre x W1, J q pre W1 → pre.length < (keysD D).length → YieldAt Fence.wide 5 Tryz.prog l #[encStr x] W1 fun e W' => e = .returned (.bool true) ∧ J q (pre ++ [x]) W' ∧ ∀ b, q = some b → b < W1.heap.size → W'.heap[b]? = W1.heap[b]?)
    (h0 : J none [] W0) :
    CallsIn Fence.wide 6 Tryz.prog 65 #[.map (some mb), .func (.yield l) #[] #[]] W0 fun e W' => (∃ v, e = .returned v) ∧ ∃ q, J q (keysD D) W' := by
  have hmax : Maps.size D ≤ maxLen := by unfold maxLen; omega
  have hbytes : Maps.size D * 16 ≤ 140737488355328 := by omega
  have hfK : Fence.wide.fn 85 := trivial
  have hfS : Fence.wide.fn 84 := trivial
  refine callsIn_of_wp Tryz.func65 rfl trivial ?_ rfl
  simp only [Tryz.ntmps65, List.size_toArray, List.length_cons, List.length_nil, Nat.reduceAdd, Nat.reduceSub, Array.replicate_succ, Array.replicate_zero, List.push_toArray, List.append_toArray, List.nil_append, List.cons_append]
  gi_wp2_with (first
    | (gi_at_call 85; refine (Tryz.maps_Keys_85 _ _).mono ?_; rintro e w' ⟨rfl, rfl⟩)
    | (gi_at_call 84; refine (Tryz.slices_Sorted_keys_84_85 mb nn D R W0 hm hmax hbytes).mono ?_; rintro e w' ⟨v, ss, rfl, hS, hrow, hnil, hb⟩; obtain ⟨p, cap, rfl, hpb, hat⟩ := srow (by simp) hrow))
  have hL : (ss.mergeSort fun x y => decide (x ≤ y)) = keysD D := mergeSort_of_perm hS
  rw [hL] at hat
  have hn : ss.length = (keysD D).length := by rw [← hL, List.length_mergeSort]
  have hBW : Below W0.heap.size W0 w' := ((Below.refl _ W0).alloc (Nat.le_refl _) _).trans (hb.mono (by simp))
  have hJ1 : J (blkOf p) [] w' := by
    cases p with
    | none => exact hJb _ _ _ _ h0 hBW
    | some a => exact hJn _ _ _ a.block h0 hBW (by have := (hpb a rfl).1; simp at this; omega) (hpb a rfl).2
  have HKL : Hid ((keysD D).length ≤ Maps.size D) := keysD_len D
  have HAT : Hid (∀ k x, (keysD D)[k]? = some x → ∃ b, p = some ⟨b, 0, none⟩ ∧ b < w'.heap.size ∧ w'.cell? ⟨b, k, none⟩ = some (encStr x)) := fun k x hx => by
    obtain ⟨b, e1, e2, e3, e4⟩ := hat k x hx
    exact ⟨b, e1, e3, e4⟩
  have HPB : Hid (∀ b, blkOf p = some b → b < w'.heap.size) := fun b e => by
    cases p with
    | none => cases e
    | some a => cases e; exact (hpb a rfl).2
  clear hat hpb hnil hrow hL hS hb hBW h0 hm hmax hbytes
  generalize ss.length = n at *
  have HN : Hid (n = (keysD D).length) := hn
  have hnb : n ≤ 9223372036854775807 := by have := HKL.out; omega
  clear hn
  gi_loopw [10] (fun iv wr => ∃ k : Nat, k ≤ n ∧ iv = .int .i64 k ∧ Hid (J (blkOf p) ((keysD D).take k) wr) ∧ Hid (∀ b, blkOf p = some b → b < wr.heap.size ∧ wr.heap[b]? = w'.heap[b]?)) (fun iv _ => n - (intOf iv).toNat)
  case atStart => exact ⟨0, Nat.zero_le _, rfl, hJ1, fun b e => ⟨HPB.out b e, rfl⟩⟩
  case round =>
    obtain ⟨k, hk, rfl, HJ, HB⟩ := hrel
    by_cases hlt : k < n
    · obtain ⟨x, hx⟩ : ∃ x, (keysD D)[k]? = some x := ⟨(keysD D)[k]'(by rw [← HN.out]; exact hlt), List.getElem?_eq_getElem _⟩
      obtain ⟨b, rfl, hbl, hc0⟩ := HAT.out k x hx
      have hc := (World.cell?_of_block (a := ⟨b, k, none⟩) (HB.out b rfl).2).trans hc0
      have HT : Hid ((keysD D).take (k + 1) = (keysD D).take k ++ [x]) := by show _ = _; rw [List.take_add_one, hx]; rfl
      obtain ⟨fn, tmps, assign, body, hy, hR⟩ := hY _ _ x wr HJ.out (by rw [List.length_take, ← HN.out]; omega)
      have hki : (k : Int) < (n : Int) := by omega
      have hk0 : (0 : Int) ≤ (k : Int) := by omega
      clear hc0
      gi_wp2
      refine hR.mono ?_
      rintro e W3 ⟨rfl, hJ3, hk3⟩
      gi_wp2
      go_roundw
      case rel => exact ⟨k + 1, by omega, by go_num, by show J _ _ _; rw [HT.out]; exact hJ3, fun b' e => by cases e; exact ⟨blk_lt (hk3 b rfl (HB.out b rfl).1) (HB.out b rfl).1, (hk3 b rfl (HB.out b rfl).1).trans (HB.out b rfl).2⟩⟩
      case measure => simp [intOf]; omega
    · have HS : J (blkOf p) (keysD D) wr := by
        have := HJ.out
        rwa [List.take_of_length_le (by rw [← HN.out]; omega)] at this
      gi_wp2
      go_end0
      exact ⟨⟨_, rfl⟩, _, HS⟩
end Go.Proofs.YtoknolophmhlgaaGreatDoor
/-
  The program's names.list, by contract.
-/
namespace Go.Proofs.YtoknolophmhlgaaGreatDoor
open Go.ChangeShapes Go.WideShapes Go.ChangeAt Go.RowKit Go.Maps Go.WideMaps Go.Shelf Go.Sort
set_option linter.unusedVariables false
set_option maxRecDepth 100000
attribute [local go_sem] Oper.semAt_some

theorem info_strN : (Tryz.prog.info? 9).map (fun i => (i.zero, i.size, i.bytes)) = some (some (.string ⟨#[]⟩), 1, 16) := by kernel_rfl

theorem owns_keep {R : Value → Option (DataW Unit × List MemPlace)} {w w' : World} {mb nn : Nat} {D : DataW Unit} (h : w.ownsMap Tryz.prog 9 R mb nn D) (he : w'.heap[mb]? = w.heap[mb]?) : w'.ownsMap Tryz.prog 9 R mb nn D := by
  obtain ⟨es, clock, h1, h2⟩ := h
  exact ⟨es, clock, he.trans h1, h2⟩
set_option maxHeartbeats 4000000 in
theorem list_in {R : Value → Option (DataW Unit × List MemPlace)} (w : World) (mb nn : Nat) (D : DataW Unit) (hm : w.ownsMap Tryz.prog 9 R mb nn D) (hK : nn ≤ 4194304) (hsD : Maps.size D ≤ 4194304) :
    Calls Tryz.prog 42 #[.map (some mb)] w fun e w' => ∃ u, e = .returned u ∧ w'.ownsRow w.heap.size 9 1 u (keysD D).length ((keysD D).map encStr) ∧ Below w.heap.size w w' := by
  refine (callsIn_wide (n := 7)).1 ?_
  obtain ⟨i0, hi, hz0, hz1, hz2⟩ := info_parts info_strN
  have HM : Hid (w.ownsMap Tryz.prog 9 R mb nn D) := hm
  have hlt0 : mb < w.heap.size := hm.lt
  obtain ⟨es, clock, hes, -, hsz, -⟩ := hm
  have hsz2 : es.size ≤ 4194304 := Nat.le_trans hsz hK
  have hlen : ∀ ty, (Builtin.len_ #[80] ty #[.map (some mb)]).run Tryz.prog w = .ok (goInt es.size) w := fun ty => run_len_map (w := w) 80 ty mb es clock Tryz.underlying80 hes
  clear hsz
  refine callsIn_of_wp_marks Tryz.func42 rfl trivial ?_ rfl
  simp only [Tryz.ntmps42, List.size_toArray, List.length_cons, List.length_nil, Nat.reduceAdd, Nat.reduceSub, Array.replicate_succ, Array.replicate_zero, List.push_toArray, List.append_toArray, List.nil_append, List.cons_append]
  gi_wp2_with (gi_at_make; refine wpListIn_make_own _ rfl _ _ 27 rfl w.heap.size 9 i0 (.string ⟨#[]⟩) 1 Tryz.underlying27 hi hz0 hz1 .i64 .i64 _ es.size rfl rfl rfl (by rw [hz2]; omega) (by unfold maxLen; omega) (Nat.le_refl _) ?_; intro w1 hrow hgrow)
  have bO := Boxed.new w1 27 (.slice (some ⟨w.heap.size, 0, none⟩) 0 es.size)
  have hle := hgrow.size
  have hB1 : Below w.heap.size w w1 := ⟨hgrow.os, hgrow.tape, hgrow.output, hgrow.size, fun j hj => hgrow.block j hj (by simp)⟩
  have hB0 : Below w.heap.size w (w1.alloc (.cells #[.slice (some ⟨w.heap.size, 0, none⟩) 0 es.size] 27)) := hB1.alloc hle _
  refine range_bound rfl (by omega) (gf := 65) (bs := #[.map (some mb)]) rfl trivial (enters_of Tryz.func65 (by kernel_rfl) rfl)
    (encs := fun x : List UInt8 => #[encStr x]) (fun _ => rfl) (keysD D)
    (fun l J W hW hJb hJn hY h0 => asc_in l mb nn D W (owns_keep HM.out ((hW.block mb (by have := hB0.size; omega)).trans (hB0.block mb hlt0))) hsD J hJb hJn hY h0)
    (fun q pre W => ((∃ v, Boxed W w1.heap.size 27 v ∧ W.ownsRow w.heap.size 9 1 v pre.length (pre.map encStr) ∧ ∀ b, q = some b → v.ownBlock ≠ some b ∧ b ≠ w1.heap.size) ∧ Below w.heap.size w W) ∧ ∀ b, q = some b → b < W.heap.size)
    (fun q => OwnFrom.and (OwnFrom.and (Own.from (holdsRow_own w.heap.size w1.heap.size 27 9 1 (fun pre : List (List UInt8) => pre.length) (fun pre => pre.map encStr) (fun pre v => ∀ b, q = some b → v.ownBlock ≠ some b ∧ b ≠ w1.heap.size)) _) (ownFrom_below (Nat.le_refl _) (by simp; omega)))
      (fun s A B row hs hg hr b e => Nat.lt_of_lt_of_le (hs b e) hg.size))
    ?new ⟨⟨⟨_, bO, hrow.alloc _, fun b e => by cases e⟩, hB0⟩, fun b e => by cases e⟩
    (fun x => { tmps := #[.map (some mb), undef, .slice none 0 0, .pointer (some ⟨w1.heap.size, 0, none⟩), encStr x, .map (some mb), .int .i64 es.size, .slice (some ⟨w.heap.size, 0, none⟩) 0 es.size, .map (some mb), .func (.func 65) #[.map (some mb)] #[], encStr x, undef, undef, undef, undef, undef], defers := [] }) ?assign ?body ?done
  case new =>
    rintro s A B b ⟨⟨⟨v, h1, h2, -⟩, h3⟩, -⟩ hAB hb hbB
    refine ⟨⟨⟨v, h1.kept (grown_of hAB) (by simp), h2.kept (grown_of hAB) (Classical.em _), fun b' e => ?_⟩, h3.trans (hAB.mono h3.size)⟩, fun b' e => by cases e; exact hbB⟩
    cases e
    refine ⟨fun e' => ?_, ?_⟩
    · have := (h2.lt b e').2
      omega
    · have := h1.lt
      omega
  case assign =>
    intro l x W K hK
    gi_wp2
    exact hK
  case body =>
    rintro l q pre x W ⟨⟨⟨v, hv, hrow, hq⟩, hB⟩, hqb⟩ hlt
    have hc := hv.cell
    have hkl := keysD_len D
    have hpl : pre.length ≤ 4194304 := by omega
    gi_wp2_with (gi_at_builtin; refine wpListIn_append_own_at _ rfl _ _ 27 rfl w.heap.size 9 i0 (.string ⟨#[]⟩) 1 16 Tryz.underlying27 hi hz0 hz1 hz2 rfl (by decide) _ _ _ rfl (hrow.alloc _) ⟨W.heap.size, 0, none⟩ 1 1 [encStr x] rfl rfl (cell_one_new _ _ _) (by simp [Value.oneCell']) (by unfold maxLen; omega) (by omega) (by have := hB.size; simp; omega) ?_; intro v' w2 hown' hgr _ hat; obtain ⟨g', cap', rfl⟩ := ownsRow_succ hown'; obtain ⟨hv1, hv2, hr2, hk2, hb2⟩ := hv.appended (by decide) hrow hB.size hle hown' hgr; have hc1 := hv1.cell; have hf1 := hv1.frozen)
    refine ⟨⟨⟨⟨_, hv2, by simpa using hr2, fun b e => ⟨?_, (hq b e).2⟩⟩, hB.trans hb2⟩, fun b e => Nat.lt_of_lt_of_le (hqb b e) (by simpa using hk2.size)⟩, fun b e hbl => ?_⟩
    · rcases hat with h | h
      · rw [h]; exact (hq b e).1
      · rw [h]
        intro e'
        have := hqb b e
        simp at e'
        omega
    · have hbA : b < (W.alloc (.cells #[encStr x] 9)).heap.size := by simp; omega
      have s1 := hgr.block b (by simp; omega) (fun e' => (hq b e).1 e'.symm)
      have s2 := (grownBy_setCell' w2 w1.heap.size (.slice (some ⟨g', 0, none⟩) (pre.length + 1) cap')).block b (Nat.lt_of_lt_of_le hbA (by simpa using hgr.size)) (fun e' => (hq b e).2 (by cases e'; rfl))
      exact (s2.trans s1).trans (Below.heap_alloc W _ b hbl)
  case done =>
    rintro D q W hD ⟨⟨⟨v, hv, hrow, -⟩, hB⟩, -⟩ hK
    have hc := hv.cell
    gi_wp2
    refine ⟨by simp, .inl ⟨_, _, rfl, run_takeDeferred hK, ?_⟩⟩
    exact ⟨_, results_tmp rfl _ _ _, v, rfl, ownsRow_putObj hrow _ hK rfl, hB.trans (belowK_b (w := w) (Nat.le_refl _) W D _ _ (by simp at hD; omega) hK rfl rfl)⟩
end Go.Proofs.YtoknolophmhlgaaGreatDoor
/-
  Chapter 4, plain mathematics: the names of the program's map, ascending, are the specification's.
-/
namespace Go.Proofs.YtoknolophmhlgaaGreatDoor
open Go.ChangeShapes Go.WideShapes Go.ChangeAt Go.RowKit Go.Sort
set_option linter.unusedVariables false

theorem insS_perm : ∀ (l : List ByteArray) (s : ByteArray), keyS s ∉ l.map keyS → ((insS l s).map keyS).Perm (keyS s :: l.map keyS)
  | [], s, h => List.Perm.refl _
  | x :: xs, s, h => by
    have h1 : x.toList ≠ s.toList := fun e => h (by simp [keyS, e])
    unfold insS
    split
    · exact ((insS_perm xs s (fun h' => h (by simp only [List.map_cons, List.mem_cons]; exact .inr h'))).cons _).trans (List.Perm.swap _ _ _)
    · exact List.Perm.refl _
theorem insS_asc : ∀ (l : List ByteArray) (s : ByteArray), (l.map keyS).Pairwise (fun a b => a ≤ b) → ((insS l s).map keyS).Pairwise (fun a b => a ≤ b)
  | [], s, h => by simp [insS]
  | x :: xs, s, h => by
    obtain ⟨h1, h2⟩ := List.pairwise_cons.1 h
    unfold insS
    split
    · rename_i hlt
      have hlt' : keyS x < keyS s := by
        unfold ltS at hlt
        rw [bytesLess_eq] at hlt
        exact of_decide_eq_true hlt
      refine List.pairwise_cons.2 ⟨fun y hy => ?_, insS_asc xs s h2⟩
      obtain ⟨z, hz, rfl⟩ := List.mem_map.1 hy
      rcases insS_mem xs s z hz with rfl | hz
      · exact List.le_of_lt hlt'
      · exact h1 _ (List.mem_map.2 ⟨z, hz, rfl⟩)
    · rename_i hlt
      have hle : keyS s ≤ keyS x := by
        have : ¬ keyS x < keyS s := fun e => hlt (by unfold ltS; rw [bytesLess_eq]; exact decide_eq_true e)
        exact List.not_lt.1 this
      split
      · exact h
      · refine List.pairwise_cons.2 ⟨fun y hy => ?_, h⟩
        rcases List.mem_cons.1 hy with rfl | hy
        · exact hle
        · exact List.le_trans hle (h1 y hy)
theorem sortS_from : ∀ (l acc : List ByteArray), (acc.map keyS ++ l.map keyS).Nodup → (acc.map keyS).Pairwise (fun a b => a ≤ b) →
    ((l.foldl insS acc).map keyS).Perm (acc.map keyS ++ l.map keyS) ∧ ((l.foldl insS acc).map keyS).Pairwise (fun a b => a ≤ b)
  | [], acc, hn, h => ⟨by simp, h⟩
  | s :: l, acc, hn, h => by
    have hs : keyS s ∉ acc.map keyS := by
      intro hm
      have := (List.nodup_append.1 hn).2.2 _ hm (keyS s) (by simp)
      exact this rfl
    have hp := insS_perm acc s hs
    have hp2 : ((insS acc s).map keyS ++ l.map keyS).Perm (acc.map keyS ++ (s :: l).map keyS) := by
      refine (hp.append_right _).trans ?_
      simp only [List.map_cons, List.cons_append]
      exact List.perm_middle.symm
    obtain ⟨g1, g2⟩ := sortS_from l (insS acc s) (hp2.symm.nodup_iff.1 hn) (insS_asc acc s h)
    exact ⟨g1.trans hp2, g2⟩
theorem sortS_perm (l : List ByteArray) (hn : NdK l) : ((sortS l).map keyS).Perm (l.map keyS) ∧ ((sortS l).map keyS).Pairwise (fun a b => a ≤ b) := by
  have := sortS_from l [] (by simpa [NdK] using hn) (by simp)
  simpa [sortS] using this
theorem keysL_eq (K : List (List UInt8)) (l : List ByteArray) (hn : NdK l) (hm : ∀ x, x ∈ l.map keyS ↔ x ∈ K) : keysL K = (sortS l).map keyS := by
  obtain ⟨h1, h2⟩ := sortS_perm l hn
  have h3 : ((sortS l).map keyS).Perm (strKeys (setD K)) := h1.trans (setD_perm K _ hn hm)
  unfold keysL keysD
  rw [← mergeSort_of_perm h3]
  exact List.mergeSort_of_pairwise (h2.imp (fun h => decide_eq_true h))
theorem encStr_keyS (s : ByteArray) : encStr (keyS s) = .string s := by
  unfold encStr keyS
  rw [ByteArray.toList_eq]
theorem keysL_strs (K : List (List UInt8)) (l : List ByteArray) (hn : NdK l) (hm : ∀ x, x ∈ l.map keyS ↔ x ∈ K) : (keysL K).map encStr = strs (sortS l) ∧ (keysL K).length = (sortS l).length := by
  rw [keysL_eq K l hn hm]
  refine ⟨?_, by simp⟩
  unfold strs
  rw [List.map_map]
  exact List.map_congr_left (fun s _ => encStr_keyS s)
end Go.Proofs.YtoknolophmhlgaaGreatDoor
/-
  What is held lies in the heap.
-/
namespace Go.Proofs.YtoknolophmhlgaaGreatDoor
open Go.ChangeShapes Go.WideShapes Go.ChangeAt Go.RowKit
set_option linter.unusedVariables false

/-- What is held lies in the heap. -/
theorem Rows.tight {α : Type} {w : World} {S : Nat → Prop} {c : Nat} {R R' : List Value → α → Prop} {v : Value} {xs : List α} (h : Rows w S c R v xs) (hR : ∀ cs x, R cs x → R' cs x) : Rows w (fun g => g < w.heap.size) c R' v xs := by
  obtain ⟨p, cap, hv, h1, h2, h3⟩ := h
  refine ⟨p, cap, hv, h1, h2, fun hne => ?_⟩
  obtain ⟨g, off, hp, hg, hlt, hx⟩ := h3 hne
  refine ⟨g, off, hp, hlt, hlt, fun i x hi => ?_⟩
  obtain ⟨cs, hl, hc, hr⟩ := hx i x hi
  exact ⟨cs, hl, hc, hR cs x hr⟩
theorem HEx.tight {w : World} {S : Nat → Prop} : ∀ {d : Nat} {cs : List Value} {x : Ex}, HEx w S d cs x → HEx w (fun g => g < w.heap.size) d cs x
  | 0, _, _, h => h.elim
  | d + 1, cs, x, h => by
    obtain ⟨kv, cv, rfl, h1, h2, h3, h4, hk, hc⟩ := h
    refine ⟨kv, cv, rfl, h1, h2, h3, h4, hk.tight (fun _ _ h => h.tight), hc.tight (fun _ _ h => ?_)⟩
    obtain ⟨p, b, rfl, g1, g2⟩ := h
    exact ⟨p, b, rfl, g1.tight (fun _ _ h => h.tight), g2.tight (fun _ _ h => h.tight)⟩
end Go.Proofs.YtoknolophmhlgaaGreatDoor
