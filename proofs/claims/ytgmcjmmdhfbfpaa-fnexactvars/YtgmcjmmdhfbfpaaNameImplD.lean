/-
  The program's Vars: all variables of an expression, ascending, each once.
-/
import Derived.Test.YtgmcjmmdhfbfpaaNameMath3
namespace Go.Proofs.Ytgmcjmmdhfbfpaa
open Go.ChangeShapes Go.WideShapes Go.ChangeAt Go.RowKit Go.Maps Go.WideMaps Go.Sort
set_option linter.unusedVariables false
set_option maxRecDepth 100000

theorem MapAt.made (w : World) : MapAt (w.alloc (.map #[] 0)) w.heap.size [] := by
  unfold MapAt
  exact World.ownsMap_made w _ _ _
theorem list_any (w : World) (mb : Nat) (K : List (List UInt8)) (l : List ByteArray) (hm : MapAt w mb K) (hK : K.length ≤ 4194304) (hn : NdK l) (hl : ∀ x, x ∈ l.map keyS ↔ x ∈ K) :
    Calls Try.prog 21 #[.map (some mb)] w fun e w' => ∃ u, e = .returned u ∧ OwnS w' w.heap.size u (sortS l) ∧ Below w.heap.size w w' := by
  refine (list_in w mb K hm hK).mono ?_
  rintro e w' ⟨u, rfl, ho, hb⟩
  obtain ⟨h1, h2⟩ := keysL_strs K l hn hl
  rw [h1, h2] at ho
  exact ⟨u, rfl, ⟨ho, hb.size⟩, hb⟩
/-- What is held lies in the heap. -/
theorem Rows.tight {α : Type} {w : World} {S : Nat → Prop} {c : Nat} {R R' : List Value → α → Prop} {v : Value} {xs : List α} (h : Rows w S c R v xs) (hR : ∀ cs x, R cs x → R' cs x) : Rows w (fun g => g < w.heap.size) c R' v xs := by
  obtain ⟨p, cap, hv, h1, h2, h3⟩ := h
  refine ⟨p, cap, hv, h1, h2, fun hne => ?_⟩
  obtain ⟨g, off, hp, hg, hlt, hx⟩ := h3 hne
  refine ⟨g, off, hp, hlt, hlt, fun i x hi => ?_⟩
  obtain ⟨cs, hl, hc, hr⟩ := hx i x hi
  exact ⟨cs, hl, hc, hR cs x hr⟩
theorem HEx.tight {w : World} {S : Nat → Prop} : ∀ {d : Nat} {cs : List Value} {x : Ex}, HEx w S d cs x → HEx w (fun g => g < w.heap.size) d cs x
  | 0, _, _, h => h.elim
  | d + 1, cs, x, h => by
    obtain ⟨kv, cv, rfl, h1, h2, h3, h4, hk, hc⟩ := h
    refine ⟨kv, cv, rfl, h1, h2, h3, h4, hk.tight (fun _ _ h => h.tight), hc.tight (fun _ _ h => ?_)⟩
    obtain ⟨p, b, rfl, g1, g2⟩ := h
    exact ⟨p, b, rfl, g1.tight (fun _ _ h => h.tight), g2.tight (fun _ _ h => h.tight)⟩
theorem implVars_any (w : World) (d : Nat) (cs : List Value) (x : Ex) (h : HEx w All d cs x) (hw : wtEx d x ≤ 1048576) :
    Calls Try.prog 7 #[.agg cs.toArray] w fun e w' => ∃ u, e = .returned u ∧ OwnS w' w.heap.size u (sortS (allV d x)) ∧ Below w.heap.size w w' := by
  have hvl := varL_len d x
  have hm := @mkMap
  obtain ⟨sk, sn, st, se, p1, n1, q1, p2, n2, q2, rfl⟩ := HEx.shapeN h
  have HH : Hid (HEx w All d [.int .i64 sk, .int .i64 sn, .string st, .string se, .slice p1 n1 q1, .slice p2 n2 q2] x) := h
  clear h
  go_enter Try.func7, Try.ntmps7
  go_wp2_with fail
  have hB : Below w.heap.size w ((w.alloc (.cells #[.int .i64 sk, .int .i64 sn, .string st, .string se, .slice p1 n1 q1, .slice p2 n2 q2] 32)).alloc (.map #[] 0)) := ((Below.refl _ _).alloc (Nat.le_refl _) _).alloc (by simp) _
  have hM : MapAt ((w.alloc (.cells #[.int .i64 sk, .int .i64 sn, .string st, .string se, .slice p1 n1 q1, .slice p2 n2 q2] 32)).alloc (.map #[] 0)) (w.heap.size + 1) [] := by
    have := MapAt.made (w.alloc (.cells #[.int .i64 sk, .int .i64 sn, .string st, .string se, .slice p1 n1 q1, .slice p2 n2 q2] 32))
    rwa [alloc_hs] at this
  refine (eachVar_any _ (w.heap.size + 1) d _ x [] (HH.out.tight.mono ⟨hB.size, fun g hg hl => hB.block g hg⟩ (fun g hg => by have : g < w.heap.size := hg; omega)) hM (by simp only [List.length_nil]; omega)).mono ?_
  rintro e w1 ⟨rfl, hm1, ho1⟩
  rw [List.nil_append] at hm1
  have B1 : Hid (Below w.heap.size w w1) := hB.trans (ho1.below (by simp) hB.size)
  have HM1 : Hid (MapAt w1 (w.heap.size + 1) (varL d x)) := hm1
  clear hm1 ho1 hB hM
  go_wp2_with fail
  refine (list_any w1 (w.heap.size + 1) (varL d x) (allV d x) HM1.out (by omega) (allV_nd d x) (fun z => ⟨fun hz => ?_, allV_all d x z⟩)).mono ?_
  · obtain ⟨s, hs, rfl⟩ := List.mem_map.1 hz
    exact allV_sub d x s hs
  rintro e w2 ⟨u, rfl, ho2, hb2⟩
  have B2 := B1.out
  go_wp2_with fail
  go_ret
  exact ⟨u, rfl, ho2.base B2.size, B2.trans (hb2.mono B2.size)⟩
end Go.Proofs.Ytgmcjmmdhfbfpaa
