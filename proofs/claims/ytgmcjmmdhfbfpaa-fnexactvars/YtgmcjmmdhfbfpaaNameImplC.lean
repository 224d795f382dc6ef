/-
  The program's names.list, by contract.
-/
import Derived.Test.YtgmcjmmdhfbfpaaNameImplB
namespace Go.Proofs.Ytgmcjmmdhfbfpaa
open Go.ChangeShapes Go.WideShapes Go.ChangeAt Go.RowKit Go.Maps Go.WideMaps Go.Shelf Go.Sort
set_option linter.unusedVariables false
set_option maxRecDepth 100000
attribute [local go_sem] Oper.semAt_some

theorem info_strN : (Try.prog.info? 9).map (fun i => (i.zero, i.size, i.bytes)) = some (some (.string ⟨#[]⟩), 1, 16) := by kernel_rfl

set_option maxHeartbeats 4000000 in
theorem list_in (w : World) (mb : Nat) (K : List (List UInt8)) (hm : MapAt w mb K) (hK : K.length ≤ 4194304) :
    Calls Try.prog 21 #[.map (some mb)] w fun e w' => ∃ u, e = .returned u ∧ w'.ownsRow w.heap.size 9 1 u (keysL K).length ((keysL K).map encStr) ∧ Below w.heap.size w w' := by
  refine (callsIn_wide (n := 7)).1 ?_
  obtain ⟨i0, hi, hz0, hz1, hz2⟩ := info_parts info_strN
  have HM : Hid (MapAt w mb K) := hm
  obtain ⟨es, clock, hes, -, hsz, -⟩ := hm
  have hsz2 : es.size ≤ 4194304 := Nat.le_trans hsz hK
  have hlen : ∀ ty, (Builtin.len_ #[45] ty #[.map (some mb)]).run Try.prog w = .ok (goInt es.size) w := fun ty => run_len_map (w := w) 45 ty mb es clock Try.underlying45 hes
  clear hsz
  refine callsIn_of_wp_marks Try.func21 rfl trivial ?_ rfl
  simp only [Try.ntmps21, List.size_toArray, List.length_cons, List.length_nil, Nat.reduceAdd, Nat.reduceSub, Array.replicate_succ, Array.replicate_zero, List.push_toArray, List.append_toArray, List.nil_append, List.cons_append]
  gi_wp2_with (gi_at_make; refine wpListIn_make_own _ rfl _ _ 27 rfl w.heap.size 9 i0 (.string ⟨#[]⟩) 1 Try.underlying27 hi hz0 hz1 .i64 .i64 _ es.size rfl rfl rfl (by rw [hz2]; omega) (by unfold maxLen; omega) (Nat.le_refl _) ?_; intro w1 hrow hgrow)
  have bO := Boxed.new w1 27 (.slice (some ⟨w.heap.size, 0, none⟩) 0 es.size)
  have hle := hgrow.size
  have hB1 : Below w.heap.size w w1 := ⟨hgrow.os, hgrow.tape, hgrow.output, hgrow.size, fun j hj => hgrow.block j hj (by simp)⟩
  have hB0 : Below w.heap.size w (w1.alloc (.cells #[.slice (some ⟨w.heap.size, 0, none⟩) 0 es.size] 27)) := hB1.alloc hle _
  refine range_bound rfl (by omega) (gf := 33) (bs := #[.map (some mb)]) rfl trivial (enters_of Try.func33 (by kernel_rfl) rfl)
    (encs := fun x : List UInt8 => #[encStr x]) (fun _ => rfl) (keysL K)
    (fun l J W hW hJb hJn hY h0 => asc_in l mb K W (HM.out.keep ((hW.block mb (by have := HM.out.lt; have := hB0.size; omega)).trans (hB0.block mb HM.out.lt))) hK J hJb hJn hY h0)
    (fun q pre W => ((∃ v, Boxed W w1.heap.size 27 v ∧ W.ownsRow w.heap.size 9 1 v pre.length (pre.map encStr) ∧ ∀ b, q = some b → v.ownBlock ≠ some b ∧ b ≠ w1.heap.size) ∧ Below w.heap.size w W) ∧ ∀ b, q = some b → b < W.heap.size)
    (fun q => OwnFrom.and (OwnFrom.and (Own.from (holdsRow_own w.heap.size w1.heap.size 27 9 1 (fun pre : List (List UInt8) => pre.length) (fun pre => pre.map encStr) (fun pre v => ∀ b, q = some b → v.ownBlock ≠ some b ∧ b ≠ w1.heap.size)) _) (ownFrom_below (Nat.le_refl _) (by simp; omega)))
      (fun s A B row hs hg hr b e => Nat.lt_of_lt_of_le (hs b e) hg.size))
    ?new ⟨⟨⟨_, bO, hrow.alloc _, fun b e => by cases e⟩, hB0⟩, fun b e => by cases e⟩
    (fun x => { tmps := #[.map (some mb), undef, .slice none 0 0, .pointer (some ⟨w1.heap.size, 0, none⟩), encStr x, .map (some mb), .int .i64 es.size, .slice (some ⟨w.heap.size, 0, none⟩) 0 es.size, .map (some mb), .func (.func 33) #[.map (some mb)] #[], encStr x, undef, undef, undef, undef, undef], defers := [] }) ?assign ?body ?done
  case new =>
    rintro s A B b ⟨⟨⟨v, h1, h2, -⟩, h3⟩, -⟩ hAB hb hbB
    refine ⟨⟨⟨v, h1.kept (grown_of hAB) (by simp), h2.kept (grown_of hAB) (Classical.em _), fun b' e => ?_⟩, h3.trans (hAB.mono h3.size)⟩, fun b' e => by cases e; exact hbB⟩
    cases e
    refine ⟨fun e' => ?_, ?_⟩
    · have := (h2.lt b e').2
      omega
    · have := h1.lt
      omega
  case assign =>
    intro l x W K hK
    gi_wp2
    exact hK
  case body =>
    rintro l q pre x W ⟨⟨⟨v, hv, hrow, hq⟩, hB⟩, hqb⟩ hlt
    have hc := hv.cell
    have hkl := keysL_len K
    have hpl : pre.length ≤ 4194304 := by omega
    gi_wp2_with (gi_at_builtin; refine wpListIn_append_own_at _ rfl _ _ 27 rfl w.heap.size 9 i0 (.string ⟨#[]⟩) 1 16 Try.underlying27 hi hz0 hz1 hz2 rfl (by decide) _ _ _ rfl (hrow.alloc _) ⟨W.heap.size, 0, none⟩ 1 1 [encStr x] rfl rfl (cell_one_new _ _ _) (by simp [Value.oneCell']) (by unfold maxLen; omega) (by omega) (by have := hB.size; simp; omega) ?_; intro v' w2 hown' hgr _ hat; obtain ⟨g', cap', rfl⟩ := ownsRow_succ hown'; obtain ⟨hv1, hv2, hr2, hk2, hb2⟩ := hv.appended (by decide) hrow hB.size hle hown' hgr; have hc1 := hv1.cell; have hf1 := hv1.frozen)
    refine ⟨⟨⟨⟨_, hv2, by simpa using hr2, fun b e => ⟨?_, (hq b e).2⟩⟩, hB.trans hb2⟩, fun b e => Nat.lt_of_lt_of_le (hqb b e) (by simpa using hk2.size)⟩, fun b e hbl => ?_⟩
    · rcases hat with h | h
      · rw [h]; exact (hq b e).1
      · rw [h]
        intro e'
        have := hqb b e
        simp at e'
        omega
    · have hbA : b < (W.alloc (.cells #[encStr x] 9)).heap.size := by simp; omega
      have s1 := hgr.block b (by simp; omega) (fun e' => (hq b e).1 e'.symm)
      have s2 := (grownBy_setCell' w2 w1.heap.size (.slice (some ⟨g', 0, none⟩) (pre.length + 1) cap')).block b (Nat.lt_of_lt_of_le hbA (by simpa using hgr.size)) (fun e' => (hq b e).2 (by cases e'; rfl))
      exact (s2.trans s1).trans (Below.heap_alloc W _ b hbl)
  case done =>
    rintro D q W hD ⟨⟨⟨v, hv, hrow, -⟩, hB⟩, -⟩ hK
    have hc := hv.cell
    gi_wp2
    refine ⟨by simp, .inl ⟨_, _, rfl, run_takeDeferred hK, ?_⟩⟩
    exact ⟨_, results_tmp rfl _ _ _, v, rfl, ownsRow_putObj hrow _ hK rfl, hB.trans (belowK_b (w := w) (Nat.le_refl _) W D _ _ (by simp at hD; omega) hK rfl rfl)⟩
end Go.Proofs.Ytgmcjmmdhfbfpaa
