/-
  Texts of the proof, packed: NameSpecF, AtSpecA, FindSpec.
-/
import Derived.Test.YtoknolophmhlgaaGreatDoorPackH
import Derived.Test.YtoknolophmhlgaaGreatDoorPackI
import Derived.Test.YtoknolophmhlgaaGreatDoorPackG
/-
  The specification's l04Sorted, walked.
-/
namespace Go.Proofs.YtoknolophmhlgaaGreatDoor
open Go.ChangeShapes Go.WideShapes Go.ChangeAt Go.RowKit
set_option linter.unusedVariables false
set_option maxRecDepth 100000

theorem OwnS.form {w : World} {B : Nat} {v : Value} {l : List ByteArray} (h : OwnS w B v l) (hn : v ≠ .slice none 0 0) : ∃ g cap, v = .slice (some ⟨g, 0, none⟩) l.length cap ∧ l.length ≤ cap ∧ cap ≤ maxLen ∧ B ≤ g ∧ g < w.heap.size := by
  rcases h.1.2 with ⟨hv, _⟩ | ⟨g, cap, cur, hv, hB, hg, h1, h2, _⟩
  · exact absurd hv hn
  · exact ⟨g, cap, hv, h1, h2, hB, (Array.getElem?_eq_some_iff.1 hg).1⟩
theorem OwnS.cellS {w : World} {B g n cap : Nat} {l : List ByteArray} (h : OwnS w B (.slice (some ⟨g, 0, none⟩) n cap) l) (hn : l.length = n) (k : Nat) (x : ByteArray) (hk : l[k]? = some x) : w.cell? ⟨g, k, none⟩ = some (.string x) := by
  subst hn
  exact (h.1.cellAt k (by have := (List.getElem?_eq_some_iff.1 hk).1; omega)).trans (by simp [strs, hk])
theorem lit0_owns {W : World} {B b : Nat} (h : W.heap[b]? = some (.cells #[] 9)) (hB : B ≤ b) : W.ownsRow B 9 1 (.slice (some ⟨b, 0, none⟩) 0 0) 0 [] :=
  ⟨rfl, .inr ⟨b, 0, #[], rfl, hB, h, Nat.le_refl _, Nat.zero_le _, rfl, rfl⟩⟩
theorem lit_at1 (W : World) (o o' : Obj) : ((W.alloc o).alloc o').drew.heap[W.heap.size + 1]? = some o' := by
  show ((W.heap.push o).push o')[W.heap.size + 1]? = some o'
  have : (W.heap.push o).size = W.heap.size + 1 := by simp
  rw [← this, Array.getElem?_push_size]
theorem lit1_at (W : World) (s : ByteArray) (o : Obj) (b : Nat) (hb : b = W.heap.size + 1) : ((W.alloc o).alloc (.cells #[.string s] 9)).drew.cell? ⟨b, 0, none⟩ = some (.string s) := by
  subst hb
  exact Blk.cell (cs := #[.string s]) (t := 9) (lit_at1 W o _) 0 _ rfl
theorem lit1_old (W : World) (s : ByteArray) (o : Obj) : ((W.alloc (.cells #[.string s] 9)).alloc o).drew.cell? ⟨W.heap.size, 0, none⟩ = some (.string s) :=
  Blk.cell (cs := #[.string s]) (t := 9) ((Blk.new (w := W)).alloc (o := o)) 0 _ rfl
theorem one_at {W : World} {b : Nat} {s : ByteArray} (h : W.cell? ⟨b, 0, none⟩ = some (.string s)) : ∀ j u, (strs [s])[j]? = some u → W.cell? ((⟨b, 0, none⟩ : Addr).add j) = some u := by
  intro j u hj
  match j, hj with
  | 0, hj => simp [strs] at hj; subst hj; exact h
theorem news_of {W W0 : World} {B g n cap : Nat} {J : List ByteArray} (h : OwnS W0 B (.slice (some ⟨g, 0, none⟩) n cap) J) (hn : J.length = n) (he : W.heap[g]? = W0.heap[g]?) (a : Nat) : ∀ j u, (strs (J.take a))[j]? = some u → W.cell? ((⟨g, 0, none⟩ : Addr).add j) = some u := by
  intro j u hj
  have ea : (⟨g, 0, none⟩ : Addr).add j = ⟨g, j, none⟩ := by cases j <;> simp [Addr.add]
  rw [ea, World.cell?_of_block he]
  simp only [strs, List.map_take, List.getElem?_take] at hj
  split at hj
  · rw [List.getElem?_map, Option.map_eq_some_iff] at hj
    obtain ⟨x, hx, rfl⟩ := hj
    exact h.cellS hn j x hx
  · cases hj
theorem news_from {W W0 : World} {B g n cap : Nat} {J : List ByteArray} (h : OwnS W0 B (.slice (some ⟨g, 0, none⟩) n cap) J) (hn : J.length = n) (he : W.heap[g]? = W0.heap[g]?) (a oa : Nat) (ho : a < J.length → oa = a) : ∀ j u, (strs (J.drop a))[j]? = some u → W.cell? ((⟨g, oa, none⟩ : Addr).add j) = some u := by
  intro j u hj
  simp only [strs, List.map_drop, List.getElem?_drop, List.getElem?_map, Option.map_eq_some_iff] at hj
  obtain ⟨x, hx, rfl⟩ := hj
  have hlt := (List.getElem?_eq_some_iff.1 hx).1
  obtain rfl := ho (by omega)
  have ea : (⟨g, oa, none⟩ : Addr).add j = ⟨g, oa + j, none⟩ := by cases j <;> simp [Addr.add]
  rw [ea, World.cell?_of_block he]
  exact h.cellS hn (oa + j) x hx
theorem own_nextS {w w' : World} {B c n : Nat} {e : TypeId} {v : Value} {xs : List Value} (h : w.ownsRow B e c v n xs) (hb : Below w.heap.size w w') : w'.ownsRow B e c v n xs := by
  refine ⟨h.1, ?_⟩
  rcases h.2 with hn | ⟨g, cap, cur, hv, hB, hg, hr⟩
  · exact .inl hn
  · exact .inr ⟨g, cap, cur, hv, hB, (hb.block g (Array.getElem?_eq_some_iff.1 hg).1).trans hg, hr⟩
theorem below_own {N : Nat} {a b c : World} {v : Value} {e : TypeId} {k n : Nat} {xs : List Value} (h : Below N a b) (hN : N ≤ a.heap.size) (ho : b.ownsRow N e k v n xs) (hg : b.grownBy c v.ownBlock) : Below N a c := by
  refine ⟨hg.os.trans h.os, hg.tape.trans h.tape, hg.output.trans h.output, Nat.le_trans h.size hg.size, fun j hj => ?_⟩
  refine (hg.block j (Nat.lt_of_lt_of_le hj (Nat.le_trans hN h.size)) (fun e => ?_)).trans (h.block j hj)
  rcases ho.2 with hn | ⟨g', cap', cur, hv', hB, hg', _⟩
  · rw [hn.1] at e; cases e
  · rw [hv'] at e
    simp [Value.ownBlock] at e
    omega

set_option maxHeartbeats 16000000 in
theorem sorted_any (w : World) (v : Value) (xs : List ByteArray) (h : StrR w v xs) (hl : xs.length ≤ 2097152) :
    Calls Tryz.prog 34 #[v] w fun e w' => ∃ u, e = .returned u ∧ OwnS w' w.heap.size u (sortS xs) ∧ Below w.heap.size w w' := by
  obtain ⟨i0, hi, hz0, hz1, hz2⟩ := info_parts info_str
  obtain ⟨p, cap, rfl, hcl, hcm, hx⟩ := h
  have HX : Hid (∀ k x, xs[k]? = some x → ∃ g off, p = some ⟨g, off, none⟩ ∧ g < w.heap.size ∧ w.cell? ⟨g, off + k, none⟩ = some (.string x)) := fun k x hk => by
    obtain ⟨g, off, e, _, hg, hat⟩ := hx (by intro e; rw [e] at hk; simp at hk)
    obtain ⟨cs, _, hcs, rfl, _⟩ := hat k x hk
    have := hcs 0 (by decide)
    simp only [Nat.mul_one, Nat.add_zero, List.getElem?_cons_zero] at this
    exact ⟨g, off, e, hg, this⟩
  clear hx
  have O0 : Hid (OwnS (w.alloc (.cells #[] 9)) w.heap.size (.slice (some ⟨w.heap.size, 0, none⟩) 0 0) []) := OwnS.fresh
  have B0 : Hid (Below w.heap.size w (w.alloc (.cells #[] 9))) := (Below.refl _ _).alloc (Nat.le_refl _) _
  generalize hn : xs.length = n at *
  have HN : Hid (xs.length = n) := hn
  clear hn
  go_enter Tryz.func34, Tryz.ntmps34
  go_wp2_with fail
  go_loopw [3, 4] (fun ov iv wr => ∃ k : Nat, k ≤ n ∧ iv = .int .i64 k ∧ Hid (OwnS wr w.heap.size ov (sortS (xs.take k)) ∧ ov ≠ .slice none 0 0) ∧ Hid (Below w.heap.size w wr)) (fun _ iv _ => n - (intOf iv).toNat)
  case atStart => exact ⟨0, Nat.zero_le _, rfl, ⟨O0.out, by simp⟩, B0.out⟩
  case round =>
    clear O0 B0
    obtain ⟨k, hk, rfl, ho, HB⟩ := hrel
    obtain ⟨g3, c3, hu3, hc3, hc3', hB3, hg3⟩ := OwnS.form ho.out.1 ho.out.2
    subst hu3
    by_cases hlt : k < n
    · obtain ⟨s, hsk⟩ : ∃ s, xs[k]? = some s := ⟨xs[k]'(by rw [HN.out]; exact hlt), List.getElem?_eq_getElem _⟩
      obtain ⟨gx, ox, rfl, hgx, cx⟩ := HX.out k s hsk
      have hjl := sortS_len xs k
      have HJ : Hid (sortS (xs.take (k + 1)) = insS (sortS (xs.take k)) s) := sortS_snoc xs k s hsk
      generalize hJ : sortS (xs.take k) = J at *
      have HO : Hid (OwnS wr w.heap.size (.slice (some ⟨g3, 0, none⟩) J.length c3) J) := ho.out.1
      have HCX : Hid (w.cell? ⟨gx, ox + k, none⟩ = some (.string s)) := cx
      generalize hm : J.length = m at *
      have HM : Hid (J.length = m) := hm
      clear ho cx hJ hm
      go_wp2_with fail
      go_loopw [5] (fun av wq => ∃ (a q : Nat), a ≤ m ∧ av = .int .i64 a ∧ wq = wr.drewN q ∧ Hid (∀ j x, j < a → J[j]? = some x → ltS x s = true)) (fun av _ => m - (intOf av).toNat)
      case atStart => exact ⟨0, 0, Nat.zero_le _, rfl, rfl, fun j x hj => by omega⟩
      case round =>
        obtain ⟨a, q, ha, rfl, rfl, HA⟩ := hrel
        have cx : wr.cell? ⟨gx, ox + k, none⟩ = some (.string s) := (HB.out.cell (p := ⟨gx, _, none⟩) hgx).trans HCX.out
        by_cases hlm : a < m
        · obtain ⟨y, hya⟩ : ∃ y, J[a]? = some y := ⟨J[a]'(by rw [HM.out]; exact hlm), List.getElem?_eq_getElem _⟩
          have cy : wr.cell? ⟨g3, a, none⟩ = some (.string y) := HO.out.cellS HM.out a y hya
          cases hys : Op.bytesLess y.toList s.toList with
          | true =>
            go_wp2_with fail
            go_quiet (fail)
            go_wp2_with fail
            refine ⟨⟨a + 1, q + nq, by omega, by go_num, rfl, fun j x hj hx => ?_⟩, by simp [intOf]; omega⟩
            by_cases hja : j < a
            · exact HA.out j x hja hx
            · obtain rfl : j = a := by omega
              obtain rfl : y = x := Option.some.inj (hya.symm.trans hx)
              exact hys
          | false =>
            go_wp2_with fail
            go_quiet (fail)
            go_wp2_with fail
            have cxA : ((wr.drewN q).drewN nq).cell? ⟨gx, ox + k, none⟩ = some (.string s) := cx
            have cyA : ((wr.drewN q).drewN nq).cell? ⟨g3, a, none⟩ = some (.string y) := cy
            have HOA : Hid (OwnS ((wr.drewN q).drewN nq) w.heap.size (.slice (some ⟨g3, 0, none⟩) m c3) J) := HO.out
            have HBA : Hid (Below w.heap.size w ((wr.drewN q).drewN nq)) := below_drewN (below_drewN HB.out q) nq
            clear cx cy HO HB hg3
            generalize (wr.drewN q).drewN nq = wA at cxA cyA HOA HBA ⊢
            have hne : ((a : Int) == (m : Int)) = false := by simp; omega
            have hne2 : (a == m) = false := by simp; omega
            have HIN : Hid (insS J s = if y.toList = s.toList then J else J.take a ++ s :: J.drop a) := by
              have := insS_at J s a (by rw [HM.out]; exact ha) HA.out (fun x hx => by obtain rfl : y = x := Option.some.inj (hya.symm.trans hx); exact hys)
              rw [hya] at this
              exact this
            cases hyq : (y.toList == s.toList) with
            | true =>
              have HIJ : Hid (sortS (xs.take (k + 1)) = J) := by
                show _ = _
                rw [HJ.out, HIN.out, if_pos (beq_iff_eq.1 hyq)]
              go_quiet (fail)
              go_wp2_with fail
              exact ⟨⟨k + 1, by omega, by go_num, ⟨by rw [HIJ.out]; exact HOA.out, by simp⟩, below_drewN HBA.out nq⟩, by simp [intOf]; omega⟩
            | false =>
              go_quiet (fail)
              go_wp2_with fail
              have hac : a ≤ c3 := by omega
              have LT : Hid ((strs (J.take a)).length = a * 1) := by show _ = _; rw [strs_length, List.length_take, HM.out]; omega
              have LD : Hid ((strs (J.drop a)).length = (m - a) * 1) := by show _ = _; rw [strs_length, List.length_drop, HM.out]; omega
              have HOW : Hid (OwnS (wA.drewN nq) w.heap.size (.slice (some ⟨g3, 0, none⟩) m c3) J) := HOA.out
              have HBW : Hid (Below w.heap.size w (wA.drewN nq)) := below_drewN HBA.out nq
              have cxW : (wA.drewN nq).cell? ⟨gx, ox + k, none⟩ = some (.string s) := cxA
              clear cxA cyA HOA HBA
              generalize wA.drewN nq = W0 at HOW HBW cxW ⊢
              have hg3W : g3 < W0.heap.size := (HOW.out.off rfl).2
              have hgxW : gx < W0.heap.size := Nat.lt_of_lt_of_le hgx HBW.out.size
              obtain ⟨oa, hoe, hoa⟩ : ∃ oa, oa = a ∧ (a < J.length → oa = a) := ⟨_, rfl, (fun _ => rfl)⟩
              go_region_held_law (fun w' => w'.cell? ⟨gx, ox + k, none⟩ = some (.string s))
                (first | assumption | go_keep | (go_split_ands; exact cell_next ((Below.refl _ _).alloc (Nat.le_refl _) _) (by assumption)))
                (first
                  | (refine step_append_own (W0.alloc (.cells #[] 9)).drew (by rfl) _ _ _ (by rfl) W0.heap.size 9 i0 (.string ⟨#[]⟩) 1 16 Tryz.underlying27 hi hz0 hz1 hz2 rfl (by decide) (.slice (some ⟨W0.heap.size, 0, none⟩) 0 0) 0 [] (by rfl) (lit0_owns (W := (W0.alloc (.cells #[] 9)).drew) (b := W0.heap.size) (Blk.new (w := W0)) (by simp)) ⟨g3, 0, none⟩ a c3 (strs (J.take a)) (by rfl) LT.out (news_of HOW.out HM.out (((Below.refl W0.heap.size W0).alloc (Nat.le_refl _) (.cells #[] 9)).drew.block g3 hg3W) a) (strs_oneCell _) (by unfold maxLen; omega) (by omega) ((Below.refl W0.heap.size W0).alloc (Nat.le_refl _) (.cells #[] 9)).drew.size ?_; intro v1 w1 hown1 hgr1 hv1; have O1 : Hid (w1.ownsRow W0.heap.size 9 1 v1 (0 + a) ([] ++ strs (J.take a))) := hown1; have K1 : Hid (Below W0.heap.size W0 w1) := below_own ((Below.refl W0.heap.size W0).alloc (Nat.le_refl _) (.cells #[] 9)).drew (Nat.le_refl _) (lit0_owns (W := (W0.alloc (.cells #[] 9)).drew) (b := W0.heap.size) (Blk.new (w := W0)) (by simp)) hgr1; have cx1 := cell_next K1.out cxW)
                  | (refine step_append_own ((W0.alloc (.cells #[] 9)).alloc (.cells #[.string s] 9)).drew (by rfl) _ _ _ (by rfl) W0.heap.size 9 i0 (.string ⟨#[]⟩) 1 16 Tryz.underlying27 hi hz0 hz1 hz2 rfl (by decide) (.slice (some ⟨W0.heap.size, 0, none⟩) 0 0) 0 [] (by rfl) (lit0_owns (W := ((W0.alloc (.cells #[] 9)).alloc (.cells #[.string s] 9)).drew) (b := W0.heap.size) ((Blk.new (w := W0)).alloc) (by simp)) ⟨g3, 0, none⟩ a c3 (strs (J.take a)) (by rfl) LT.out (news_of HOW.out HM.out ((((Below.refl W0.heap.size W0).alloc (Nat.le_refl _) (.cells #[] 9)).alloc (by simp) (.cells #[.string s] 9)).drew.block g3 hg3W) a) (strs_oneCell _) (by unfold maxLen; omega) (by omega) (((Below.refl W0.heap.size W0).alloc (Nat.le_refl _) (.cells #[] 9)).alloc (by simp) (.cells #[.string s] 9)).drew.size ?_; intro v1 w1 hown1 hgr1 hv1; have O1 : Hid (w1.ownsRow W0.heap.size 9 1 v1 (0 + a) ([] ++ strs (J.take a))) := hown1; have K1 : Hid (Below W0.heap.size W0 w1) := below_own (((Below.refl W0.heap.size W0).alloc (Nat.le_refl _) (.cells #[] 9)).alloc (by simp) (.cells #[.string s] 9)).drew (Nat.le_refl _) (lit0_owns (W := ((W0.alloc (.cells #[] 9)).alloc (.cells #[.string s] 9)).drew) (b := W0.heap.size) ((Blk.new (w := W0)).alloc) (by simp)) hgr1; have cx1 := cell_next K1.out cxW; have N1 : Hid (w1.cell? ⟨W0.heap.size + 1, 0, none⟩ = some (.string s)) := (World.cell?_of_block (hgr1.block (W0.heap.size + 1) (by simp) (by simp [Value.ownBlock]))).trans (lit1_at W0 s _ _ rfl))
                  | (refine step_append_own ((W0.alloc (.cells #[.string s] 9)).alloc (.cells #[] 9)).drew (by rfl) _ _ _ (by rfl) W0.heap.size 9 i0 (.string ⟨#[]⟩) 1 16 Tryz.underlying27 hi hz0 hz1 hz2 rfl (by decide) (.slice (some ⟨(W0.heap.size + 1), 0, none⟩) 0 0) 0 [] (by rfl) (lit0_owns (W := ((W0.alloc (.cells #[.string s] 9)).alloc (.cells #[] 9)).drew) (b := (W0.heap.size + 1)) (lit_at1 W0 _ _) (by simp)) ⟨g3, 0, none⟩ a c3 (strs (J.take a)) (by rfl) LT.out (news_of HOW.out HM.out ((((Below.refl W0.heap.size W0).alloc (Nat.le_refl _) (.cells #[.string s] 9)).alloc (by simp) (.cells #[] 9)).drew.block g3 hg3W) a) (strs_oneCell _) (by unfold maxLen; omega) (by omega) (((Below.refl W0.heap.size W0).alloc (Nat.le_refl _) (.cells #[.string s] 9)).alloc (by simp) (.cells #[] 9)).drew.size ?_; intro v1 w1 hown1 hgr1 hv1; have O1 : Hid (w1.ownsRow W0.heap.size 9 1 v1 (0 + a) ([] ++ strs (J.take a))) := hown1; have K1 : Hid (Below W0.heap.size W0 w1) := below_own (((Below.refl W0.heap.size W0).alloc (Nat.le_refl _) (.cells #[.string s] 9)).alloc (by simp) (.cells #[] 9)).drew (Nat.le_refl _) (lit0_owns (W := ((W0.alloc (.cells #[.string s] 9)).alloc (.cells #[] 9)).drew) (b := (W0.heap.size + 1)) (lit_at1 W0 _ _) (by simp)) hgr1; have cx1 := cell_next K1.out cxW; have N1 : Hid (w1.cell? ⟨W0.heap.size, 0, none⟩ = some (.string s)) := (World.cell?_of_block (hgr1.block W0.heap.size (by simp; omega) (by simp [Value.ownBlock]))).trans (lit1_old W0 s _))
                  | (refine step_append_own (w1.alloc (.cells #[.string s] 9)) (by rfl) _ _ _ (by rfl) W0.heap.size 9 i0 (.string ⟨#[]⟩) 1 16 Tryz.underlying27 hi hz0 hz1 hz2 rfl (by decide) v1 (0 + a) ([] ++ strs (J.take a)) (by rfl) (own_nextS O1.out ((Below.refl _ _).alloc (Nat.le_refl _) (.cells #[.string s] 9))) ⟨w1.heap.size, 0, none⟩ 1 1 (strs [s]) (by rfl) (by rfl) (one_str w1 s _ rfl) (strs_oneCell _) (by unfold maxLen; omega) (by omega) (K1.out.alloc K1.out.size (.cells #[.string s] 9)).size ?_; intro v2 w2 hown2 hgr2 hv2; have K2 : Hid (Below W0.heap.size W0 w2) := below_own (K1.out.alloc K1.out.size (.cells #[.string s] 9)) (Nat.le_refl _) (own_nextS O1.out ((Below.refl _ _).alloc (Nat.le_refl _) (.cells #[.string s] 9))) hgr2; have O2 : Hid (w2.ownsRow W0.heap.size 9 1 v2 (0 + a + 1) ([] ++ strs (J.take a) ++ strs [s])) := hown2; have cx2 := cell_next K2.out cxW)
                  | (refine step_append_own w1 (by rfl) _ _ _ (by rfl) W0.heap.size 9 i0 (.string ⟨#[]⟩) 1 16 Tryz.underlying27 hi hz0 hz1 hz2 rfl (by decide) v1 (0 + a) ([] ++ strs (J.take a)) (by rfl) O1.out ⟨(W0.heap.size + 1), 0, none⟩ 1 1 (strs [s]) (by rfl) (by rfl) (one_at N1.out) (strs_oneCell _) (by unfold maxLen; omega) (by omega) K1.out.size ?_; intro v2 w2 hown2 hgr2 hv2; have K2 : Hid (Below W0.heap.size W0 w2) := below_own K1.out (Nat.le_refl _) O1.out hgr2; have O2 : Hid (w2.ownsRow W0.heap.size 9 1 v2 (0 + a + 1) ([] ++ strs (J.take a) ++ strs [s])) := hown2; have cx2 := cell_next K2.out cxW)
                  | (refine step_append_own w1 (by rfl) _ _ _ (by rfl) W0.heap.size 9 i0 (.string ⟨#[]⟩) 1 16 Tryz.underlying27 hi hz0 hz1 hz2 rfl (by decide) v1 (0 + a) ([] ++ strs (J.take a)) (by rfl) O1.out ⟨W0.heap.size, 0, none⟩ 1 1 (strs [s]) (by rfl) (by rfl) (one_at N1.out) (strs_oneCell _) (by unfold maxLen; omega) (by omega) K1.out.size ?_; intro v2 w2 hown2 hgr2 hv2; have K2 : Hid (Below W0.heap.size W0 w2) := below_own K1.out (Nat.le_refl _) O1.out hgr2; have O2 : Hid (w2.ownsRow W0.heap.size 9 1 v2 (0 + a + 1) ([] ++ strs (J.take a) ++ strs [s])) := hown2; have cx2 := cell_next K2.out cxW)
                  | (refine step_append_own w2 (by rfl) _ _ _ (by rfl) W0.heap.size 9 i0 (.string ⟨#[]⟩) 1 16 Tryz.underlying27 hi hz0 hz1 hz2 rfl (by decide) v2 (0 + a + 1) ([] ++ strs (J.take a) ++ strs [s]) (by rfl) O2.out ⟨g3, oa, none⟩ (m - a) (c3 - a) (strs (J.drop a)) (by first | rfl | (simp [Act.eval, Act.put, hoe]; omega) | (simp [Act.eval, Act.put, hoe]; split <;> rfl)) LD.out (news_from HOW.out HM.out (K2.out.block g3 hg3W) a oa hoa) (strs_oneCell _) (by unfold maxLen; omega) (by omega) K2.out.size ?_; intro v3 w3 hown3 hgr3 hv3; have K3 : Hid (Below W0.heap.size W0 w3) := below_own K2.out (Nat.le_refl _) O2.out hgr3; have O3 : Hid (w3.ownsRow W0.heap.size 9 1 v3 (0 + a + 1 + (m - a)) ([] ++ strs (J.take a) ++ strs [s] ++ strs (J.drop a))) := hown3; have cx3 := cell_next K3.out cxW))
              all_goals
                go_split_ands
                have HO9 : Hid (OwnS w3 w.heap.size v3 (sortS (xs.take (k + 1))) ∧ v3 ≠ .slice none 0 0) := by
                  have h1 : sortS (xs.take (k + 1)) = J.take a ++ s :: J.drop a := by rw [HJ.out]; exact (HIN.out.trans (if_neg (by intro e; rw [e] at hyq; simp at hyq)))
                  have h2 := O3.out
                  have h3 : ([] ++ strs (J.take a) ++ strs [s] ++ strs (J.drop a)) = strs (J.take a ++ s :: J.drop a) := by simp [strs]
                  have h4 : 0 + a + 1 + (m - a) = (J.take a ++ s :: J.drop a).length := by
                    rw [List.length_append, List.length_cons, List.length_take, List.length_drop, HM.out]; omega
                  rw [h3, h4] at h2
                  refine ⟨?_, fun e => ?_⟩
                  · rw [h1]; exact OwnS.base ⟨h2, K3.out.size⟩ HBW.out.size
                  · have h5 := h2.2
                    rw [e] at h5
                    rcases h5 with ⟨_, h6⟩ | ⟨g', cap', cur, h6, _⟩
                    · simp at h6
                    · simp at h6
                have HB9 : Hid (Below w.heap.size w w3) := HBW.out.trans (K3.out.mono HBW.out.size)
                clear O1 O2 O3 K1 K2 K3 hown1 hown2 hown3 hgr1 hgr2 hgr3 hv1 hv2 hv3 cx1 cx2 cx3
                go_wp2_with fail
                exact ⟨⟨k + 1, by omega, by go_num, HO9.out, HB9.out⟩, by simp [intOf]; omega⟩
        · obtain rfl : m = a := by omega
          have heq : ((m : Int) == (m : Int)) = true := by simp
          have HIN : Hid (insS J s = J.take m ++ s :: J.drop m) := by
            have hnone : J[m]? = none := List.getElem?_eq_none (by rw [HM.out]; exact Nat.le_refl _)
            have := insS_at J s m (by rw [HM.out]; exact Nat.le_refl _) HA.out (fun x hx => by rw [hnone] at hx; cases hx)
            rw [hnone] at this
            exact this
          clear heq ha hlm
          go_wp2_with fail
          go_quiet (fail)
          go_wp2_with fail
          have cxA : ((wr.drewN q).drewN nq).cell? ⟨gx, ox + k, none⟩ = some (.string s) := cx
          have HOA : Hid (OwnS ((wr.drewN q).drewN nq) w.heap.size (.slice (some ⟨g3, 0, none⟩) m c3) J) := HO.out
          have HBA : Hid (Below w.heap.size w ((wr.drewN q).drewN nq)) := below_drewN (below_drewN HB.out q) nq
          clear cx HO HB hg3
          generalize (wr.drewN q).drewN nq = wA at cxA HOA HBA ⊢
          go_quiet (fail)
          go_wp2_with fail
          have hac : m ≤ c3 := by omega
          have LT : Hid ((strs (J.take m)).length = m * 1) := by show _ = _; rw [strs_length, List.length_take, HM.out]; omega
          have LD : Hid ((strs (J.drop m)).length = (m - m) * 1) := by show _ = _; rw [strs_length, List.length_drop, HM.out]; omega
          have HOW : Hid (OwnS (wA.drewN nq) w.heap.size (.slice (some ⟨g3, 0, none⟩) m c3) J) := HOA.out
          have HBW : Hid (Below w.heap.size w (wA.drewN nq)) := below_drewN HBA.out nq
          have cxW : (wA.drewN nq).cell? ⟨gx, ox + k, none⟩ = some (.string s) := cxA
          clear cxA HOA HBA
          generalize wA.drewN nq = W0 at HOW HBW cxW ⊢
          have hg3W : g3 < W0.heap.size := (HOW.out.off rfl).2
          have hgxW : gx < W0.heap.size := Nat.lt_of_lt_of_le hgx HBW.out.size
          obtain ⟨oa, hoe, hoa⟩ : ∃ oa, oa = (if c3 = m then 0 else m) ∧ (m < J.length → oa = m) := ⟨_, rfl, (fun h => absurd h (by rw [HM.out]; omega))⟩
          go_region_held_law (fun w' => w'.cell? ⟨gx, ox + k, none⟩ = some (.string s))
            (first | assumption | go_keep | (go_split_ands; exact cell_next ((Below.refl _ _).alloc (Nat.le_refl _) _) (by assumption)))
            (first
              | (refine step_append_own (W0.alloc (.cells #[] 9)).drew (by rfl) _ _ _ (by rfl) W0.heap.size 9 i0 (.string ⟨#[]⟩) 1 16 Tryz.underlying27 hi hz0 hz1 hz2 rfl (by decide) (.slice (some ⟨W0.heap.size, 0, none⟩) 0 0) 0 [] (by rfl) (lit0_owns (W := (W0.alloc (.cells #[] 9)).drew) (b := W0.heap.size) (Blk.new (w := W0)) (by simp)) ⟨g3, 0, none⟩ m c3 (strs (J.take m)) (by rfl) LT.out (news_of HOW.out HM.out (((Below.refl W0.heap.size W0).alloc (Nat.le_refl _) (.cells #[] 9)).drew.block g3 hg3W) m) (strs_oneCell _) (by unfold maxLen; omega) (by omega) ((Below.refl W0.heap.size W0).alloc (Nat.le_refl _) (.cells #[] 9)).drew.size ?_; intro v1 w1 hown1 hgr1 hv1; have O1 : Hid (w1.ownsRow W0.heap.size 9 1 v1 (0 + m) ([] ++ strs (J.take m))) := hown1; have K1 : Hid (Below W0.heap.size W0 w1) := below_own ((Below.refl W0.heap.size W0).alloc (Nat.le_refl _) (.cells #[] 9)).drew (Nat.le_refl _) (lit0_owns (W := (W0.alloc (.cells #[] 9)).drew) (b := W0.heap.size) (Blk.new (w := W0)) (by simp)) hgr1; have cx1 := cell_next K1.out cxW)
              | (refine step_append_own ((W0.alloc (.cells #[] 9)).alloc (.cells #[.string s] 9)).drew (by rfl) _ _ _ (by rfl) W0.heap.size 9 i0 (.string ⟨#[]⟩) 1 16 Tryz.underlying27 hi hz0 hz1 hz2 rfl (by decide) (.slice (some ⟨W0.heap.size, 0, none⟩) 0 0) 0 [] (by rfl) (lit0_owns (W := ((W0.alloc (.cells #[] 9)).alloc (.cells #[.string s] 9)).drew) (b := W0.heap.size) ((Blk.new (w := W0)).alloc) (by simp)) ⟨g3, 0, none⟩ m c3 (strs (J.take m)) (by rfl) LT.out (news_of HOW.out HM.out ((((Below.refl W0.heap.size W0).alloc (Nat.le_refl _) (.cells #[] 9)).alloc (by simp) (.cells #[.string s] 9)).drew.block g3 hg3W) m) (strs_oneCell _) (by unfold maxLen; omega) (by omega) (((Below.refl W0.heap.size W0).alloc (Nat.le_refl _) (.cells #[] 9)).alloc (by simp) (.cells #[.string s] 9)).drew.size ?_; intro v1 w1 hown1 hgr1 hv1; have O1 : Hid (w1.ownsRow W0.heap.size 9 1 v1 (0 + m) ([] ++ strs (J.take m))) := hown1; have K1 : Hid (Below W0.heap.size W0 w1) := below_own (((Below.refl W0.heap.size W0).alloc (Nat.le_refl _) (.cells #[] 9)).alloc (by simp) (.cells #[.string s] 9)).drew (Nat.le_refl _) (lit0_owns (W := ((W0.alloc (.cells #[] 9)).alloc (.cells #[.string s] 9)).drew) (b := W0.heap.size) ((Blk.new (w := W0)).alloc) (by simp)) hgr1; have cx1 := cell_next K1.out cxW; have N1 : Hid (w1.cell? ⟨W0.heap.size + 1, 0, none⟩ = some (.string s)) := (World.cell?_of_block (hgr1.block (W0.heap.size + 1) (by simp) (by simp [Value.ownBlock]))).trans (lit1_at W0 s _ _ rfl))
              | (refine step_append_own ((W0.alloc (.cells #[.string s] 9)).alloc (.cells #[] 9)).drew (by rfl) _ _ _ (by rfl) W0.heap.size 9 i0 (.string ⟨#[]⟩) 1 16 Tryz.underlying27 hi hz0 hz1 hz2 rfl (by decide) (.slice (some ⟨(W0.heap.size + 1), 0, none⟩) 0 0) 0 [] (by rfl) (lit0_owns (W := ((W0.alloc (.cells #[.string s] 9)).alloc (.cells #[] 9)).drew) (b := (W0.heap.size + 1)) (lit_at1 W0 _ _) (by simp)) ⟨g3, 0, none⟩ m c3 (strs (J.take m)) (by rfl) LT.out (news_of HOW.out HM.out ((((Below.refl W0.heap.size W0).alloc (Nat.le_refl _) (.cells #[.string s] 9)).alloc (by simp) (.cells #[] 9)).drew.block g3 hg3W) m) (strs_oneCell _) (by unfold maxLen; omega) (by omega) (((Below.refl W0.heap.size W0).alloc (Nat.le_refl _) (.cells #[.string s] 9)).alloc (by simp) (.cells #[] 9)).drew.size ?_; intro v1 w1 hown1 hgr1 hv1; have O1 : Hid (w1.ownsRow W0.heap.size 9 1 v1 (0 + m) ([] ++ strs (J.take m))) := hown1; have K1 : Hid (Below W0.heap.size W0 w1) := below_own (((Below.refl W0.heap.size W0).alloc (Nat.le_refl _) (.cells #[.string s] 9)).alloc (by simp) (.cells #[] 9)).drew (Nat.le_refl _) (lit0_owns (W := ((W0.alloc (.cells #[.string s] 9)).alloc (.cells #[] 9)).drew) (b := (W0.heap.size + 1)) (lit_at1 W0 _ _) (by simp)) hgr1; have cx1 := cell_next K1.out cxW; have N1 : Hid (w1.cell? ⟨W0.heap.size, 0, none⟩ = some (.string s)) := (World.cell?_of_block (hgr1.block W0.heap.size (by simp; omega) (by simp [Value.ownBlock]))).trans (lit1_old W0 s _))
              | (refine step_append_own (w1.alloc (.cells #[.string s] 9)) (by rfl) _ _ _ (by rfl) W0.heap.size 9 i0 (.string ⟨#[]⟩) 1 16 Tryz.underlying27 hi hz0 hz1 hz2 rfl (by decide) v1 (0 + m) ([] ++ strs (J.take m)) (by rfl) (own_nextS O1.out ((Below.refl _ _).alloc (Nat.le_refl _) (.cells #[.string s] 9))) ⟨w1.heap.size, 0, none⟩ 1 1 (strs [s]) (by rfl) (by rfl) (one_str w1 s _ rfl) (strs_oneCell _) (by unfold maxLen; omega) (by omega) (K1.out.alloc K1.out.size (.cells #[.string s] 9)).size ?_; intro v2 w2 hown2 hgr2 hv2; have K2 : Hid (Below W0.heap.size W0 w2) := below_own (K1.out.alloc K1.out.size (.cells #[.string s] 9)) (Nat.le_refl _) (own_nextS O1.out ((Below.refl _ _).alloc (Nat.le_refl _) (.cells #[.string s] 9))) hgr2; have O2 : Hid (w2.ownsRow W0.heap.size 9 1 v2 (0 + m + 1) ([] ++ strs (J.take m) ++ strs [s])) := hown2; have cx2 := cell_next K2.out cxW)
              | (refine step_append_own w1 (by rfl) _ _ _ (by rfl) W0.heap.size 9 i0 (.string ⟨#[]⟩) 1 16 Tryz.underlying27 hi hz0 hz1 hz2 rfl (by decide) v1 (0 + m) ([] ++ strs (J.take m)) (by rfl) O1.out ⟨(W0.heap.size + 1), 0, none⟩ 1 1 (strs [s]) (by rfl) (by rfl) (one_at N1.out) (strs_oneCell _) (by unfold maxLen; omega) (by omega) K1.out.size ?_; intro v2 w2 hown2 hgr2 hv2; have K2 : Hid (Below W0.heap.size W0 w2) := below_own K1.out (Nat.le_refl _) O1.out hgr2; have O2 : Hid (w2.ownsRow W0.heap.size 9 1 v2 (0 + m + 1) ([] ++ strs (J.take m) ++ strs [s])) := hown2; have cx2 := cell_next K2.out cxW)
              | (refine step_append_own w1 (by rfl) _ _ _ (by rfl) W0.heap.size 9 i0 (.string ⟨#[]⟩) 1 16 Tryz.underlying27 hi hz0 hz1 hz2 rfl (by decide) v1 (0 + m) ([] ++ strs (J.take m)) (by rfl) O1.out ⟨W0.heap.size, 0, none⟩ 1 1 (strs [s]) (by rfl) (by rfl) (one_at N1.out) (strs_oneCell _) (by unfold maxLen; omega) (by omega) K1.out.size ?_; intro v2 w2 hown2 hgr2 hv2; have K2 : Hid (Below W0.heap.size W0 w2) := below_own K1.out (Nat.le_refl _) O1.out hgr2; have O2 : Hid (w2.ownsRow W0.heap.size 9 1 v2 (0 + m + 1) ([] ++ strs (J.take m) ++ strs [s])) := hown2; have cx2 := cell_next K2.out cxW)
              | (refine step_append_own w2 (by rfl) _ _ _ (by rfl) W0.heap.size 9 i0 (.string ⟨#[]⟩) 1 16 Tryz.underlying27 hi hz0 hz1 hz2 rfl (by decide) v2 (0 + m + 1) ([] ++ strs (J.take m) ++ strs [s]) (by rfl) O2.out ⟨g3, oa, none⟩ (m - m) (c3 - m) (strs (J.drop m)) (by first | rfl | (simp [Act.eval, Act.put, hoe]; omega) | (simp [Act.eval, Act.put, hoe]; split <;> rfl)) LD.out (news_from HOW.out HM.out (K2.out.block g3 hg3W) m oa hoa) (strs_oneCell _) (by unfold maxLen; omega) (by omega) K2.out.size ?_; intro v3 w3 hown3 hgr3 hv3; have K3 : Hid (Below W0.heap.size W0 w3) := below_own K2.out (Nat.le_refl _) O2.out hgr3; have O3 : Hid (w3.ownsRow W0.heap.size 9 1 v3 (0 + m + 1 + (m - m)) ([] ++ strs (J.take m) ++ strs [s] ++ strs (J.drop m))) := hown3; have cx3 := cell_next K3.out cxW))
          all_goals
            go_split_ands
            have HO9 : Hid (OwnS w3 w.heap.size v3 (sortS (xs.take (k + 1))) ∧ v3 ≠ .slice none 0 0) := by
              have h1 : sortS (xs.take (k + 1)) = J.take m ++ s :: J.drop m := by rw [HJ.out]; exact HIN.out
              have h2 := O3.out
              have h3 : ([] ++ strs (J.take m) ++ strs [s] ++ strs (J.drop m)) = strs (J.take m ++ s :: J.drop m) := by simp [strs]
              have h4 : 0 + m + 1 + (m - m) = (J.take m ++ s :: J.drop m).length := by
                rw [List.length_append, List.length_cons, List.length_take, List.length_drop, HM.out]; omega
              rw [h3, h4] at h2
              refine ⟨?_, fun e => ?_⟩
              · rw [h1]; exact OwnS.base ⟨h2, K3.out.size⟩ HBW.out.size
              · have h5 := h2.2
                rw [e] at h5
                rcases h5 with ⟨_, h6⟩ | ⟨g', cap', cur, h6, _⟩
                · simp at h6
                · simp at h6
            have HB9 : Hid (Below w.heap.size w w3) := HBW.out.trans (K3.out.mono HBW.out.size)
            clear O1 O2 O3 K1 K2 K3 hown1 hown2 hown3 hgr1 hgr2 hgr3 hv1 hv2 hv3 cx1 cx2 cx3
            go_wp2_with fail
            exact ⟨⟨k + 1, by omega, by go_num, HO9.out, HB9.out⟩, by simp [intOf]; omega⟩
    · have HS : Hid (OwnS wr w.heap.size (.slice (some ⟨g3, 0, none⟩) (sortS (xs.take k)).length c3) (sortS xs)) := by
        have := ho.out.1
        rw [List.take_of_length_le (by rw [HN.out]; omega)] at this ⊢
        exact this
      clear ho
      go_wp2_with fail
      go_ret
      exact ⟨_, rfl, HS.out, HB.out⟩
end Go.Proofs.YtoknolophmhlgaaGreatDoor
/-
  The variables of a clause, by the specification: l07Vars, by contract.
-/
namespace Go.Proofs.YtoknolophmhlgaaGreatDoor
open Go.ChangeShapes Go.WideShapes Go.ChangeAt Go.RowKit
set_option linter.unusedVariables false
set_option maxRecDepth 100000

theorem clauseVars_ex (d : Nat) (c : Cl) : clauseVars d c = allV (d + 1) (.mk 10 0 ByteArray.empty ByteArray.empty [] [c]) := rfl
theorem clauseWt_ex (d : Nat) (c : Cl) : wtEx (d + 1) (.mk 10 0 ByteArray.empty ByteArray.empty [] [c]) = 1 + wtCl (wtEx d) c := by
  show 0 + 0 + wtS (wtEx d) [] + wtS (wtCl (wtEx d)) [c] = _
  simp [wtS]
theorem clause_txts {w : World} {d : Nat} {cs : List Value} {c : Cl} (h : HCl w All (HEx w All d) cs c) : exS (d + 1) (.mk 10 0 ByteArray.empty ByteArray.empty [] [c]) := by
  obtain ⟨p, b, rfl, hp, hb⟩ := h
  have hh : ∀ (v : Value) (l : List Ex), Rows w All 6 (HEx w All d) v l → ∀ y ∈ l, exS d y := by
    intro v l hr y hy
    obtain ⟨_, _, _, _, _, hx⟩ := hr
    obtain ⟨i, hi⟩ := List.mem_iff_getElem?.1 hy
    obtain ⟨g, off, _, _, _, hat⟩ := hx (by intro e; rw [e] at hy; simp at hy)
    obtain ⟨cs, _, _, hr⟩ := hat i y hi
    exact hr.txts
  refine ⟨by show (0 : Nat) ≤ maxLen; exact Nat.zero_le _, by simp, fun c' hc' => ?_⟩
  simp only [List.mem_singleton] at hc'
  subst hc'
  exact ⟨hh p c'.1 hp, hh b c'.2 hb⟩

set_option maxHeartbeats 16000000 in
theorem l07Vars_any (d : Nat) (w : World) (cs : List Value) (c : Cl) (h : HCl w All (HEx w All d) cs c) (hwt : 1 + wtCl (wtEx d) c ≤ 1048576) :
    Calls Tryz.prog 18 #[.agg cs.toArray] w fun e w' => ∃ u, e = .returned u ∧ OwnS w' w.heap.size u (sortS (clauseVars d c)) ∧ Below w.heap.size w w' := by
  have hok := clause_txts h
  have hE := all_all d
  rw [← clauseWt_ex] at hwt
  have HW : Hid (wtEx (d + 1) (.mk 10 0 ByteArray.empty ByteArray.empty [] [c]) ≤ 1048576) := hwt
  have BC : Hid (∀ y, (y ∈ c.1 ∨ y ∈ c.2) → wtEx d y ≤ 1048576 ∧ (∀ s ∈ allV d y, keyS s ∈ varL (d + 1) (.mk 10 0 ByteArray.empty ByteArray.empty [] [c]) ∧ okS s) ∧ exS d y) := fun y hy => by
    have hy' : wtEx d y ≤ wtCl (wtEx d) c := by
      have hc : wtCl (wtEx d) c = wtS (wtEx d) c.1 + wtS (wtEx d) c.2 := rfl
      rcases hy with hy | hy
      · obtain ⟨q, hq⟩ := List.mem_iff_getElem?.1 hy
        have := wtS_part (wtEx d) c.1 q y hq
        omega
      · obtain ⟨q, hq⟩ := List.mem_iff_getElem?.1 hy
        have := wtS_part (wtEx d) c.2 q y hq
        omega
    have hm : c ∈ [c] := by simp
    have he : exS d y := by
      rcases hy with hy | hy
      · exact (hok.2.2 c hm).1 y hy
      · exact (hok.2.2 c hm).2 y hy
    rw [clauseWt_ex] at hwt
    exact ⟨by omega, fun s hs => ⟨varL_cl hm hy (allV_sub d y s hs), allV_ok d y he s hs⟩, he⟩
  have G0 : Hid (Got (d + 1) (.mk 10 0 ByteArray.empty ByteArray.empty [] [c]) []) := ⟨by simp [NdK], fun s hs => by simp at hs, fun s hs => by simp at hs⟩
  have HC : Hid (clauseVars d c = foldV (allV d) (foldV (allV d) [] c.1) c.2) := rfl
  rw [HC.out]
  clear hok HC
  obtain ⟨pv, bv, rfl, hp, hb⟩ := h
  obtain ⟨P, B⟩ := c
  simp only at *
  obtain ⟨p, cap, rfl, hcl, hcm, hx⟩ := hp
  obtain ⟨pb, capb, rfl, hclb, hcmb, hxb⟩ := hb
  have hnp : P.length ≤ 9223372036854775807 := by unfold maxLen at hcm; omega
  have hnb : B.length ≤ 9223372036854775807 := by unfold maxLen at hcmb; omega
  have HXP : Hid (ExAt w d p P) := hx
  have HXB : Hid (ExAt w d pb B) := hxb
  generalize hn : P.length = np at *
  have HNP : Hid (P.length = np) := hn
  generalize hn' : B.length = nb at *
  have HNB : Hid (B.length = nb) := hn'
  clear hn hn' hx hxb hwt
  obtain ⟨W1, hW1⟩ : ∃ W1, W1 = (w.alloc (.cells #[.slice p np cap, .slice pb nb capb] 45)).alloc (.cells #[] 9) := ⟨_, rfl⟩
  have bA : Hid (Blk W1 w.heap.size #[.slice p np cap, .slice pb nb capb] 45) := by show Blk _ _ _ _; rw [hW1]; exact Blk.new.alloc
  have B1 : Hid (Below w.heap.size w W1) := by show Below _ _ _; rw [hW1]; exact ((Below.refl _ _).alloc (Nat.le_refl _) _).alloc (by simp) _
  have O0 : Hid (OwnS W1 w.heap.size (.slice (some ⟨w.heap.size + 1, 0, none⟩) 0 0) []) := by
    have := OwnS.fresh (w := w.alloc (.cells #[.slice p np cap, .slice pb nb capb] 45))
    rw [alloc_hs] at this
    show OwnS _ _ _ _; rw [hW1]; exact this.base (by omega)
  have HW1 : Hid (W1 = (w.alloc (.cells #[.slice p np cap, .slice pb nb capb] 45)).alloc (.cells #[] 9)) := hW1
  clear hW1
  go_enter Tryz.func18, Tryz.ntmps18
  go_wp2_with fail
  rw [← HW1.out]
  go_loopw [3, 4] (fun ov iv wr => ∃ k : Nat, k ≤ np ∧ iv = .int .i64 k ∧ Hid (OwnS wr w.heap.size ov (foldV (allV d) [] (P.take k))) ∧ Hid (Got (d + 1) (.mk 10 0 ByteArray.empty ByteArray.empty [] [(P, B)]) (foldV (allV d) [] (P.take k))) ∧ Hid (Blk wr w.heap.size #[.slice p np cap, .slice pb nb capb] 45) ∧ Hid (Below w.heap.size w wr)) (fun _ iv _ => np - (intOf iv).toNat)
  case atStart => exact ⟨0, Nat.zero_le _, rfl, O0.out, G0.out, bA.out, B1.out⟩
  case round =>
    obtain ⟨k, hk, rfl, ho, hg, hbk, HB⟩ := hrel
    have xa0 := hbk.out.cell 0 _ rfl
    have xa1 := hbk.out.cell 1 _ rfl
    by_cases hlt : k < np
    · obtain ⟨x, hxk⟩ : ∃ x, P[k]? = some x := ⟨P[k]'(by rw [HNP.out]; exact hlt), List.getElem?_eq_getElem _⟩
      obtain ⟨g, off, rfl, -, hgl, hat⟩ := HXP.out (by intro h; rw [h] at hxk; simp at hxk)
      obtain ⟨cs, hcsl, hcs, r1⟩ := hat k x hxk
      have E1 : ∀ w', Below w.heap.size w w' → HEx w' All d cs x := fun w' hw => r1.mono (SameOn.of_below hw) (fun _ h => h)
      obtain ⟨c0, c1, c2, c3, c4, c5, rfl⟩ := len6 hcsl
      have a0 := hcs 0 (by omega)
      have a1 := hcs 1 (by omega)
      have a2 := hcs 2 (by omega)
      have a3 := hcs 3 (by omega)
      have a4 := hcs 4 (by omega)
      have a5 := hcs 5 (by omega)
      rw [← HB.out.cell (p := ⟨g, _, none⟩) hgl] at a0 a1 a2 a3 a4 a5
      simp at a0 a1 a2 a3 a4 a5
      have hki : (k : Int) < (np : Int) := by omega
      have hk0 : (0 : Int) ≤ (k : Int) := by omega
      obtain ⟨wx, sx, ex⟩ := BC.out x (.inl (List.mem_of_getElem? hxk))
      have GX : Hid (Got (d + 1) (.mk 10 0 ByteArray.empty ByteArray.empty [] [(P, B)]) (onceS (foldV (allV d) [] (P.take k)) (allV d x))) := hg.out.once sx
      have HJ : Hid (foldV (allV d) [] (P.take (k + 1)) = onceS (foldV (allV d) [] (P.take k)) (allV d x)) := foldV_snoc _ _ P k x hxk
      have lq := hg.out.len HW.out
      have lx := (allV_got ex).len wx
      have OX : Hid (∀ s ∈ allV d x, okS s) := fun s hs => (sx s hs).2
      have OJ : Hid (∀ s ∈ foldV (allV d) [] (P.take k), okS s) := hg.out.ok
      generalize hJ0 : foldV (allV d) [] (P.take k) = J at *
      clear hcs hat hcsl r1 hJ0 hg sx
      go_wp2_with fail
      refine (hE _ _ x (E1 _ HB.out) wx).mono ?_
      rintro e w4 ⟨u4, rfl, ho4, hb4⟩
      have HB4 : Hid (Below w.heap.size w w4) := HB.out.trans (hb4.mono HB.out.size)
      have SV : Hid (StrV w4 u3 J) := (ho.out.next hb4).strV OJ.out
      have SR : Hid (StrR w4 u4 (allV d x)) := ho4.strR OX.out
      have bk4 : Hid (Blk w4 w.heap.size #[.slice (some ⟨g, off, none⟩) np cap, .slice pb nb capb] 45) := hbk.out.next hb4
      clear hb4 ho4 xa0 xa1 a0 a1 a2 a3 a4 a5
      go_wp2_with fail
      refine (once_any _ _ _ J (allV d x) SV.out SR.out (by omega)).mono ?_
      rintro e w5 ⟨u5, rfl, ho5, hb5⟩
      have HB5 : Hid (Below w.heap.size w w5) := HB4.out.trans (hb5.mono HB4.out.size)
      have HO5 : Hid (OwnS w5 w.heap.size u5 (onceS J (allV d x))) := ho5.base HB4.out.size
      have bk5 : Hid (Blk w5 w.heap.size #[.slice (some ⟨g, off, none⟩) np cap, .slice pb nb capb] 45) := bk4.out.next hb5
      clear hb5 ho5
      go_wp2_with fail
      exact ⟨⟨k + 1, by omega, by go_num, by show OwnS _ _ _ _; rw [HJ.out]; exact HO5.out, by show Got _ _ _; rw [HJ.out]; exact GX.out, bk5.out, HB5.out⟩, by simp [intOf]; omega⟩
    · have HS : Hid (OwnS wr w.heap.size u3 (foldV (allV d) [] P)) := by
        have := ho.out
        rwa [List.take_of_length_le (by rw [HNP.out]; omega)] at this
      have GS : Hid (Got (d + 1) (.mk 10 0 ByteArray.empty ByteArray.empty [] [(P, B)]) (foldV (allV d) [] P)) := by
        have := hg.out
        rwa [List.take_of_length_le (by rw [HNP.out]; omega)] at this
      clear ho hg
      generalize hP1 : foldV (allV d) [] P = P1 at HS GS
      have HP1 : Hid (foldV (allV d) [] P = P1) := hP1
      clear hP1
      go_wp2_with fail
      go_loopw [3, 5] (fun ov iv wr => ∃ k : Nat, k ≤ nb ∧ iv = .int .i64 k ∧ Hid (OwnS wr w.heap.size ov (foldV (allV d) P1 (B.take k))) ∧ Hid (Got (d + 1) (.mk 10 0 ByteArray.empty ByteArray.empty [] [(P, B)]) (foldV (allV d) P1 (B.take k))) ∧ Hid (Blk wr w.heap.size #[.slice p np cap, .slice pb nb capb] 45) ∧ Hid (Below w.heap.size w wr)) (fun _ iv _ => nb - (intOf iv).toNat)
      case atStart => exact ⟨0, Nat.zero_le _, rfl, HS.out, GS.out, hbk.out, HB.out⟩
      case round =>
        obtain ⟨k, hk, rfl, ho, hg, hbk, HB⟩ := hrel
        have xa0 := hbk.out.cell 0 _ rfl
        have xa1 := hbk.out.cell 1 _ rfl
        by_cases hlt : k < nb
        · obtain ⟨x, hxk⟩ : ∃ x, B[k]? = some x := ⟨B[k]'(by rw [HNB.out]; exact hlt), List.getElem?_eq_getElem _⟩
          obtain ⟨g, off, rfl, -, hgl, hat⟩ := HXB.out (by intro h; rw [h] at hxk; simp at hxk)
          obtain ⟨cs, hcsl, hcs, r1⟩ := hat k x hxk
          have E1 : ∀ w', Below w.heap.size w w' → HEx w' All d cs x := fun w' hw => r1.mono (SameOn.of_below hw) (fun _ h => h)
          obtain ⟨c0, c1, c2, c3, c4, c5, rfl⟩ := len6 hcsl
          have a0 := hcs 0 (by omega)
          have a1 := hcs 1 (by omega)
          have a2 := hcs 2 (by omega)
          have a3 := hcs 3 (by omega)
          have a4 := hcs 4 (by omega)
          have a5 := hcs 5 (by omega)
          rw [← HB.out.cell (p := ⟨g, _, none⟩) hgl] at a0 a1 a2 a3 a4 a5
          simp at a0 a1 a2 a3 a4 a5
          have hki : (k : Int) < (nb : Int) := by omega
          have hk0 : (0 : Int) ≤ (k : Int) := by omega
          obtain ⟨wx, sx, ex⟩ := BC.out x (.inr (List.mem_of_getElem? hxk))
          have GX : Hid (Got (d + 1) (.mk 10 0 ByteArray.empty ByteArray.empty [] [(P, B)]) (onceS (foldV (allV d) P1 (B.take k)) (allV d x))) := hg.out.once sx
          have HJ : Hid (foldV (allV d) P1 (B.take (k + 1)) = onceS (foldV (allV d) P1 (B.take k)) (allV d x)) := foldV_snoc _ _ B k x hxk
          have lq := hg.out.len HW.out
          have lx := (allV_got ex).len wx
          have OX : Hid (∀ s ∈ allV d x, okS s) := fun s hs => (sx s hs).2
          have OJ : Hid (∀ s ∈ foldV (allV d) P1 (B.take k), okS s) := hg.out.ok
          generalize hJ0 : foldV (allV d) P1 (B.take k) = J at *
          clear hcs hat hcsl r1 hJ0 hg sx
          go_wp2_with fail
          refine (hE _ _ x (E1 _ HB.out) wx).mono ?_
          rintro e w4 ⟨u4, rfl, ho4, hb4⟩
          have HB4 : Hid (Below w.heap.size w w4) := HB.out.trans (hb4.mono HB.out.size)
          have SV : Hid (StrV w4 u3 J) := (ho.out.next hb4).strV OJ.out
          have SR : Hid (StrR w4 u4 (allV d x)) := ho4.strR OX.out
          have bk4 : Hid (Blk w4 w.heap.size #[.slice p np cap, .slice (some ⟨g, off, none⟩) nb capb] 45) := hbk.out.next hb4
          clear hb4 ho4 xa0 xa1 a0 a1 a2 a3 a4 a5
          go_wp2_with fail
          refine (once_any _ _ _ J (allV d x) SV.out SR.out (by omega)).mono ?_
          rintro e w5 ⟨u5, rfl, ho5, hb5⟩
          have HB5 : Hid (Below w.heap.size w w5) := HB4.out.trans (hb5.mono HB4.out.size)
          have HO5 : Hid (OwnS w5 w.heap.size u5 (onceS J (allV d x))) := ho5.base HB4.out.size
          have bk5 : Hid (Blk w5 w.heap.size #[.slice p np cap, .slice (some ⟨g, off, none⟩) nb capb] 45) := bk4.out.next hb5
          clear hb5 ho5
          go_wp2_with fail
          exact ⟨⟨k + 1, by omega, by go_num, by show OwnS _ _ _ _; rw [HJ.out]; exact HO5.out, by show Got _ _ _; rw [HJ.out]; exact GX.out, bk5.out, HB5.out⟩, by simp [intOf]; omega⟩
        · have HS : Hid (OwnS wr w.heap.size u3 (foldV (allV d) P1 B)) := by
            have := ho.out
            rwa [List.take_of_length_le (by rw [HNB.out]; omega)] at this
          have GS : Hid (Got (d + 1) (.mk 10 0 ByteArray.empty ByteArray.empty [] [(P, B)]) (foldV (allV d) P1 B)) := by
            have := hg.out
            rwa [List.take_of_length_le (by rw [HNB.out]; omega)] at this
          clear ho hg
          have lz := GS.out.len HW.out
          generalize hP2 : foldV (allV d) P1 B = P2 at HS GS lz
          have HP2 : Hid (foldV (allV d) P1 B = P2) := hP2
          clear hP2
          go_wp2_with fail
          refine (sorted_any wr u3 _ (HS.out.strR GS.out.ok) (by omega)).mono ?_
          rintro e w6 ⟨u6, rfl, ho6, hb6⟩
          go_wp2_with fail
          go_ret
          exact ⟨u6, rfl, by rw [HP1.out, HP2.out]; exact ho6.base HB.out.size, HB.out.trans (hb6.mono HB.out.size)⟩
end Go.Proofs.YtoknolophmhlgaaGreatDoor
/-
  The specification's readers of programs, by contract: a module by its name, a function.
-/
namespace Go.Proofs.YtoknolophmhlgaaGreatDoor
open Go.ChangeShapes Go.WideShapes Go.ChangeAt Go.RowKit
set_option linter.unusedVariables false

set_option maxHeartbeats 4000000 in
theorem l05Mod_any (d : Nat) (w : World) (v : Value) (ms : List Md) (s : ByteArray) (h : Rows w All 3 (HMd w All d) v ms) :
    Calls Tryz.prog 48 #[v, .string s] w fun e w' => e = .returned (.int .i64 (findI (named s) ms)) ∧ w' = w := by
  obtain ⟨p, cap, rfl, hcl, hcm, hx⟩ := h
  have hnb : ms.length ≤ 9223372036854775807 := by unfold maxLen at hcm; omega
  generalize hn : ms.length = n at *
  have HN : Hid (ms.length = n) := hn
  have HX : Hid (ms ≠ [] → ∃ g off, p = some ⟨g, off, none⟩ ∧ All g ∧ g < w.heap.size ∧ ∀ i x, ms[i]? = some x → ∃ cs, cs.length = 3 ∧ (∀ j, j < 3 → w.cell? ⟨g, off + i * 3 + j, none⟩ = cs[j]?) ∧ HMd w All d cs x) := hx
  clear hx hn
  go_enter Tryz.func48, Tryz.ntmps48
  go_wp2
  go_loop [5] (fun iv => ∃ k : Nat, k ≤ n ∧ iv = .int .i64 k ∧ Hid ((ms.take k).any (named s) = false)) (fun iv => n - (intOf iv).toNat)
  case atStart => exact ⟨0, Nat.zero_le _, rfl, by show _ = _; simp⟩
  case round =>
    obtain ⟨k, hk, rfl, hno⟩ := hrel
    by_cases hlt : k < n
    · obtain ⟨x, hxk⟩ : ∃ x, ms[k]? = some x := ⟨ms[k]'(by rw [HN.out]; exact hlt), List.getElem?_eq_getElem _⟩
      obtain ⟨g, off, rfl, -, hgl, hat⟩ := HX.out (by intro h; rw [h] at hxk; simp at hxk)
      obtain ⟨cs, hcsl, hcs, ev, fv, rfl, -⟩ := hat k x hxk
      have a0 := hcs 0 (by omega)
      simp at a0
      have hki : (k : Int) < (n : Int) := by omega
      have hk0 : (0 : Int) ≤ (k : Int) := by omega
      clear hcs hat hcsl
      cases hq : (x.name.toList == s.toList) with
      | true =>
        have HS : Hid (findI (named s) ms = k) := findI_at hno.out hxk hq
        go_wp2
        go_ret
        exact ⟨by rw [HS.out]; rfl, rfl⟩
      | false =>
        have HS : Hid ((ms.take (k + 1)).any (named s) = false) := anyT_succ' _ ms k x hxk hno.out hq
        go_wp2
        go_round
        case rel => exact ⟨k + 1, by omega, by go_num, HS⟩
        case measure => simp [intOf]; omega
    · have HS : Hid (findI (named s) ms = -1) := findI_none (by
        have := hno.out
        rwa [List.take_of_length_le (by rw [HN.out]; omega)] at this)
      go_wp2
      go_ret
      exact ⟨by rw [HS.out]; rfl, rfl⟩

set_option maxHeartbeats 8000000 in
set_option maxRecDepth 100000 in
theorem l02FindI_any (d : Nat) (w : World) (cs : List Value) (m : Md) (rs : ByteArray) (rn : Int) (h : HMd w All d cs m) :
    Calls Tryz.prog 49 #[.agg cs.toArray, .string rs, .int .i64 rn] w fun e w' => e = .returned (.int .i64 (findI (sameR ⟨rs, rn⟩) m.funs)) ∧ Below w.heap.size w w' := by
  obtain ⟨ev, fv, rfl, hs, ⟨pe, ce, rfl, -⟩, h⟩ := h
  obtain ⟨ms, es, fs⟩ := m
  simp only at *
  obtain ⟨pf, cf, rfl, hcl, hcm, hx⟩ := h
  have hnb : fs.length ≤ 9223372036854775807 := by unfold maxLen at hcm; omega
  generalize hn : fs.length = nf at *
  generalize es.length = ne at *
  have HN : Hid (fs.length = nf) := hn
  have HX : Hid (fs ≠ [] → ∃ g off, pf = some ⟨g, off, none⟩ ∧ All g ∧ g < w.heap.size ∧ ∀ i x, fs[i]? = some x → ∃ cs, cs.length = 3 ∧ (∀ j, j < 3 → w.cell? ⟨g, off + i * 3 + j, none⟩ = cs[j]?) ∧ HFn w All d cs x) := hx
  obtain ⟨W1, hW1⟩ : ∃ W1, W1 = w.alloc (.cells #[.string ms, .slice pe ne ce, .slice pf nf cf] 53) := ⟨_, rfl⟩
  have bA : Hid (Blk W1 w.heap.size #[.string ms, .slice pe ne ce, .slice pf nf cf] 53) := by show Blk _ _ _ _; rw [hW1]; exact Blk.new
  have B1 : Hid (Below w.heap.size w W1) := by show Below _ _ _; rw [hW1]; exact (Below.refl _ _).alloc (Nat.le_refl _) _
  have xa2 := bA.out.cell 2 _ rfl
  have HW1 : Hid (W1 = w.alloc (.cells #[.string ms, .slice pe ne ce, .slice pf nf cf] 53)) := hW1
  clear hx hn hW1
  go_enter Tryz.func49, Tryz.ntmps49
  go_wp2_with fail
  rw [← HW1.out]
  go_loop [7] (fun iv => ∃ k : Nat, k ≤ nf ∧ iv = .int .i64 k ∧ Hid ((fs.take k).any (sameR ⟨rs, rn⟩) = false)) (fun iv => nf - (intOf iv).toNat)
  case atStart => exact ⟨0, Nat.zero_le _, rfl, by show _ = _; simp⟩
  case round =>
    obtain ⟨k, hk, rfl, hall⟩ := hrel
    by_cases hlt : k < nf
    · obtain ⟨x, hxk⟩ : ∃ x, fs[k]? = some x := ⟨fs[k]'(by rw [HN.out]; exact hlt), List.getElem?_eq_getElem _⟩
      obtain ⟨g, off, rfl, -, hgl, hat⟩ := HX.out (by intro h; rw [h] at hxk; simp at hxk)
      obtain ⟨cs, hcsl, hcs, r1⟩ := hat k x hxk
      obtain ⟨p1, n1, q1, rfl⟩ := fnShape r1
      have HC2 : Hid (sameR ⟨rs, rn⟩ x = false → (fs.take (k + 1)).any (sameR ⟨rs, rn⟩) = false) := fun h => anyT_succ _ fs k _ hxk hall.out h
      have HC3 : Hid (sameR ⟨rs, rn⟩ x = true → findI (sameR ⟨rs, rn⟩) fs = k) := fun h => findI_at hall.out hxk h
      obtain ⟨xs, xn, xc⟩ := x
      simp only at *
      have hsm : sameR ⟨rs, rn⟩ ⟨xs, xn, xc⟩ = (xs.toList == rs.toList && xn == rn) := rfl
      rw [hsm] at HC2 HC3
      have a0 := hcs 0 (by omega)
      have a1 := hcs 1 (by omega)
      have a2 := hcs 2 (by omega)
      rw [← B1.out.cell (p := ⟨g, _, none⟩) hgl] at a0 a1 a2
      simp at a0 a1 a2
      have hki : (k : Int) < (nf : Int) := by omega
      have hk0 : (0 : Int) ≤ (k : Int) := by omega
      clear hcs hat hcsl r1 hsm
      cases c1 : (xs.toList == rs.toList) with
      | false =>
        have HT' : Hid ((fs.take (k + 1)).any (sameR ⟨rs, rn⟩) = false) := HC2.out (by rw [c1]; rfl)
        clear HC2 HC3
        go_wp2
        go_round
        case rel => exact ⟨k + 1, by omega, by go_num, HT'⟩
        case measure => simp [intOf]; omega
      | true =>
        cases c2 : (xn == rn) with
        | false =>
          have HT' : Hid ((fs.take (k + 1)).any (sameR ⟨rs, rn⟩) = false) := HC2.out (by rw [c2, Bool.and_false])
          clear HC2 HC3
          go_wp2
          go_round
          case rel => exact ⟨k + 1, by omega, by go_num, HT'⟩
          case measure => simp [intOf]; omega
        | true =>
          have HF : Hid (findI (sameR ⟨rs, rn⟩) fs = k) := HC3.out (by rw [c1, c2]; rfl)
          clear HC2 HC3
          go_wp2
          go_ret
          exact ⟨by rw [HF.out]; rfl, B1.out⟩
    · have HS : Hid (findI (sameR ⟨rs, rn⟩) fs = -1) := findI_none (by
        have := hall.out
        rwa [List.take_of_length_le (by rw [HN.out]; omega)] at this)
      go_wp2
      go_ret
      exact ⟨by rw [HS.out]; rfl, B1.out⟩
end Go.Proofs.YtoknolophmhlgaaGreatDoor
