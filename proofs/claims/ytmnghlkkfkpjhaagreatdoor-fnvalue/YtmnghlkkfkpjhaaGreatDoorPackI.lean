/-
  Texts of the proof, packed: StepPush, RangeO, DrawW, RegHand.
-/
import Derived.Test.YtmnghlkkfkpjhaaGreatDoorPackH
import Derived.Test.YtmnghlkkfkpjhaaGreatDoorPackD
import Derived.Test.YtmnghlkkfkpjhaaGreatDoorPackG
import Derived.Test.YtmnghlkkfkpjhaaGreatDoorPackA
import Derived.Deep.RegionHeld3
import Derived.Deep.DeepCutAuto
/-
  An append of one element to a row that is grown, as an arm of a region that draws its order.
-/
namespace Go.Proofs.YtmnghlkkfkpjhaaGreatDoor
open Go.ChangeShapes Go.WideShapes Go.ChangeAt Go.RowKit
set_option linter.unusedVariables false

/-- An append of one element to a row that is grown, in a region that draws its order. -/
theorem step_push {α : Type} {O : World → List Value → α → List Nat → Prop} (hO : KeepsC O) {ops : Array Oper} {o : Oper} {a : Act} {K : Act → World → Prop} {Q : Exit → Act → World → Prop} {E : Prop} {w : World} (t e : TypeId) (size bytes : Nat) (z : Value) (hgd : o.guard = none) (s x : Operand)
    (ho : o.op = .call { callee := .builtin .append, args := #[s, x], argTypes := #[t, t] }) (ht : Tryz.prog.underlying t = some (.slice e)) (hinfo : (Tryz.prog.info? e).map (fun i => (i.zero, i.size, i.bytes)) = some (some z, size, bytes))
    (hzs : z.cells.size = size) (hsz : 0 < size) (hby : bytes ≤ 1000) (B C : Nat) (v : Value) (xs : List α) (hs : a.eval s = v) (cs : List Value) (ab : Nat) (hx : a.eval x = .slice (some ⟨ab, 0, none⟩) 1 1) (hab : ab = w.heap.size) (y : α) (f : List Nat)
    (hG : GrowO e size O w B C v xs) (hf : O w cs y f) (hfn : f.Nodup) (hfr : ∀ a ∈ f, C ≤ a ∧ a < w.heap.size) (hcl : cs.length = size) (h1 : ∀ u ∈ cs, u.oneCell' = true) (hl : xs.length ≤ 100000000)
    (h : ∀ g cap w', GrowO e size O w' B w'.heap.size (.slice (some ⟨g, 0, none⟩) (xs.length + 1) cap) (xs ++ [y]) → Below B (w.alloc (.cells cs.toArray e)) w' → K (a.put o.dst (.slice (some ⟨g, 0, none⟩) (xs.length + 1) cap)) w') :
    if Region.wanted o (yielded ops a.tmps) = true then Oper.wp Tryz.prog o a (w.alloc (.cells cs.toArray e)) K Q else E := by
  subst hab
  cases hi : Tryz.prog.info? e with
  | none => rw [hi] at hinfo; cases hinfo
  | some i =>
    rw [hi] at hinfo
    simp only [Option.map_some, Option.some.injEq, Prod.mk.injEq] at hinfo
    obtain ⟨hz, hsize, hbytes⟩ := hinfo
    obtain ⟨cells, fps, g1, g2, g3, g4, g5, g6, g7, g8⟩ := hG
    have hb : Below w.heap.size w (w.alloc (.cells cs.toArray e)) := (Below.refl _ _).alloc (Nat.le_refl _) _
    have hown := ownsRow_blk (w' := w.alloc (.cells cs.toArray e)) g1 (fun a ha => hb.block a (by have := g6 a ha; omega))
    have hnews : ∀ j u, cs[j]? = some u → (w.alloc (.cells cs.toArray e)).cell? ((⟨w.heap.size, 0, none⟩ : Addr).add j) = some u := fun j u hj => by
      have := (Blk.new (w := w) (cs := cs.toArray) (t := e)).cell j u (by simpa using hj)
      rw [← this]
      unfold Addr.add
      by_cases h0 : j = 0
      · simp [h0]
      · simp [h0]
    have hb2 : (xs.length + 1) * bytes ≤ 140737488355328 := Nat.le_trans (Nat.mul_le_mul (show xs.length + 1 ≤ 100000001 by omega) hby) (by decide)
    refine step_append_lies _ hgd s x t ho B e i z size bytes ht hi hz hsize hbytes hzs hsz v xs.length cells hs hown ⟨w.heap.size, 0, none⟩ 1 1 cs hx (by omega) hnews h1 (by omega) (by unfold maxLen; omega) hb2 (by simp; omega) (w.heap.size + 1) (by simp) ?_
    intro g cap w' hown' hgr hat hlt
    refine h g cap w' (GrowO.push hO g1 g2 g3 g4 g5 g6 g7 hf hfn hfr hcl hb g8 hown' hgr ?_ rfl) ⟨hgr.os, hgr.tape, hgr.output, hgr.size, fun j hj => hgr.block j (by simp; omega) (fun e => by have := (g6 j e.symm).1; omega)⟩
    rcases hat with h | h
    · exact .inl h.symm
    · refine .inr (fun a ha => ?_)
      have : g = a := by simpa [Value.ownBlock] using ha
      rw [← this, h]; simp
end Go.Proofs.YtmnghlkkfkpjhaaGreatDoor
/-
  Values and names that are bound which lie in a range of blocks; l03CopyEnv of the specification, by contract.
-/
namespace Go.Proofs.YtmnghlkkfkpjhaaGreatDoor
open Go.ChangeShapes Go.WideShapes Go.ChangeAt Go.RowKit
set_option linter.unusedVariables false
set_option maxRecDepth 100000

theorem kept_lt {w w' : World} {g : Nat} (h : w'.heap[g]? = w.heap[g]?) (hl : g < w.heap.size) : g < w'.heap.size := by
  have h1 : w.heap[g]? = some (w.heap[g]) := Array.getElem?_eq_getElem hl
  rw [h1] at h
  exact (Array.getElem?_eq_some_iff.1 h).1
theorem Rows.kept {α : Type} {w w' : World} {S : Nat → Prop} {c : Nat} {R R' : List Value → α → Prop} {v : Value} {xs : List α} (h : Rows w S c R v xs) (hk : ∀ g, S g → w'.heap[g]? = w.heap[g]?) (hR : ∀ cs x, x ∈ xs → R cs x → R' cs x) : Rows w' S c R' v xs := by
  obtain ⟨p, cap, hv, h1, h2, hx⟩ := h
  refine ⟨p, cap, hv, h1, h2, fun hne => ?_⟩
  obtain ⟨g, off, hp, hS, hl, hat⟩ := hx hne
  refine ⟨g, off, hp, hS, kept_lt (hk g hS) hl, fun i x hi => ?_⟩
  obtain ⟨cs, hc, hcs, hr⟩ := hat i x hi
  exact ⟨cs, hc, fun j hj => (World.cell?_of_block (hk g hS)).trans (hcs j hj), hR cs x (List.mem_of_getElem? hi) hr⟩
theorem HVa.kept {w w' : World} {S : Nat → Prop} (hk : ∀ g, S g → w'.heap[g]? = w.heap[g]?) : ∀ {d : Nat} {cs : List Value} {x : Va}, HVa w S d cs x → HVa w' S d cs x
  | 0, _, _, h => h.elim
  | d + 1, cs, x, h => by
    obtain ⟨kv, rfl, h1, h2, h3, hr⟩ := h
    exact ⟨kv, rfl, h1, h2, h3, hr.kept hk (fun _ _ _ h => h.kept hk)⟩
/-- A name that is bound to a value which lies in the blocks fp. -/
def OBr (d : Nat) (w : World) (cs : List Value) (b : Bd) (fp : List Nat) : Prop := HBd w (fun g => g ∈ fp) d cs b
theorem OBr.keeps (d : Nat) : KeepsC (OBr d) := fun w w' cs b fp h hk => by
  obtain ⟨vs, rfl, h1, h2⟩ := h
  exact ⟨vs, rfl, h1, h2.kept hk⟩
def inR (lo hi : Nat) : List Nat := List.range' lo (hi - lo)
theorem inR_mem {lo hi a : Nat} : a ∈ inR lo hi ↔ lo ≤ a ∧ a < hi := by unfold inR; rw [List.mem_range'_1]; omega
theorem inR_nodup (lo hi : Nat) : (inR lo hi).Nodup := List.nodup_range'
theorem OBr.rows {d : Nat} {w : World} {B C : Nat} {v : Value} {xs : List Bd} (h : GrowO 66 5 (OBr d) w B C v xs) : Rows w (fun g => B ≤ g) 5 (HBd w (fun g => B ≤ g) d) v xs := by
  obtain ⟨fp, h1, h2, h3, h4, h5⟩ := h.done
  exact h1.rows (fun a ha => (h3 a ha).1) (fun cs x f hf hs hx => HBd.mono ⟨Nat.le_refl _, fun _ _ _ => rfl⟩ (fun g hg => (h3 g (hs g hg)).1) hx)

set_option maxHeartbeats 8000000 in
/-- THE SPECIFICATION's l03CopyEnv. -/
theorem l03CopyEnv_any (d : Nat) (w : World) (ev : Value) (env : List Bd) (h : Rows w All 5 (HBd w All d) ev env) (hl : env.length ≤ 100000) (hw : ∀ b ∈ env, wtVa d b.val ≤ 1048576) :
    Calls Tryz.prog 39 #[ev] w fun e w' => ∃ u, e = .returned u ∧ Rows w' All 5 (HBd w' All d) u env ∧ Below w.heap.size w w' := by
  obtain ⟨p, cap, rfl, hcl, hcm, hr⟩ := h
  have hnb : env.length ≤ 9223372036854775807 := by omega
  have HL : Hid (env.length ≤ 100000) := hl
  have HWT : Hid (∀ b ∈ env, wtVa d b.val ≤ 1048576) := hw
  generalize hn : env.length = n at *
  have HN : Hid (env.length = n) := hn
  have HR : Hid (env ≠ [] → ∃ g off, p = some ⟨g, off, none⟩ ∧ All g ∧ g < w.heap.size ∧ ∀ i x, env[i]? = some x → ∃ cs, cs.length = 5 ∧ (∀ j, j < 5 → w.cell? ⟨g, off + i * 5 + j, none⟩ = cs[j]?) ∧ HBd w All d cs x) := hr
  have G0 : Hid (GrowO 66 5 (OBr d) (w.alloc (.cells #[] 66)) w.heap.size (w.heap.size + 1) (.slice (some ⟨w.heap.size, 0, none⟩) 0 0) []) := GrowO.fresh
  have B0 : Hid (Below w.heap.size w (w.alloc (.cells #[] 66))) := (Below.refl _ _).alloc (Nat.le_refl _) _
  clear hr hn hl hw
  go_enter Tryz.func39, Tryz.ntmps39
  go_wp2_with fail
  go_loopw [3, 4] (fun ov iv wr => ∃ i : Nat, i ≤ n ∧ iv = .int .i64 i ∧ Hid (GrowO 66 5 (OBr d) wr w.heap.size wr.heap.size ov (env.take i)) ∧ Hid (Below w.heap.size w wr)) (fun _ iv _ => n - (intOf iv).toNat)
  case atStart => exact ⟨0, Nat.zero_le _, rfl, by show GrowO _ _ _ _ _ _ _ _; have := G0.out.more (C' := (w.alloc (.cells #[] 66)).heap.size) (Nat.le_refl _) (by rw [alloc_hs]; exact Nat.le_refl _) (Nat.le_refl _); simpa using this, B0⟩
  case round =>
    obtain ⟨i, hi, rfl, HG, hb⟩ := hrel
    by_cases hlt : i < n
    · obtain ⟨y, hyk⟩ : ∃ y, env[i]? = some y := ⟨env[i]'(by rw [HN.out]; exact hlt), List.getElem?_eq_getElem _⟩
      obtain ⟨g, off, rfl, _, hgl, hat⟩ := HR.out (by intro h; rw [h] at hyk; simp at hyk)
      obtain ⟨cs, hcl6, hcs, us, rfl, hys, r1⟩ := hat i y hyk
      obtain ⟨uk, un, ut, p2, n2, q2, rfl⟩ := r1.shape
      have E1 : Hid (∀ w', SameOn All wr w' → HVa w' All d [.int .i64 uk, .int .i64 un, .string ut, .slice p2 n2 q2] y.val) := fun w' hw => r1.mono (SameOn.trans (SameOn.of_below hb.out) hw) (fun _ h => h)
      have a0 := hcs 0 (by omega)
      have a1 := hcs 1 (by omega)
      have a2 := hcs 2 (by omega)
      have a3 := hcs 3 (by omega)
      have a4 := hcs 4 (by omega)
      rw [← hb.out.cell (p := ⟨g, _, none⟩) hgl] at a0 a1 a2 a3 a4
      simp at a0 a1 a2 a3 a4
      have hki : (i : Int) < (n : Int) := by omega
      have hk0 : (0 : Int) ≤ (i : Int) := by omega
      have hwx : wtVa d y.val ≤ 1048576 := HWT.out y (List.mem_of_getElem? hyk)
      have HTK : Hid (env.take (i + 1) = env.take i ++ [y]) := by show _ = _; rw [List.take_add_one, hyk]; rfl
      have HLT : Hid ((env.take i).length ≤ 100000) := by show _ ≤ _; rw [List.length_take]; have := HL.out; have := HN.out; omega
      have HYS : Hid (okS y.name) := hys
      clear hcs hat hcl6 r1 hys
      have hgw : g < wr.heap.size := Nat.lt_of_lt_of_le hgl hb.out.size
      go_wp2_with fail
      go_region_law
        (first
          | (refine step_push (OBr.keeps d) 34 66 5 72 _ (by rfl) _ _ (by rfl) Tryz.underlying34 info_bd rfl (by decide) (by decide) w.heap.size wr.heap.size u3 (env.take i) (by rfl) [.string y.name, .int .i64 sk, .int .i64 sn, .string st, .slice p3 n3 q3] w1.heap.size (by rfl) rfl y (inR wr.heap.size w1.heap.size) G1.out OX.out (inR_nodup _ _) (fun a ha => inR_mem.1 ha) rfl (bd_oneCell _ _ OX.out) (Nat.le_trans HLT.out (by decide)) ?_; intro gg cap2 w2 hG2 hb2; have HG2 : Hid (GrowO 66 5 (OBr d) w2 w.heap.size w2.heap.size (.slice (some ⟨gg, 0, none⟩) ((env.take i).length + 1) cap2) (env.take (i + 1))) := (by show GrowO _ _ _ _ _ _ _ _; rw [HTK.out]; exact hG2); have K2 : Hid (Below w.heap.size w w2) := ((hb.out.trans (K1.out.mono hb.out.size)).alloc (Nat.le_trans hb.out.size K1.out.size) _).trans hb2; clear hG2 hb2)
          | (go_simp; go_at_call 28; refine (l03Copy_all d _ _ y.val ⟨_, rfl, E1.out _ (by exact ⟨Nat.le_refl _, fun _ _ _ => rfl⟩)⟩ hwx).mono ?_; rintro e w1 ⟨v', rfl, ⟨cs', rfl, hx1⟩, hb1⟩; obtain ⟨sk, sn, st, p3, n3, q3, hsh⟩ := hx1.shape; subst hsh; have K1 : Hid (Below wr.heap.size wr w1) := ⟨hb1.os, hb1.tape, hb1.output, hb1.size, hb1.block⟩; have OX : Hid (OBr d w1 [.string y.name, .int .i64 sk, .int .i64 sn, .string st, .slice p3 n3 q3] y (inR wr.heap.size w1.heap.size)) := ⟨_, rfl, HYS.out, hx1.lowT.mono ⟨Nat.le_refl _, fun _ _ _ => rfl⟩ (fun g hg => inR_mem.2 hg)⟩; have G1 : Hid (GrowO 66 5 (OBr d) w1 w.heap.size wr.heap.size u3 (env.take i)) := HG.out.next (OBr.keeps d) K1.out; have a0' := (K1.out.cell (p := ⟨g, off + i * 5, none⟩) hgw).trans a0; clear hb1 hx1; dsimp only))
      all_goals
        go_wp2_with fail
        exact ⟨⟨i + 1, by omega, by go_num, (by show GrowO _ _ _ _ _ _ _ _; rw [← List.length_take]; exact HG2.out), K2⟩, by simp [intOf]; omega⟩
    · have HE : Hid (GrowO 66 5 (OBr d) wr w.heap.size wr.heap.size u3 env) := by
        have := HG.out
        rwa [List.take_of_length_le (by rw [HN.out]; omega)] at this
      go_wp2_with fail
      go_ret
      exact ⟨_, rfl, (OBr.rows HE.out).mono ⟨Nat.le_refl _, fun _ _ _ => rfl⟩ (fun _ _ => trivial) (fun _ _ _ h => h.mono ⟨Nat.le_refl _, fun _ _ _ => rfl⟩ (fun _ _ => trivial)), hb.out⟩
end Go.Proofs.YtmnghlkkfkpjhaaGreatDoor
/-
  The specification's DrawValText.
-/
namespace Go.Proofs.YtmnghlkkfkpjhaaGreatDoor
open Go.ChangeShapes Go.WideShapes Go.ChangeAt Go.RowKit
set_option linter.unusedVariables false
set_option maxRecDepth 100000

theorem okI_of {x : Int} (h1 : -100 ≤ x) (h2 : x ≤ 100) : okI x := by
  unfold okI Lit.wf
  simp [IntKind.min, IntKind.max, IntKind.signed, IntKind.bits]
  omega
/-- A drawn value, in the memory from B to E, whose kind may be any. -/
def DvK (w : World) (B E n : Nat) (cs : List Value) (x : Va) : Prop := HVa w (fun g => B ≤ g ∧ g < E) (n + 1) cs x ∧ wtVa (n + 1) x + 2 ≤ 4 * 2 ^ n
theorem DvT.low {w : World} {B n : Nat} {cs : List Value} {x : Va} (h : DvT w B n cs x) : DvK w B w.heap.size n cs x := ⟨(HVa.lowT h.1).mono ⟨Nat.le_refl _, fun _ _ _ => rfl⟩ (fun g hg => hg), h.2.2.1⟩
theorem DvK.same {w w' : World} {B E n : Nat} {cs : List Value} {x : Va} (h : DvK w B E n cs x) (hs : SameOn (fun g => B ≤ g ∧ g < E) w w') : DvK w' B E n cs x := ⟨h.1.mono hs (fun _ h => h), h.2⟩
theorem DvK.off {w w' : World} {p B E n : Nat} {cs : List Value} {x : Va} (h : DvK w B E n cs x) (ho : Off [p] w w') (hp : p < B) : DvK w' B E n cs x := h.same ⟨ho.size, fun g hg hl => ho.block g hl (by simp; have := hg.1; omega)⟩
theorem DvK.set {w : World} {B E n b j : Nat} {v : Value} {cs : List Value} {x : Va} (h : DvK w B E n cs x) (hb : b < B ∨ E ≤ b) : DvK (w.setCell ⟨b, j, none⟩ v) B E n cs x := h.same (SameOn.setCell (SameOn.of_below (Below.refl _ _)) (by show ¬ (_ ≤ b ∧ b < _); omega) _)
theorem DvK.kind {w : World} {B E n : Nat} {a b : Int} {s : ByteArray} {p : Option Addr} {k c : Nat} {x : Va} (h : DvK w B E n [.int .i64 a, .int .i64 b, .string s, .slice p k c] x) (a' : Int) (ha : okI a') :
    ∃ x', DvK w B E n [.int .i64 a', .int .i64 b, .string s, .slice p k c] x' := by
  obtain ⟨h1, h3⟩ := h
  cases x with
  | mk kk nn tt ks =>
    obtain ⟨pv, e, hk, hn, ht, hr⟩ := h1
    injection e with e1 e2; injection e2 with e2 e3; injection e3 with e3 e4; injection e4 with e4 _
    injection e2 with _ e2
    injection e3 with e3
    subst e2 e3 e4
    exact ⟨.mk a' b s ks, ⟨_, rfl, ha, hn, ht, hr⟩, h3⟩

set_option maxHeartbeats 8000000 in
theorem drawValText_any (cv : Value) (xs : List Nat) (w : World) (hx : xs.length ≤ 1048576) (hr : Rows w All 1 HByte cv xs) :
    Calls Tryz.prog 17 #[cv] w fun e w' => ∃ sk sn st pk nk x B E, e = .returned (.agg #[.int .i64 sk, .int .i64 sn, .string st, .slice pk nk nk]) ∧ DvK w' B E 3 [.int .i64 sk, .int .i64 sn, .string st, .slice pk nk nk] x ∧ Below w.heap.size w w' := by
  obtain ⟨W0, hW0⟩ : ∃ W0, W0 = w.alloc (.cells #[.int .i64 0, .int .i64 0, .string ⟨#[]⟩, .slice none 0 0] 26) := ⟨_, rfl⟩
  have hal0 : Below w.heap.size w W0 := by rw [hW0]; exact (Below.refl _ _).alloc (Nat.le_refl _) _
  have B0 : Hid (Below w.heap.size w W0) := hal0
  have b0 : Hid (Blk W0 w.heap.size #[.int .i64 0, .int .i64 0, .string ⟨#[]⟩, .slice none 0 0] 26) := by show Blk _ _ _ _; rw [hW0]; exact Blk.new
  have HS0 : Hid (W0.heap.size = w.heap.size + 1) := by show _ = _; rw [hW0, alloc_hs]
  have HR0 : Hid (Rows W0 All 1 HByte cv xs) := Rows.mono hr ⟨hal0.size, fun g _ hl => hal0.block g hl⟩ (fun _ h => h) (fun _ _ _ h => h)
  have HW0 : Hid (W0 = w.alloc (.cells #[.int .i64 0, .int .i64 0, .string ⟨#[]⟩, .slice none 0 0] 26)) := hW0
  clear hr hW0 hal0
  go_enter Tryz.func17, Tryz.ntmps17
  go_wp2_with fail
  rw [← HW0.out]
  refine (l01New_any cv xs _ hx HR0.out).mono ?_
  rintro e w1 ⟨p, rfl, hp, hc1, hb1⟩
  have C1 : Hid (Cur w1 p) := hc1
  have HP : Hid (w.heap.size + 1 ≤ p ∧ p < w1.heap.size) := ⟨by have := HS0.out; omega, hc1.lt⟩
  have B1 : Hid (Below w.heap.size w w1) := B0.out.trans (hb1.mono B0.out.size)
  have b1 : Hid (Blk w1 w.heap.size #[.int .i64 0, .int .i64 0, .string ⟨#[]⟩, .slice none 0 0] 26) := b0.out.next hb1
  clear hp hc1 hb1
  go_wp2_with fail
  refine (l03Val_all 3 (by decide) p _ C1.out).mono ?_
  rintro e w2 ⟨sk, sn, st, pk, nk, x, rfl, hT, hc2, ho2⟩
  have C2 : Hid (Cur w2 p) := hc2
  have HS2 : Hid (w1.heap.size ≤ w2.heap.size) := ho2.size
  have B2 : Hid (Below w.heap.size w w2) := Below.offP B1.out ho2 (by have := HP.out.1; omega) B1.out.size
  have HN : Hid (w.heap.size ∉ [p]) := by show ¬ _; simp; have := HP.out; omega
  have b2 : Hid (Blk w2 w.heap.size #[.int .i64 0, .int .i64 0, .string ⟨#[]⟩, .slice none 0 0] 26) := (ho2.block _ b1.out.lt HN.out).trans b1.out
  have T2 : Hid (DvK w2 w1.heap.size w2.heap.size 3 [.int .i64 sk, .int .i64 sn, .string st, .slice pk nk nk] x) := hT.low
  clear hT hc2 ho2
  obtain ⟨W3, hW3⟩ : ∃ W3, W3 = w2.alloc (.cells #[.int .i64 sk, .int .i64 sn, .string st, .slice pk nk nk] 26) := ⟨_, rfl⟩
  have hal3 : Below w2.heap.size w2 W3 := by rw [hW3]; exact (Below.refl _ _).alloc (Nat.le_refl _) _
  have C3 : Hid (Cur W3 p) := C2.out.next hal3
  have B3 : Hid (Below w.heap.size w W3) := B2.out.trans (hal3.mono B2.out.size)
  have b3 : Hid (Blk W3 w.heap.size #[.int .i64 0, .int .i64 0, .string ⟨#[]⟩, .slice none 0 0] 26) := b2.out.next hal3
  have A3 : Hid (Blk W3 w2.heap.size #[.int .i64 sk, .int .i64 sn, .string st, .slice pk nk nk] 26) := by show Blk _ _ _ _; rw [hW3]; exact Blk.new
  have T3 : Hid (DvK W3 w1.heap.size w2.heap.size 3 [.int .i64 sk, .int .i64 sn, .string st, .slice pk nk nk] x) := T2.out.same (SameOn.of_below hal3)
  have HA : Hid (w2.heap.size ∉ [p]) := by show ¬ _; simp; have := HP.out; have := HS2.out; omega
  have HW3 : Hid (W3 = w2.alloc (.cells #[.int .i64 sk, .int .i64 sn, .string st, .slice pk nk nk] 26)) := hW3
  clear hal3 hW3
  go_wp2_with fail
  rw [show (w2.alloc (.cells #[.int .i64 sk, .int .i64 sn, .string st, .slice pk nk nk] 26)) = W3 from HW3.out.symm]
  refine (l01Once_any p 12 _ C3.out (by decide) (by decide)).mono ?_
  rintro e w4 ⟨bb, rfl, hc4, ho4⟩
  have C4 : Hid (Cur w4 p) := hc4
  have B4 : Hid (Below w.heap.size w w4) := Below.offP B3.out ho4 (by have := HP.out.1; omega) B3.out.size
  have b4 : Hid (Blk w4 w.heap.size #[.int .i64 0, .int .i64 0, .string ⟨#[]⟩, .slice none 0 0] 26) := (ho4.block _ b3.out.lt HN.out).trans b3.out
  have A4 : Hid (Blk w4 w2.heap.size #[.int .i64 sk, .int .i64 sn, .string st, .slice pk nk nk] 26) := (ho4.block _ A3.out.lt HA.out).trans A3.out
  have T4 : Hid (DvK w4 w1.heap.size w2.heap.size 3 [.int .i64 sk, .int .i64 sn, .string st, .slice pk nk nk] x) := T3.out.off ho4 HP.out.2
  clear hc4 ho4
  cases bb with
  | false =>
    have q0 := b4.out.cell 0 _ rfl
    have q1 := b4.out.cell 1 _ rfl
    have q2 := b4.out.cell 2 _ rfl
    have q3 := b4.out.cell 3 _ rfl
    have f0 := b4.out.frozen 0
    have f1 := b4.out.frozen 1
    have f2 := b4.out.frozen 2
    have f3 := b4.out.frozen 3
    have x0 := A4.out.cell 0 _ rfl
    have x1 := A4.out.cell 1 _ rfl
    have x2 := A4.out.cell 2 _ rfl
    have x3 := A4.out.cell 3 _ rfl
    go_wp2_with fail
    have hlt : w.heap.size < w1.heap.size := by have := HP.out; omega
    refine bodyPost_ret (v := .agg #[.int .i64 sk, .int .i64 sn, .string st, .slice pk nk nk]) (by simp [results, Tryz.results17, go_sem, q0, q1, q2, q3]) rfl ⟨sk, sn, st, pk, nk, x, w1.heap.size, w2.heap.size, rfl, DvK.set (DvK.set (DvK.set (DvK.set T4.out (Or.inl hlt)) (Or.inl hlt)) (Or.inl hlt)) (Or.inl hlt), ?_⟩
    exact (((B4.out.setCell (Nat.le_refl _) _).setCell (Nat.le_refl _) _).setCell (Nat.le_refl _) _).setCell (Nat.le_refl _) _
  | true =>
    go_wp2_with fail
    refine (l01Below_any p 7 _ C4.out (by decide) (by decide)).mono ?_
    rintro e w5 ⟨kk, hkk, rfl, hc5, ho5⟩
    have B5 : Hid (Below w.heap.size w w5) := Below.offP B4.out ho5 (by have := HP.out.1; omega) B4.out.size
    have b5 : Hid (Blk w5 w.heap.size #[.int .i64 0, .int .i64 0, .string ⟨#[]⟩, .slice none 0 0] 26) := (ho5.block _ b4.out.lt HN.out).trans b4.out
    have A5 : Hid (Blk w5 w2.heap.size #[.int .i64 sk, .int .i64 sn, .string st, .slice pk nk nk] 26) := (ho5.block _ A4.out.lt HA.out).trans A4.out
    have T5 : Hid (DvK w5 w1.heap.size w2.heap.size 3 [.int .i64 sk, .int .i64 sn, .string st, .slice pk nk nk] x) := T4.out.off ho5 HP.out.2
    have hlt : w.heap.size < w1.heap.size := by have := HP.out; omega
    have HL : Hid (w.heap.size < w2.heap.size) := by have := HP.out; have := HS2.out; show _ < _; omega
    obtain ⟨W6, hW6⟩ : ∃ W6, W6 = w5.setCell ⟨w2.heap.size, 0, none⟩ (.int .i64 ((kk : Int) - 1)) := ⟨_, rfl⟩
    have HW6 : Hid (W6 = w5.setCell ⟨w2.heap.size, 0, none⟩ (.int .i64 ((kk : Int) - 1))) := hW6
    have B6 : Hid (Below w.heap.size w W6) := by show Below _ _ _; rw [hW6]; exact B5.out.setCell (Nat.le_of_lt HL.out) _
    have b6 : Hid (Blk W6 w.heap.size #[.int .i64 0, .int .i64 0, .string ⟨#[]⟩, .slice none 0 0] 26) := by show Blk _ _ _ _; rw [hW6]; exact b5.out.other (Nat.ne_of_lt HL.out)
    have A6 : Hid (Blk W6 w2.heap.size #[.int .i64 ((kk : Int) - 1), .int .i64 sn, .string st, .slice pk nk nk] 26) := by show Blk _ _ _ _; rw [hW6]; exact A5.out.same (j := 0) (v := .int .i64 ((kk : Int) - 1)) rfl
    obtain ⟨x', hx'⟩ := T5.out.kind ((kk : Int) - 1) (okI_of (by omega) (by omega))
    have T6 : Hid (DvK W6 w1.heap.size w2.heap.size 3 [.int .i64 ((kk : Int) - 1), .int .i64 sn, .string st, .slice pk nk nk] x') := by show DvK _ _ _ _ _ _; rw [hW6]; exact hx'.set (Or.inr (Nat.le_refl _))
    have y0 := A5.out.cell 0 _ rfl
    have g0 := A5.out.frozen 0
    have q0 := b6.out.cell 0 _ rfl
    have q1 := b6.out.cell 1 _ rfl
    have q2 := b6.out.cell 2 _ rfl
    have q3 := b6.out.cell 3 _ rfl
    have f0 := b6.out.frozen 0
    have f1 := b6.out.frozen 1
    have f2 := b6.out.frozen 2
    have f3 := b6.out.frozen 3
    have x0 := A6.out.cell 0 _ rfl
    have x1 := A6.out.cell 1 _ rfl
    have x2 := A6.out.cell 2 _ rfl
    have x3 := A6.out.cell 3 _ rfl
    rw [hW6] at q0 q1 q2 q3 f0 f1 f2 f3 x0 x1 x2 x3
    clear hc5 ho5 hx' hW6
    go_wp2_with fail
    rw [← HW6.out] at *
    refine bodyPost_ret (v := .agg #[.int .i64 ((kk : Int) - 1), .int .i64 sn, .string st, .slice pk nk nk]) (by simp [results, Tryz.results17, go_sem, q0, q1, q2, q3]) rfl ⟨_, sn, st, pk, nk, x', w1.heap.size, w2.heap.size, rfl, DvK.set (DvK.set (DvK.set (DvK.set T6.out (Or.inl hlt)) (Or.inl hlt)) (Or.inl hlt)) (Or.inl hlt), ?_⟩
    exact (((B6.out.setCell (Nat.le_refl _) _).setCell (Nat.le_refl _) _).setCell (Nat.le_refl _) _).setCell (Nat.le_refl _) _
end Go.Proofs.YtmnghlkkfkpjhaaGreatDoor
/-
  A region that draws its order, walked by hand: one operation taken, the only one that is ready, one of two.
-/
namespace Go.Proofs.YtmnghlkkfkpjhaaGreatDoor
open Go.ChangeShapes Go.WideShapes Go.ChangeAt Go.RowKit
set_option linter.unusedVariables false
set_option maxRecDepth 100000

/-- The moves of a walk, in short. -/
theorem sqP : (∀ (a : Act) (d : Option Tmp) (v : Value), a.put d v = match d with | none => a | some t => { a with tmps := a.tmps.setIfInBounds t v }) ∧ (∀ (l : List Value) (i : Nat) (v : Value), l.toArray.setIfInBounds i v = (l.set i v).toArray) ∧ (∀ (x y : Value) (l : List Value), (x :: l).set 0 y = y :: l) ∧ ∀ (x y : Value) (l : List Value) (n : Nat), (x :: l).set (n + 1) y = x :: l.set n y :=
  ⟨fun a d v => by cases d <;> rfl, fun l i v => by simp, fun _ _ _ => rfl, fun _ _ _ _ => rfl⟩
theorem tkH {P : Program} {ops : Array Oper} {Q : Exit → Act → World → Prop} {md : Region.Mode} {S : World → Prop} {fuel : Nat} {listed : Array Bool} {a : Act} {w : World} (i : Nat) {oi : Oper} {v : Value} (hi : ops[i]? = some oi) (hw : Region.wanted oi (yielded ops a.tmps) = true) (hy : ∀ w, S w → (execOp a.eval oi).run P w = .ok (.value v) w) (hS : S w)
    (h : wpAnyH P md ops Q S fuel (listed.setIfInBounds i true) (a.put oi.dst v) w) (hs : Region.noSelect ops = true := by kernel_rfl) (hf : Region.free md ops listed i = true := by kernel_rfl) (hr : (Region.ready md ops listed).contains i = true := by kernel_rfl) (hQ : ∀ c a' w, Q (.panic c) a' w ↔ Q (.panic c) a w := by intros; rfl) : wpAnyH P md ops Q S (fuel + 1) listed a w :=
  wpAnyH_take hi hs hf hr (fun c a' w' h => ((hQ c _ w').trans (hQ c a' w').symm).1 h) (Or.inl ⟨hw, hy⟩) hS h
theorem oneH {P : Program} {ops : Array Oper} {Q : Exit → Act → World → Prop} {md : Region.Mode} {S : World → Prop} {fuel : Nat} {listed : Array Bool} {a : Act} {w : World} (i : Nat) {o : Oper} (ho : ops[i]? = some o)
    (h : ∀ K' : Act → World → Prop, Shut (∀ a w, S w → (S w → wpAnyH P md ops Q S fuel (listed.setIfInBounds i true) a w) → K' a w) → if Region.wanted o (yielded ops a.tmps) = true then Oper.wp P o a w K' Q else K' (a.put o.dst undef) w) (hr : Region.ready md ops listed = [i] := by kernel_rfl) : wpAnyH P md ops Q S (fuel + 1) listed a w :=
  wpAnyH_ready hr (by simp) (AllReadyH.cons ho h AllReadyH.nil)
theorem twoH {P : Program} {ops : Array Oper} {Q : Exit → Act → World → Prop} {md : Region.Mode} {S : World → Prop} {fuel : Nat} {listed : Array Bool} {a : Act} {w : World} (i j : Nat) {o o' : Oper} (ho : ops[i]? = some o) (ho' : ops[j]? = some o')
    (h : ∀ K' : Act → World → Prop, Shut (∀ a w, S w → (S w → wpAnyH P md ops Q S fuel (listed.setIfInBounds i true) a w) → K' a w) → if Region.wanted o (yielded ops a.tmps) = true then Oper.wp P o a w K' Q else K' (a.put o.dst undef) w)
    (h' : ∀ K' : Act → World → Prop, Shut (∀ a w, S w → (S w → wpAnyH P md ops Q S fuel (listed.setIfInBounds j true) a w) → K' a w) → if Region.wanted o' (yielded ops a.tmps) = true then Oper.wp P o' a w K' Q else K' (a.put o'.dst undef) w) (hr : Region.ready md ops listed = [i, j] := by kernel_rfl) : wpAnyH P md ops Q S (fuel + 1) listed a w :=
  wpAnyH_ready hr (by simp) (AllReadyH.cons ho h (AllReadyH.cons ho' h' AllReadyH.nil))

end Go.Proofs.YtmnghlkkfkpjhaaGreatDoor
