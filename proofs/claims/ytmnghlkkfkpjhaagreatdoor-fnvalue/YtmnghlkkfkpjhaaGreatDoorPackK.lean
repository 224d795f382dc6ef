/-
  Texts of the proof, packed: DrawZ, DrawQ, DrawX, DrawM.
-/
import Derived.Test.YtmnghlkkfkpjhaaGreatDoorPackG
import Derived.Test.YtmnghlkkfkpjhaaGreatDoorPackI
import Derived.Test.YtmnghlkkfkpjhaaGreatDoorPackJ
/-
  The specification's l03Env: names that are bound, drawn.
-/
namespace Go.Proofs.YtmnghlkkfkpjhaaGreatDoor
open Go.ChangeShapes Go.WideShapes Go.ChangeAt Go.RowKit
set_option linter.unusedVariables false
set_option maxRecDepth 100000

set_option maxHeartbeats 8000000 in
theorem l03Env_any (p : Nat) (w : World) (hc : Cur w p) : Calls Tryz.prog 34 #[.pointer (some ⟨p, 0, none⟩)] w fun e w' =>
    ∃ u env, e = .returned u ∧ env.length ≤ 2 ∧ Rows w' (fun g => w.heap.size ≤ g) 5 (HBd w' (fun g => w.heap.size ≤ g) 2) u env ∧ (∀ b ∈ env, twoV 2 b.val ∧ wtVa 2 b.val ≤ 6 ∧ b.name.size ≤ 1) ∧ Cur w' p ∧ Off [p] w w' := by
  have HP : Hid (p < w.heap.size) := hc.lt
  obtain ⟨W0, hW0⟩ : ∃ W0, W0 = w.alloc (.cells #[] 66) := ⟨_, rfl⟩
  have hal0 : Below w.heap.size w W0 := by rw [hW0]; exact (Below.refl _ _).alloc (Nat.le_refl _) _
  have G0 : Hid (GrowO 66 5 (OBr 2) W0 w.heap.size W0.heap.size (.slice (some ⟨w.heap.size, 0, none⟩) 0 0) []) := by
    show GrowO _ _ _ _ _ _ _ _
    rw [hW0, alloc_hs]
    exact GrowO.fresh
  have C0 : Hid (Cur W0 p) := hc.next hal0
  have O0 : Hid (Off [p] w W0) := Off.of_below hal0
  have HW0 : Hid (W0 = w.alloc (.cells #[] 66)) := hW0
  clear hc hW0 hal0
  go_enter Tryz.func34, Tryz.ntmps34
  go_wp2_with fail
  rw [← HW0.out]
  refine (l01Below_any p 3 _ C0.out (by decide) (by decide)).mono ?_
  rintro e w1 ⟨n, hn, rfl, hc1, ho1⟩
  have C1 : Hid (Cur w1 p) := hc1
  have O1 : Hid (Off [p] w w1) := O0.out.trans ho1
  have G1 : Hid (GrowO 66 5 (OBr 2) w1 w.heap.size w1.heap.size (.slice (some ⟨w.heap.size, 0, none⟩) 0 0) []) := (G0.out.off (OBr.keeps 2) ho1 HP.out).more (Nat.le_refl _) ho1.size (Nat.le_refl _)
  clear hc1 ho1
  go_wp2_with fail
  go_loopw [3, 5] (fun ov iv wr => ∃ (i : Nat) (env : List Bd), i ≤ n ∧ iv = .int .i64 i ∧ env.length = i ∧ Hid (GrowO 66 5 (OBr 2) wr w.heap.size wr.heap.size ov env) ∧ Hid (∀ b ∈ env, twoV 2 b.val ∧ wtVa 2 b.val ≤ 6 ∧ b.name.size ≤ 1) ∧ Hid (Cur wr p) ∧ Hid (Off [p] w wr)) (fun _ iv _ => n - (intOf iv).toNat)
  case atStart => exact ⟨0, [], Nat.zero_le _, rfl, rfl, G1, fun b hb => (List.not_mem_nil hb).elim, C1, O1⟩
  case round =>
    obtain ⟨i, env, hi, rfl, hl, HG, HE, CR, OR⟩ := hrel
    by_cases hlt : i < n
    · have hki : (i : Int) < (n : Int) := by omega
      obtain ⟨W2, hW2⟩ : ∃ W2, W2 = wr.alloc (.cells (strs [⟨#[88]⟩, ⟨#[89]⟩, ⟨#[87]⟩]).toArray 9) := ⟨_, rfl⟩
      have hal : Below wr.heap.size wr W2 := by rw [hW2]; exact (Below.refl _ _).alloc (Nat.le_refl _) _
      have SP : Hid (StrP W2 p (.slice (some ⟨wr.heap.size, 0, none⟩) 3 3) [⟨#[88]⟩, ⟨#[89]⟩, ⟨#[87]⟩]) := by show StrP _ _ _ _; rw [hW2]; exact strP_new [⟨#[88]⟩, ⟨#[89]⟩, ⟨#[87]⟩] CR.out (by decide) (by decide)
      have C2 : Hid (Cur W2 p) := CR.out.next hal
      have O2 : Hid (Off [p] w W2) := OR.out.trans (Off.of_below hal)
      have G2 : Hid (GrowO 66 5 (OBr 2) W2 w.heap.size wr.heap.size u3 env) := HG.out.next (OBr.keeps 2) hal
      have HS2 : Hid (wr.heap.size ≤ W2.heap.size) := hal.size
      have HW2 : Hid (W2 = wr.alloc (.cells (strs [⟨#[88]⟩, ⟨#[89]⟩, ⟨#[87]⟩]).toArray 9)) := hW2
      clear hal hW2
      go_wp2_with fail
      rw [show (wr.alloc (.cells #[.string ⟨#[88]⟩, .string ⟨#[89]⟩, .string ⟨#[87]⟩] 9)) = W2 from HW2.out.symm]
      refine (l01Pick_any p _ [⟨#[88]⟩, ⟨#[89]⟩, ⟨#[87]⟩] _ C2.out (by decide) (by decide) SP.out).mono ?_
      rintro e w3 ⟨nm, hnm, rfl, hc3, ho3⟩
      have C3 : Hid (Cur w3 p) := hc3
      have O3 : Hid (Off [p] w w3) := O2.out.trans ho3
      have G3 : Hid (GrowO 66 5 (OBr 2) w3 w.heap.size wr.heap.size u3 env) := G2.out.off (OBr.keeps 2) ho3 HP.out
      have HS3 : Hid (wr.heap.size ≤ w3.heap.size) := Nat.le_trans HS2.out ho3.size
      have HN1 : Hid (nm.size ≤ 1) := (by decide : ∀ x ∈ ([⟨#[88]⟩, ⟨#[89]⟩, ⟨#[87]⟩] : List ByteArray), x.size ≤ 1) nm hnm
      have HNM : Hid (okS nm) := Nat.le_trans ((by decide : ∀ x ∈ ([⟨#[88]⟩, ⟨#[89]⟩, ⟨#[87]⟩] : List ByteArray), x.size ≤ 1) nm hnm) (by unfold maxLen; omega)
      clear hc3 ho3 hnm
      go_wp2_with fail
      refine (l03Val_all 1 (by decide) p _ C3.out).mono ?_
      rintro e w4 ⟨sk, sn, st, pk, nk, xv, rfl, hT, hc4, ho4⟩
      have C4 : Hid (Cur w4 p) := hc4
      have O4 : Hid (Off [p] w w4) := O3.out.trans ho4
      have G4 : Hid (GrowO 66 5 (OBr 2) w4 w.heap.size wr.heap.size u3 env) := G3.out.off (OBr.keeps 2) ho4 HP.out
      have OX : Hid (OBr 2 w4 [.string nm, .int .i64 sk, .int .i64 sn, .string st, .slice pk nk nk] ⟨nm, xv⟩ (inR w3.heap.size w4.heap.size)) := ⟨_, rfl, HNM.out, (HVa.lowT hT.1).mono ⟨Nat.le_refl _, fun _ _ _ => rfl⟩ (fun g hg => inR_mem.2 hg)⟩
      have HT : Hid (twoV 2 xv ∧ wtVa 2 xv ≤ 6 ∧ nm.size ≤ 1) := ⟨hT.2.1, by have : wtVa 2 xv + 2 ≤ 4 * 2 ^ 1 := hT.2.2.1; omega, HN1.out⟩
      clear hc4 ho4 hT
      go_wp2_with (at_builtin; refine wpList_push (OBr.keeps 2) 34 66 5 72 _ rfl _ _ rfl Tryz.underlying34 info_bd rfl (by decide) (by decide) w.heap.size wr.heap.size u3 env rfl [.string nm, .int .i64 sk, .int .i64 sn, .string st, .slice pk nk nk] rfl ⟨nm, xv⟩ (inR w3.heap.size w4.heap.size) G4.out OX.out (inR_nodup _ _) (fun a ha => ⟨Nat.le_trans HS3.out (inR_mem.1 ha).1, (inR_mem.1 ha).2⟩) rfl (bd_oneCell _ _ OX.out) (by omega) ?_)
      intro v5 w5 hG5 hb5
      have HG5 : Hid (GrowO 66 5 (OBr 2) w5 w.heap.size w5.heap.size v5 (env ++ [⟨nm, xv⟩])) := hG5
      have C5 : Hid (Cur w5 p) := (C4.out.alloc _).low (hb5.mono HP.out)
      have O5 : Hid (Off [p] w w5) := by
        have o := O4.out.trans (Off.of_below ((Below.refl _ _).alloc (Nat.le_refl _) (.cells #[.string nm, .int .i64 sk, .int .i64 sn, .string st, .slice pk nk nk] 66)))
        exact ⟨hb5.os.trans o.os, hb5.tape.trans o.tape, hb5.output.trans o.output, Nat.le_trans o.size hb5.size, fun j hj hn => (hb5.block j hj).trans (o.block j hj hn)⟩
      clear hG5 hb5
      go_wp2_with fail
      exact ⟨⟨i + 1, env ++ [⟨nm, xv⟩], by omega, by go_num, by simp [hl], HG5, (fun b hb => by
        rcases List.mem_append.1 hb with h | h
        · exact HE.out b h
        · obtain rfl := List.mem_singleton.1 h
          exact HT.out), C5, O5⟩, by simp [intOf]; omega⟩
    · go_wp2_with fail
      go_ret
      exact ⟨_, env, rfl, by omega, OBr.rows HG.out, HE.out, CR.out, OR.out⟩
end Go.Proofs.YtmnghlkkfkpjhaaGreatDoor
/-
  The specification's DrawLookup.
-/
namespace Go.Proofs.YtmnghlkkfkpjhaaGreatDoor
open Go.ChangeShapes Go.WideShapes Go.ChangeAt Go.RowKit
set_option linter.unusedVariables false
set_option maxRecDepth 100000

/-- Names that are bound, drawn. -/
def EnvT (w : World) (B : Nat) (u : Value) (env : List Bd) : Prop := env.length ≤ 2 ∧ Rows w (fun g => B ≤ g) 5 (HBd w (fun g => B ≤ g) 2) u env ∧ (∀ b ∈ env, twoV 2 b.val ∧ wtVa 2 b.val ≤ 6 ∧ b.name.size ≤ 1)
theorem EnvT.same {w w' : World} {B : Nat} {u : Value} {env : List Bd} (h : EnvT w B u env) (hs : SameOn (fun g => B ≤ g) w w') : EnvT w' B u env :=
  ⟨h.1, Rows.mono h.2.1 hs (fun _ h => h) (fun _ _ _ h => h.mono hs (fun _ h => h)), h.2.2⟩
theorem EnvT.off {w w' : World} {p B : Nat} {u : Value} {env : List Bd} (h : EnvT w B u env) (ho : Off [p] w w') (hp : p < B) : EnvT w' B u env := h.same ⟨ho.size, fun g hg hl => ho.block g hl (by simp; have : B ≤ g := hg; omega)⟩
theorem EnvT.base {w : World} {B B' : Nat} {u : Value} {env : List Bd} (h : EnvT w B u env) (hB : B' ≤ B) : EnvT w B' u env :=
  ⟨h.1, Rows.mono h.2.1 ⟨Nat.le_refl _, fun _ _ _ => rfl⟩ (fun g hg => Nat.le_trans hB hg) (fun _ _ _ h => h.mono ⟨Nat.le_refl _, fun _ _ _ => rfl⟩ (fun g hg => Nat.le_trans hB hg)), h.2.2⟩

set_option maxHeartbeats 8000000 in
theorem drawLookup_any (cv : Value) (xs : List Nat) (w : World) (hx : xs.length ≤ 1048576) (hr : Rows w All 1 HByte cv xs) :
    Calls Tryz.prog 10 #[cv] w fun e w' => ∃ u env s, e = .returned (.tuple #[u, .string s]) ∧ EnvT w' w.heap.size u env ∧ s.size ≤ 1 ∧ Below w.heap.size w w' := by
  have HR0 : Hid (Rows w All 1 HByte cv xs) := hr
  clear hr
  go_enter Tryz.func10, Tryz.ntmps10
  go_wp2_with fail
  refine (l01New_any cv xs _ hx HR0.out).mono ?_
  rintro e w1 ⟨p, rfl, hp, hc1, hb1⟩
  have C1 : Hid (Cur w1 p) := hc1
  have HP : Hid (w.heap.size ≤ p ∧ p < w1.heap.size) := ⟨hp, hc1.lt⟩
  have B1 : Hid (Below w.heap.size w w1) := hb1
  clear hp hc1 hb1
  go_wp2_with fail
  refine (l03Env_any p _ C1.out).mono ?_
  rintro e w2 ⟨u, env, rfl, he1, he2, he3, hc2, ho2⟩
  have C2 : Hid (Cur w2 p) := hc2
  have B2 : Hid (Below w.heap.size w w2) := Below.offP B1.out ho2 HP.out.1 B1.out.size
  have E2 : Hid (EnvT w2 w1.heap.size u env) := ⟨he1, he2, he3⟩
  clear he1 he2 he3 hc2 ho2
  obtain ⟨W3, hW3⟩ : ∃ W3, W3 = w2.alloc (.cells (strs [⟨#[88]⟩, ⟨#[89]⟩, ⟨#[87]⟩, ⟨#[]⟩, ⟨#[81]⟩]).toArray 9) := ⟨_, rfl⟩
  have hal : Below w2.heap.size w2 W3 := by rw [hW3]; exact (Below.refl _ _).alloc (Nat.le_refl _) _
  have SP : Hid (StrP W3 p (.slice (some ⟨w2.heap.size, 0, none⟩) 5 5) [⟨#[88]⟩, ⟨#[89]⟩, ⟨#[87]⟩, ⟨#[]⟩, ⟨#[81]⟩]) := by show StrP _ _ _ _; rw [hW3]; exact strP_new [⟨#[88]⟩, ⟨#[89]⟩, ⟨#[87]⟩, ⟨#[]⟩, ⟨#[81]⟩] C2.out (by decide) (by decide)
  have C3 : Hid (Cur W3 p) := C2.out.next hal
  have B3 : Hid (Below w.heap.size w W3) := B2.out.trans (hal.mono B2.out.size)
  have E3 : Hid (EnvT W3 w1.heap.size u env) := E2.out.same (SameOn.of_below hal)
  have HW3 : Hid (W3 = w2.alloc (.cells (strs [⟨#[88]⟩, ⟨#[89]⟩, ⟨#[87]⟩, ⟨#[]⟩, ⟨#[81]⟩]).toArray 9)) := hW3
  clear hal hW3
  go_wp2_with fail
  rw [show (w2.alloc (.cells #[.string ⟨#[88]⟩, .string ⟨#[89]⟩, .string ⟨#[87]⟩, .string ⟨#[]⟩, .string ⟨#[81]⟩] 9)) = W3 from HW3.out.symm]
  refine (l01Pick_any p _ [⟨#[88]⟩, ⟨#[89]⟩, ⟨#[87]⟩, ⟨#[]⟩, ⟨#[81]⟩] _ C3.out (by decide) (by decide) SP.out).mono ?_
  rintro e w4 ⟨s, hs, rfl, hc4, ho4⟩
  have B4 : Hid (Below w.heap.size w w4) := Below.offP B3.out ho4 HP.out.1 B3.out.size
  have E4 : Hid (EnvT w4 w1.heap.size u env) := E3.out.off ho4 HP.out.2
  have HS : Hid (s.size ≤ 1) := (by decide : ∀ x ∈ ([⟨#[88]⟩, ⟨#[89]⟩, ⟨#[87]⟩, ⟨#[]⟩, ⟨#[81]⟩] : List ByteArray), x.size ≤ 1) s hs
  clear hs hc4 ho4
  go_wp2_with fail
  exact bodyPost_ret (v := .tuple #[u, .string s]) (by simp [results, Tryz.results10, go_sem]) rfl ⟨u, env, s, rfl, E4.out.base (Nat.le_trans HP.out.1 (Nat.le_of_lt HP.out.2)), HS.out, B4.out⟩
end Go.Proofs.YtmnghlkkfkpjhaaGreatDoor
/-
  The specification's DrawCompareVal.
-/
namespace Go.Proofs.YtmnghlkkfkpjhaaGreatDoor
open Go.ChangeShapes Go.WideShapes Go.ChangeAt Go.RowKit
set_option linter.unusedVariables false
set_option maxRecDepth 100000

theorem blk_set4 {w : World} {b b' : Nat} {c0 c1 c2 c3 : Value} {cs : Array Value} {t : TypeId} (h : Blk w b' cs t) (hne : b' ≠ b) : Blk ((((w.setCell ⟨b, 0, none⟩ (c0)).setCell ⟨b, 1, none⟩ (c1)).setCell ⟨b, 2, none⟩ (c2)).setCell ⟨b, 3, none⟩ (c3)) b' cs t := ((h.other hne).other hne |>.other hne).other hne
theorem dv_set4 {w : World} {b B n : Nat} {c0 c1 c2 c3 : Value} {cs : List Value} {x : Va} (h : DvT w B n cs x) (hb : b < B) : DvT ((((w.setCell ⟨b, 0, none⟩ (c0)).setCell ⟨b, 1, none⟩ (c1)).setCell ⟨b, 2, none⟩ (c2)).setCell ⟨b, 3, none⟩ (c3)) B n cs x :=
  h.same (SameOn.setCell (SameOn.setCell (SameOn.setCell (SameOn.setCell (SameOn.of_below (Below.refl _ _)) (by show ¬ (_ ≤ b); omega) _) (by show ¬ (_ ≤ b); omega) _) (by show ¬ (_ ≤ b); omega) _) (by show ¬ (_ ≤ b); omega) _)
theorem below_set4 {w0 w : World} {b N : Nat} {c0 c1 c2 c3 : Value} (h : Below N w0 w) (hb : N ≤ b) : Below N w0 ((((w.setCell ⟨b, 0, none⟩ (c0)).setCell ⟨b, 1, none⟩ (c1)).setCell ⟨b, 2, none⟩ (c2)).setCell ⟨b, 3, none⟩ (c3)) := (((h.setCell hb _).setCell hb _).setCell hb _).setCell hb _

theorem l03Copy_dv {w : World} {B n : Nat} {cs : List Value} {x : Va} (h : DvT w B n cs x) (hn : n ≤ 10) : Calls Tryz.prog 28 #[.agg cs.toArray] w fun e w' =>
    ∃ sk sn st pk nk ck, e = .returned (.agg #[.int .i64 sk, .int .i64 sn, .string st, .slice pk nk ck]) ∧ DvT w' w.heap.size n [.int .i64 sk, .int .i64 sn, .string st, .slice pk nk ck] x ∧ Below w.heap.size w w' := by
  have hw : wtVa (n + 1) x ≤ 1048576 := by
    have h1 := h.2.2.1
    have h2 : 2 ^ n ≤ 2 ^ 10 := Nat.pow_le_pow_right (by decide) hn
    omega
  refine (l03Copy_all (n + 1) w _ x ⟨cs, rfl, h.1.mono ⟨Nat.le_refl _, fun _ _ _ => rfl⟩ (fun _ _ => trivial)⟩ hw).mono ?_
  rintro e w5 ⟨u, rfl, ⟨cs2, rfl, hv5⟩, hb5⟩
  obtain ⟨sk2, sn2, st2, pk2, nk2, nk3, rfl⟩ := HVa.shape hv5
  exact ⟨sk2, sn2, st2, pk2, nk2, nk3, rfl, ⟨hv5, h.2⟩, hb5⟩

set_option maxHeartbeats 8000000 in
theorem drawCompareVal_any (cv : Value) (xs : List Nat) (w : World) (hx : xs.length ≤ 1048576) (hr : Rows w All 1 HByte cv xs) :
    Calls Tryz.prog 5 #[cv] w fun e w' => ∃ sk sn st pk nk ck xa sk2 sn2 st2 pk2 nk2 ck2 xb, e = .returned (.tuple #[.agg #[.int .i64 sk, .int .i64 sn, .string st, .slice pk nk ck], .agg #[.int .i64 sk2, .int .i64 sn2, .string st2, .slice pk2 nk2 ck2]]) ∧ DvT w' w.heap.size 3 [.int .i64 sk, .int .i64 sn, .string st, .slice pk nk ck] xa ∧ DvT w' w.heap.size 3 [.int .i64 sk2, .int .i64 sn2, .string st2, .slice pk2 nk2 ck2] xb ∧ Below w.heap.size w w' := by
  obtain ⟨W0, hW0⟩ : ∃ W0, W0 = (w.alloc (.cells #[.int .i64 0, .int .i64 0, .string ⟨#[]⟩, .slice none 0 0] 26)).alloc (.cells #[.int .i64 0, .int .i64 0, .string ⟨#[]⟩, .slice none 0 0] 26) := ⟨_, rfl⟩
  have hal0 : Below w.heap.size w W0 := by rw [hW0]; exact ((Below.refl _ _).alloc (Nat.le_refl _) _).alloc (by rw [alloc_hs]; omega) _
  have B0 : Hid (Below w.heap.size w W0) := hal0
  have b0 : Hid (Blk W0 w.heap.size #[.int .i64 0, .int .i64 0, .string ⟨#[]⟩, .slice none 0 0] 26) := by show Blk _ _ _ _; rw [hW0]; exact Blk.next Blk.new ((Below.refl _ _).alloc (Nat.le_refl _) _)
  have r0 : Hid (Blk W0 (w.heap.size + 1) #[.int .i64 0, .int .i64 0, .string ⟨#[]⟩, .slice none 0 0] 26) := by show Blk _ _ _ _; rw [hW0]; have := Blk.new (w := w.alloc (.cells #[.int .i64 0, .int .i64 0, .string ⟨#[]⟩, .slice none 0 0] 26)) (cs := #[.int .i64 0, .int .i64 0, .string ⟨#[]⟩, .slice none 0 0]) (t := 26); rwa [alloc_hs] at this
  have HS0 : Hid (W0.heap.size = w.heap.size + 2) := by show _ = _; rw [hW0, alloc_hs, alloc_hs]
  have HR0 : Hid (Rows W0 All 1 HByte cv xs) := Rows.mono hr ⟨hal0.size, fun g _ hl => hal0.block g hl⟩ (fun _ h => h) (fun _ _ _ h => h)
  have HW0 : Hid (W0 = (w.alloc (.cells #[.int .i64 0, .int .i64 0, .string ⟨#[]⟩, .slice none 0 0] 26)).alloc (.cells #[.int .i64 0, .int .i64 0, .string ⟨#[]⟩, .slice none 0 0] 26)) := hW0
  clear hr hW0 hal0
  go_enter Tryz.func5, Tryz.ntmps5
  go_wp2_with fail
  rw [← HW0.out]
  refine (l01New_any cv xs _ hx HR0.out).mono ?_
  rintro e w1 ⟨p, rfl, hp, hc1, hb1⟩
  have C1 : Hid (Cur w1 p) := hc1
  have HP : Hid (w.heap.size + 2 ≤ p ∧ p < w1.heap.size) := ⟨by have := HS0.out; omega, hc1.lt⟩
  have B1 : Hid (Below w.heap.size w w1) := B0.out.trans (hb1.mono B0.out.size)
  have b1 : Hid (Blk w1 w.heap.size #[.int .i64 0, .int .i64 0, .string ⟨#[]⟩, .slice none 0 0] 26) := b0.out.next hb1
  have r1 : Hid (Blk w1 (w.heap.size + 1) #[.int .i64 0, .int .i64 0, .string ⟨#[]⟩, .slice none 0 0] 26) := r0.out.next hb1
  clear hp hc1 hb1
  go_wp2_with fail
  refine (l03Val_all 3 (by decide) p _ C1.out).mono ?_
  rintro e w2 ⟨sk, sn, st, pk, nk, xa, rfl, hT, hc2, ho2⟩
  have C2 : Hid (Cur w2 p) := hc2
  have HS2 : Hid (w1.heap.size ≤ w2.heap.size) := ho2.size
  have B2 : Hid (Below w.heap.size w w2) := Below.offP B1.out ho2 (by have := HP.out.1; omega) B1.out.size
  have HN : Hid (w.heap.size ∉ [p]) := by show ¬ _; simp; have := HP.out; omega
  have HM : Hid (w.heap.size + 1 ∉ [p]) := by show ¬ _; simp; have := HP.out; omega
  have b2 : Hid (Blk w2 w.heap.size #[.int .i64 0, .int .i64 0, .string ⟨#[]⟩, .slice none 0 0] 26) := (ho2.block _ b1.out.lt HN.out).trans b1.out
  have r2 : Hid (Blk w2 (w.heap.size + 1) #[.int .i64 0, .int .i64 0, .string ⟨#[]⟩, .slice none 0 0] 26) := (ho2.block _ r1.out.lt HM.out).trans r1.out
  have T2 : Hid (DvT w2 w1.heap.size 3 [.int .i64 sk, .int .i64 sn, .string st, .slice pk nk nk] xa) := hT
  clear hT hc2 ho2
  obtain ⟨W3, hW3⟩ : ∃ W3, W3 = w2.alloc (.cells #[.int .i64 sk, .int .i64 sn, .string st, .slice pk nk nk] 26) := ⟨_, rfl⟩
  have hal3 : Below w2.heap.size w2 W3 := by rw [hW3]; exact (Below.refl _ _).alloc (Nat.le_refl _) _
  have C3 : Hid (Cur W3 p) := C2.out.next hal3
  have B3 : Hid (Below w.heap.size w W3) := B2.out.trans (hal3.mono B2.out.size)
  have b3 : Hid (Blk W3 w.heap.size #[.int .i64 0, .int .i64 0, .string ⟨#[]⟩, .slice none 0 0] 26) := b2.out.next hal3
  have r3 : Hid (Blk W3 (w.heap.size + 1) #[.int .i64 0, .int .i64 0, .string ⟨#[]⟩, .slice none 0 0] 26) := r2.out.next hal3
  have A3 : Hid (Blk W3 w2.heap.size #[.int .i64 sk, .int .i64 sn, .string st, .slice pk nk nk] 26) := by show Blk _ _ _ _; rw [hW3]; exact Blk.new
  have T3 : Hid (DvT W3 w1.heap.size 3 [.int .i64 sk, .int .i64 sn, .string st, .slice pk nk nk] xa) := T2.out.same (SameOn.of_below hal3)
  have HA : Hid (w2.heap.size ∉ [p]) := by show ¬ _; simp; have := HP.out; have := HS2.out; omega
  have HW3 : Hid (W3 = w2.alloc (.cells #[.int .i64 sk, .int .i64 sn, .string st, .slice pk nk nk] 26)) := hW3
  have HL : Hid (w1.heap.size ≤ W3.heap.size) := Nat.le_trans HS2.out hal3.size
  clear hal3 hW3
  go_wp2_with fail
  rw [show (w2.alloc (.cells #[.int .i64 sk, .int .i64 sn, .string st, .slice pk nk nk] 26)) = W3 from HW3.out.symm]
  refine (l01Once_any p 4 _ C3.out (by decide) (by decide)).mono ?_
  rintro e w4 ⟨bb, rfl, hc4, ho4⟩
  have C4 : Hid (Cur w4 p) := hc4
  have B4 : Hid (Below w.heap.size w w4) := Below.offP B3.out ho4 (by have := HP.out.1; omega) B3.out.size
  have b4 : Hid (Blk w4 w.heap.size #[.int .i64 0, .int .i64 0, .string ⟨#[]⟩, .slice none 0 0] 26) := (ho4.block _ b3.out.lt HN.out).trans b3.out
  have r4 : Hid (Blk w4 (w.heap.size + 1) #[.int .i64 0, .int .i64 0, .string ⟨#[]⟩, .slice none 0 0] 26) := (ho4.block _ r3.out.lt HM.out).trans r3.out
  have A4 : Hid (Blk w4 w2.heap.size #[.int .i64 sk, .int .i64 sn, .string st, .slice pk nk nk] 26) := (ho4.block _ A3.out.lt HA.out).trans A3.out
  have T4 : Hid (DvT w4 w1.heap.size 3 [.int .i64 sk, .int .i64 sn, .string st, .slice pk nk nk] xa) := T3.out.off ho4 HP.out.2
  have HL4 : Hid (w1.heap.size ≤ w4.heap.size) := Nat.le_trans HL.out ho4.size
  have LT0 : Hid (w.heap.size < w1.heap.size) := by have := HP.out; show _ < _; omega
  have LT1 : Hid (w.heap.size + 1 < w1.heap.size) := by have := HP.out; show _ < _; omega
  clear hc4 ho4
  have z0 := A4.out.cell 0 _ rfl
  have z1 := A4.out.cell 1 _ rfl
  have z2 := A4.out.cell 2 _ rfl
  have z3 := A4.out.cell 3 _ rfl
  cases bb with
  | false =>
    go_wp2_with fail
    go_region_law
      (first
        | (go_simp; go_at_call 26; refine (l03Val_all 3 (by decide) p w4.drew (cur_heapV C4.out rfl)).mono ?_; rintro e w5 ⟨sk2, sn2, st2, pk2, nk2, xb, rfl, hT5, hc5, ho5⟩; have o5 : Hid (Off [p] w4 w5) := (Off.of_below (below_drewN (Below.refl _ _) 1)).trans ho5; have TB5 : Hid (DvT w5 w1.heap.size 3 [.int .i64 sk2, .int .i64 sn2, .string st2, .slice pk2 nk2 nk2] xb) := hT5.base HL4.out; have TA5 : Hid (DvT w5 w1.heap.size 3 [.int .i64 sk, .int .i64 sn, .string st, .slice pk nk nk] xa) := T4.out.off o5.out HP.out.2; have K5 : Hid (Below w.heap.size w w5) := Below.offP B4.out o5.out (by have := HP.out.1; omega) B4.out.size; have A5 : Hid (Blk w5 w2.heap.size #[.int .i64 sk, .int .i64 sn, .string st, .slice pk nk nk] 26) := (o5.out.block _ A4.out.lt HA.out).trans A4.out; have b5 : Hid (Blk w5 w.heap.size #[.int .i64 0, .int .i64 0, .string ⟨#[]⟩, .slice none 0 0] 26) := (o5.out.block _ b4.out.lt HN.out).trans b4.out; have r5 : Hid (Blk w5 (w.heap.size + 1) #[.int .i64 0, .int .i64 0, .string ⟨#[]⟩, .slice none 0 0] 26) := (o5.out.block _ r4.out.lt HM.out).trans r4.out; have x0 := A5.out.cell 0 _ rfl; have x1 := A5.out.cell 1 _ rfl; have x2 := A5.out.cell 2 _ rfl; have x3 := A5.out.cell 3 _ rfl; have q0 := b5.out.cell 0 _ rfl; have f0 := b5.out.frozen 0; have q1 := b5.out.cell 1 _ rfl; have f1 := b5.out.frozen 1; have q2 := b5.out.cell 2 _ rfl; have f2 := b5.out.frozen 2; have q3 := b5.out.cell 3 _ rfl; have f3 := b5.out.frozen 3; have v5 : Hid (Blk ((((w5.setCell ⟨w.heap.size, 0, none⟩ (.int .i64 sk)).setCell ⟨w.heap.size, 1, none⟩ (.int .i64 sn)).setCell ⟨w.heap.size, 2, none⟩ (.string st)).setCell ⟨w.heap.size, 3, none⟩ (.slice pk nk nk)) (w.heap.size + 1) #[.int .i64 0, .int .i64 0, .string ⟨#[]⟩, .slice none 0 0] 26) := blk_set4 r5.out (Nat.succ_ne_self _); have y0 := v5.out.cell 0 _ rfl; have g0 := v5.out.frozen 0; have y1 := v5.out.cell 1 _ rfl; have g1 := v5.out.frozen 1; have y2 := v5.out.cell 2 _ rfl; have g2 := v5.out.frozen 2; have y3 := v5.out.cell 3 _ rfl; have g3 := v5.out.frozen 3; clear hT5 hc5 ho5; dsimp only))
    all_goals
      go_wp2_with fail
      exact bodyPost_ret (v := .tuple #[.agg #[.int .i64 sk, .int .i64 sn, .string st, .slice pk nk nk], .agg #[.int .i64 sk2, .int .i64 sn2, .string st2, .slice pk2 nk2 nk2]]) (by simp [results, Tryz.results5, go_sem, q0, q1, q2, q3, y0, y1, y2, y3]) rfl ⟨_, _, _, _, _, _, xa, _, _, _, _, _, _, xb, rfl, (dv_set4 (dv_set4 TA5.out LT0.out) LT1.out).base (Nat.le_of_lt LT0.out), (dv_set4 (dv_set4 TB5.out LT0.out) LT1.out).base (Nat.le_of_lt LT0.out), below_set4 (below_set4 K5.out (Nat.le_refl _)) (Nat.le_succ _)⟩
  | true =>
    go_wp2_with fail
    go_region_law
      (first
        | (go_simp; go_at_call 28; refine (l03Copy_dv (w := w4.drew) (n := 3) (T4.out.same ⟨Nat.le_refl _, fun _ _ _ => rfl⟩) (by decide)).mono ?_; rintro e w5 ⟨sk2, sn2, st2, pk2, nk2, nk3, rfl, hv5, hb5⟩; have k5 : Hid (Below w4.heap.size w4 w5) := ⟨hb5.os, hb5.tape, hb5.output, hb5.size, hb5.block⟩; have TB5 : Hid (DvT w5 w1.heap.size 3 [.int .i64 sk2, .int .i64 sn2, .string st2, .slice pk2 nk2 nk3] xa) := hv5.base HL4.out; have TA5 : Hid (DvT w5 w1.heap.size 3 [.int .i64 sk, .int .i64 sn, .string st, .slice pk nk nk] xa) := T4.out.same (SameOn.of_below k5.out); have K5 : Hid (Below w.heap.size w w5) := B4.out.trans (k5.out.mono B4.out.size); have A5 : Hid (Blk w5 w2.heap.size #[.int .i64 sk, .int .i64 sn, .string st, .slice pk nk nk] 26) := A4.out.next k5.out; have b5 : Hid (Blk w5 w.heap.size #[.int .i64 0, .int .i64 0, .string ⟨#[]⟩, .slice none 0 0] 26) := b4.out.next k5.out; have r5 : Hid (Blk w5 (w.heap.size + 1) #[.int .i64 0, .int .i64 0, .string ⟨#[]⟩, .slice none 0 0] 26) := r4.out.next k5.out; have x0 := A5.out.cell 0 _ rfl; have x1 := A5.out.cell 1 _ rfl; have x2 := A5.out.cell 2 _ rfl; have x3 := A5.out.cell 3 _ rfl; have q0 := b5.out.cell 0 _ rfl; have f0 := b5.out.frozen 0; have q1 := b5.out.cell 1 _ rfl; have f1 := b5.out.frozen 1; have q2 := b5.out.cell 2 _ rfl; have f2 := b5.out.frozen 2; have q3 := b5.out.cell 3 _ rfl; have f3 := b5.out.frozen 3; have v5 : Hid (Blk ((((w5.setCell ⟨w.heap.size, 0, none⟩ (.int .i64 sk)).setCell ⟨w.heap.size, 1, none⟩ (.int .i64 sn)).setCell ⟨w.heap.size, 2, none⟩ (.string st)).setCell ⟨w.heap.size, 3, none⟩ (.slice pk nk nk)) (w.heap.size + 1) #[.int .i64 0, .int .i64 0, .string ⟨#[]⟩, .slice none 0 0] 26) := blk_set4 r5.out (Nat.succ_ne_self _); have y0 := v5.out.cell 0 _ rfl; have g0 := v5.out.frozen 0; have y1 := v5.out.cell 1 _ rfl; have g1 := v5.out.frozen 1; have y2 := v5.out.cell 2 _ rfl; have g2 := v5.out.frozen 2; have y3 := v5.out.cell 3 _ rfl; have g3 := v5.out.frozen 3; clear hv5 hb5; dsimp only))
    all_goals
      go_wp2_with fail
      exact bodyPost_ret (v := .tuple #[.agg #[.int .i64 sk, .int .i64 sn, .string st, .slice pk nk nk], .agg #[.int .i64 sk2, .int .i64 sn2, .string st2, .slice pk2 nk2 nk3]]) (by simp [results, Tryz.results5, go_sem, q0, q1, q2, q3, y0, y1, y2, y3]) rfl ⟨_, _, _, _, _, _, xa, _, _, _, _, _, _, xa, rfl, (dv_set4 (dv_set4 TA5.out LT0.out) LT1.out).base (Nat.le_of_lt LT0.out), (dv_set4 (dv_set4 TB5.out LT0.out) LT1.out).base (Nat.le_of_lt LT0.out), below_set4 (below_set4 K5.out (Nat.le_refl _)) (Nat.le_succ _)⟩
end Go.Proofs.YtmnghlkkfkpjhaaGreatDoor
/-
  The specification's DrawMatch.
-/
namespace Go.Proofs.YtmnghlkkfkpjhaaGreatDoor
open Go.ChangeShapes Go.WideShapes Go.ChangeAt Go.RowKit
set_option linter.unusedVariables false
set_option maxRecDepth 100000

theorem blk_set6M {w : World} {b b' : Nat} {c0 c1 c2 c3 c4 c5 : Value} {cs : Array Value} {t : TypeId} (h : Blk w b' cs t) (hne : b' ≠ b) : Blk ((((((w.setCell ⟨b, 0, none⟩ (c0)).setCell ⟨b, 1, none⟩ (c1)).setCell ⟨b, 2, none⟩ (c2)).setCell ⟨b, 3, none⟩ (c3)).setCell ⟨b, 4, none⟩ (c4)).setCell ⟨b, 5, none⟩ (c5)) b' cs t := ((((((h.other hne).other hne).other hne).other hne).other hne).other hne)
theorem same_set6 {w : World} {b B : Nat} {c0 c1 c2 c3 c4 c5 : Value} (hb : b < B) : SameOn (fun g => B ≤ g) w ((((((w.setCell ⟨b, 0, none⟩ (c0)).setCell ⟨b, 1, none⟩ (c1)).setCell ⟨b, 2, none⟩ (c2)).setCell ⟨b, 3, none⟩ (c3)).setCell ⟨b, 4, none⟩ (c4)).setCell ⟨b, 5, none⟩ (c5)) :=
  SameOn.setCell (SameOn.setCell (SameOn.setCell (SameOn.setCell (SameOn.setCell (SameOn.setCell (SameOn.of_below (Below.refl _ _)) (by show ¬ (_ ≤ b); omega) _) (by show ¬ (_ ≤ b); omega) _) (by show ¬ (_ ≤ b); omega) _) (by show ¬ (_ ≤ b); omega) _) (by show ¬ (_ ≤ b); omega) _) (by show ¬ (_ ≤ b); omega) _
theorem same_set4 {w : World} {b B : Nat} {c0 c1 c2 c3 : Value} (hb : b < B) : SameOn (fun g => B ≤ g) w ((((w.setCell ⟨b, 0, none⟩ (c0)).setCell ⟨b, 1, none⟩ (c1)).setCell ⟨b, 2, none⟩ (c2)).setCell ⟨b, 3, none⟩ (c3)) :=
  SameOn.setCell (SameOn.setCell (SameOn.setCell (SameOn.setCell (SameOn.of_below (Below.refl _ _)) (by show ¬ (_ ≤ b); omega) _) (by show ¬ (_ ≤ b); omega) _) (by show ¬ (_ ≤ b); omega) _) (by show ¬ (_ ≤ b); omega) _
theorem pt_set6 {w : World} {b B n : Nat} {c0 c1 c2 c3 c4 c5 : Value} {cs : List Value} {x : Ex} (h : PtT w B n cs x) (hb : b < B) : PtT ((((((w.setCell ⟨b, 0, none⟩ (c0)).setCell ⟨b, 1, none⟩ (c1)).setCell ⟨b, 2, none⟩ (c2)).setCell ⟨b, 3, none⟩ (c3)).setCell ⟨b, 4, none⟩ (c4)).setCell ⟨b, 5, none⟩ (c5)) B n cs x := h.same (same_set6 hb)
theorem dv_set6 {w : World} {b B n : Nat} {c0 c1 c2 c3 c4 c5 : Value} {cs : List Value} {x : Va} (h : DvT w B n cs x) (hb : b < B) : DvT ((((((w.setCell ⟨b, 0, none⟩ (c0)).setCell ⟨b, 1, none⟩ (c1)).setCell ⟨b, 2, none⟩ (c2)).setCell ⟨b, 3, none⟩ (c3)).setCell ⟨b, 4, none⟩ (c4)).setCell ⟨b, 5, none⟩ (c5)) B n cs x := h.same (same_set6 hb)
set_option maxHeartbeats 8000000 in
theorem drawMatch_any (cv : Value) (xs : List Nat) (w : World) (hx : xs.length ≤ 1048576) (hr : Rows w All 1 HByte cv xs) :
    Calls Tryz.prog 7 #[cv] w fun e w' => ∃ k m t s p1 n1 c1 y sk sn st pk nk x u env, e = .returned (.tuple #[.agg #[.int .i64 k, .int .i64 m, .string t, .string s, .slice p1 n1 c1, .slice none 0 0], .agg #[.int .i64 sk, .int .i64 sn, .string st, .slice pk nk nk], u]) ∧ PtT w' w.heap.size 2 [.int .i64 k, .int .i64 m, .string t, .string s, .slice p1 n1 c1, .slice none 0 0] y ∧ DvT w' w.heap.size 2 [.int .i64 sk, .int .i64 sn, .string st, .slice pk nk nk] x ∧ EnvT w' w.heap.size u env ∧ Below w.heap.size w w' := by
  obtain ⟨W0, hW0⟩ : ∃ W0, W0 = (w.alloc (.cells #[.int .i64 0, .int .i64 0, .string ⟨#[]⟩, .string ⟨#[]⟩, .slice none 0 0, .slice none 0 0] 33)).alloc (.cells #[.int .i64 0, .int .i64 0, .string ⟨#[]⟩, .slice none 0 0] 26) := ⟨_, rfl⟩
  have hal0 : Below w.heap.size w W0 := by rw [hW0]; exact ((Below.refl _ _).alloc (Nat.le_refl _) _).alloc (by rw [alloc_hs]; omega) _
  have B0 : Hid (Below w.heap.size w W0) := hal0
  have e0 : Hid (Blk W0 w.heap.size #[.int .i64 0, .int .i64 0, .string ⟨#[]⟩, .string ⟨#[]⟩, .slice none 0 0, .slice none 0 0] 33) := by show Blk _ _ _ _; rw [hW0]; exact Blk.next Blk.new ((Below.refl _ _).alloc (Nat.le_refl _) _)
  have r0 : Hid (Blk W0 (w.heap.size + 1) #[.int .i64 0, .int .i64 0, .string ⟨#[]⟩, .slice none 0 0] 26) := by show Blk _ _ _ _; rw [hW0]; have := Blk.new (w := w.alloc (.cells #[.int .i64 0, .int .i64 0, .string ⟨#[]⟩, .string ⟨#[]⟩, .slice none 0 0, .slice none 0 0] 33)) (cs := #[.int .i64 0, .int .i64 0, .string ⟨#[]⟩, .slice none 0 0]) (t := 26); rwa [alloc_hs] at this
  have HS0 : Hid (W0.heap.size = w.heap.size + 2) := by show _ = _; rw [hW0, alloc_hs, alloc_hs]
  have HR0 : Hid (Rows W0 All 1 HByte cv xs) := Rows.mono hr ⟨hal0.size, fun g _ hl => hal0.block g hl⟩ (fun _ h => h) (fun _ _ _ h => h)
  have HW0 : Hid (W0 = (w.alloc (.cells #[.int .i64 0, .int .i64 0, .string ⟨#[]⟩, .string ⟨#[]⟩, .slice none 0 0, .slice none 0 0] 33)).alloc (.cells #[.int .i64 0, .int .i64 0, .string ⟨#[]⟩, .slice none 0 0] 26)) := hW0
  clear hr hW0 hal0
  go_enter Tryz.func7, Tryz.ntmps7
  go_wp2_with fail
  rw [← HW0.out]
  refine (l01New_any cv xs _ hx HR0.out).mono ?_
  rintro e w1 ⟨p, rfl, hp, hc1, hb1⟩
  have C1 : Hid (Cur w1 p) := hc1
  have HP : Hid (w.heap.size + 2 ≤ p ∧ p < w1.heap.size) := ⟨by have := HS0.out; omega, hc1.lt⟩
  have B1 : Hid (Below w.heap.size w w1) := B0.out.trans (hb1.mono B0.out.size)
  have e1 : Hid (Blk w1 w.heap.size #[.int .i64 0, .int .i64 0, .string ⟨#[]⟩, .string ⟨#[]⟩, .slice none 0 0, .slice none 0 0] 33) := e0.out.next hb1
  have r1 : Hid (Blk w1 (w.heap.size + 1) #[.int .i64 0, .int .i64 0, .string ⟨#[]⟩, .slice none 0 0] 26) := r0.out.next hb1
  have LT0 : Hid (w.heap.size < w1.heap.size) := by have := HP.out; show _ < _; omega
  have LT1 : Hid (w.heap.size + 1 < w1.heap.size) := by have := HP.out; show _ < _; omega
  have HN : Hid (w.heap.size ∉ [p]) := by show ¬ _; simp; have := HP.out; omega
  have HM : Hid (w.heap.size + 1 ∉ [p]) := by show ¬ _; simp; have := HP.out; omega
  clear hp hc1 hb1 e0 r0 B0 HS0 HR0
  go_wp2_with fail
  refine (l03Val_all 2 (by decide) p _ C1.out).mono ?_
  rintro e w2 ⟨sk, sn, st, pk, nk, x, rfl, hT, hc2, ho2⟩
  have C2 : Hid (Cur w2 p) := hc2
  have HS2 : Hid (w1.heap.size ≤ w2.heap.size) := ho2.size
  have B2 : Hid (Below w.heap.size w w2) := Below.offP B1.out ho2 (by have := HP.out.1; omega) B1.out.size
  have e2 : Hid (Blk w2 w.heap.size #[.int .i64 0, .int .i64 0, .string ⟨#[]⟩, .string ⟨#[]⟩, .slice none 0 0, .slice none 0 0] 33) := (ho2.block _ e1.out.lt HN.out).trans e1.out
  have r2 : Hid (Blk w2 (w.heap.size + 1) #[.int .i64 0, .int .i64 0, .string ⟨#[]⟩, .slice none 0 0] 26) := (ho2.block _ r1.out.lt HM.out).trans r1.out
  have TV2 : Hid (DvT w2 w1.heap.size 2 [.int .i64 sk, .int .i64 sn, .string st, .slice pk nk nk] x) := hT
  clear hT hc2 ho2 e1 r1
  obtain ⟨W3, hW3⟩ : ∃ W3, W3 = w2.alloc (.cells #[.int .i64 sk, .int .i64 sn, .string st, .slice pk nk nk] 26) := ⟨_, rfl⟩
  have hal3 : Below w2.heap.size w2 W3 := by rw [hW3]; exact (Below.refl _ _).alloc (Nat.le_refl _) _
  have C3 : Hid (Cur W3 p) := C2.out.next hal3
  have B3 : Hid (Below w.heap.size w W3) := B2.out.trans (hal3.mono B2.out.size)
  have e3 : Hid (Blk W3 w.heap.size #[.int .i64 0, .int .i64 0, .string ⟨#[]⟩, .string ⟨#[]⟩, .slice none 0 0, .slice none 0 0] 33) := e2.out.next hal3
  have r3 : Hid (Blk W3 (w.heap.size + 1) #[.int .i64 0, .int .i64 0, .string ⟨#[]⟩, .slice none 0 0] 26) := r2.out.next hal3
  have v3 : Hid (Blk W3 w2.heap.size #[.int .i64 sk, .int .i64 sn, .string st, .slice pk nk nk] 26) := by show Blk _ _ _ _; rw [hW3]; exact Blk.new
  have TV3 : Hid (DvT W3 w1.heap.size 2 [.int .i64 sk, .int .i64 sn, .string st, .slice pk nk nk] x) := TV2.out.same (SameOn.of_below hal3)
  have HA : Hid (w2.heap.size ∉ [p]) := by show ¬ _; simp; have := HP.out; have := HS2.out; omega
  have HV1 : Hid (w2.heap.size ≠ w.heap.size) := by have := HP.out; have := HS2.out; show _ ≠ _; omega
  have HV2 : Hid (w2.heap.size ≠ w.heap.size + 1) := by have := HP.out; have := HS2.out; show _ ≠ _; omega
  have HW3 : Hid (W3 = w2.alloc (.cells #[.int .i64 sk, .int .i64 sn, .string st, .slice pk nk nk] 26)) := hW3
  have L3 : Hid (w1.heap.size ≤ W3.heap.size ∧ w2.heap.size < W3.heap.size) := ⟨Nat.le_trans HS2.out hal3.size, by rw [hW3, alloc_hs]; omega⟩
  clear hal3 hW3 e2 r2 C2 B2 TV2
  have z0 := v3.out.cell 0 _ rfl
  have z1 := v3.out.cell 1 _ rfl
  have z2 := v3.out.cell 2 _ rfl
  have z3 := v3.out.cell 3 _ rfl
  go_wp2_with (rw [show (w2.alloc (.cells #[.int .i64 sk, .int .i64 sn, .string st, .slice pk nk nk] 26)) = W3 from HW3.out.symm])
  refine (l03Pat_all 2 (by decide) p _ [.int .i64 sk, .int .i64 sn, .string st, .slice pk nk nk] x C3.out (HVa.mono ⟨Nat.le_refl _, fun _ _ _ => rfl⟩ (fun g hg => by have : w1.heap.size ≤ g := hg; have := HP.out.2; show g ≠ p; omega) TV3.out.1) TV3.out.2.2.2).mono ?_
  rintro e w4 ⟨k, m, t, s, p1, n1, c1, y, rfl, hT, hc4, ho4⟩
  have C4 : Hid (Cur w4 p) := hc4
  have B4 : Hid (Below w.heap.size w w4) := Below.offP B3.out ho4 (by have := HP.out.1; omega) B3.out.size
  have e4 : Hid (Blk w4 w.heap.size #[.int .i64 0, .int .i64 0, .string ⟨#[]⟩, .string ⟨#[]⟩, .slice none 0 0, .slice none 0 0] 33) := (ho4.block _ e3.out.lt HN.out).trans e3.out
  have r4 : Hid (Blk w4 (w.heap.size + 1) #[.int .i64 0, .int .i64 0, .string ⟨#[]⟩, .slice none 0 0] 26) := (ho4.block _ r3.out.lt HM.out).trans r3.out
  have v4 : Hid (Blk w4 w2.heap.size #[.int .i64 sk, .int .i64 sn, .string st, .slice pk nk nk] 26) := (ho4.block _ v3.out.lt HA.out).trans v3.out
  have TV4 : Hid (DvT w4 w1.heap.size 2 [.int .i64 sk, .int .i64 sn, .string st, .slice pk nk nk] x) := TV3.out.off ho4 HP.out.2
  have TP4 : Hid (PtT w4 W3.heap.size 2 [.int .i64 k, .int .i64 m, .string t, .string s, .slice p1 n1 c1, .slice none 0 0] y) := hT
  have L4 : Hid (w1.heap.size ≤ w4.heap.size ∧ w2.heap.size < w4.heap.size) := ⟨Nat.le_trans L3.out.1 ho4.size, Nat.lt_of_lt_of_le L3.out.2 ho4.size⟩
  clear hT hc4 ho4 e3 r3 v3 TV3 C3 B3 z0 z1 z2 z3
  obtain ⟨W5, hW5⟩ : ∃ W5, W5 = w4.alloc (.cells #[.int .i64 k, .int .i64 m, .string t, .string s, .slice p1 n1 c1, .slice none 0 0] 33) := ⟨_, rfl⟩
  have hal5 : Below w4.heap.size w4 W5 := by rw [hW5]; exact (Below.refl _ _).alloc (Nat.le_refl _) _
  have C5 : Hid (Cur W5 p) := C4.out.next hal5
  have B5 : Hid (Below w.heap.size w W5) := B4.out.trans (hal5.mono B4.out.size)
  have e5 : Hid (Blk W5 w.heap.size #[.int .i64 0, .int .i64 0, .string ⟨#[]⟩, .string ⟨#[]⟩, .slice none 0 0, .slice none 0 0] 33) := e4.out.next hal5
  have r5 : Hid (Blk W5 (w.heap.size + 1) #[.int .i64 0, .int .i64 0, .string ⟨#[]⟩, .slice none 0 0] 26) := r4.out.next hal5
  have v5 : Hid (Blk W5 w2.heap.size #[.int .i64 sk, .int .i64 sn, .string st, .slice pk nk nk] 26) := v4.out.next hal5
  have p5 : Hid (Blk W5 w4.heap.size #[.int .i64 k, .int .i64 m, .string t, .string s, .slice p1 n1 c1, .slice none 0 0] 33) := by show Blk _ _ _ _; rw [hW5]; exact Blk.new
  have TV5 : Hid (DvT W5 w1.heap.size 2 [.int .i64 sk, .int .i64 sn, .string st, .slice pk nk nk] x) := TV4.out.same (SameOn.of_below hal5)
  have TP5 : Hid (PtT W5 W3.heap.size 2 [.int .i64 k, .int .i64 m, .string t, .string s, .slice p1 n1 c1, .slice none 0 0] y) := TP4.out.same (SameOn.of_below hal5)
  have HQ : Hid (w4.heap.size ∉ [p]) := by show ¬ _; simp; have := HP.out; have := L4.out; omega
  have HQ2 : Hid (w4.heap.size ≠ w2.heap.size) := by have := L4.out; show _ ≠ _; omega
  have HW5 : Hid (W5 = w4.alloc (.cells #[.int .i64 k, .int .i64 m, .string t, .string s, .slice p1 n1 c1, .slice none 0 0] 33)) := hW5
  have L5 : Hid (w1.heap.size ≤ W5.heap.size) := Nat.le_trans L4.out.1 hal5.size
  clear hal5 hW5 e4 r4 v4 C4 B4 TV4 TP4
  go_wp2_with fail
  rw [show (w4.alloc (.cells #[.int .i64 k, .int .i64 m, .string t, .string s, .slice p1 n1 c1, .slice none 0 0] 33)) = W5 from HW5.out.symm]
  refine (l01Once_any p 3 _ C5.out (by decide) (by decide)).mono ?_
  rintro e w6 ⟨bb, rfl, hc6, ho6⟩
  have Cw6 : Hid (Cur w6 p) := hc6
  have Bw6 : Hid (Below w.heap.size w w6) := Below.offP B5.out ho6 (by have := HP.out.1; omega) B5.out.size
  have ew6 : Hid (Blk w6 w.heap.size #[.int .i64 0, .int .i64 0, .string ⟨#[]⟩, .string ⟨#[]⟩, .slice none 0 0, .slice none 0 0] 33) := (ho6.block _ e5.out.lt HN.out).trans e5.out
  have rw6 : Hid (Blk w6 (w.heap.size + 1) #[.int .i64 0, .int .i64 0, .string ⟨#[]⟩, .slice none 0 0] 26) := (ho6.block _ r5.out.lt HM.out).trans r5.out
  have vw6 : Hid (Blk w6 w2.heap.size #[.int .i64 sk, .int .i64 sn, .string st, .slice pk nk nk] 26) := (ho6.block _ v5.out.lt HA.out).trans v5.out
  have pw6 : Hid (Blk w6 w4.heap.size #[.int .i64 k, .int .i64 m, .string t, .string s, .slice p1 n1 c1, .slice none 0 0] 33) := (ho6.block _ p5.out.lt HQ.out).trans p5.out
  have TVw6 : Hid (DvT w6 w1.heap.size 2 [.int .i64 sk, .int .i64 sn, .string st, .slice pk nk nk] x) := TV5.out.off ho6 HP.out.2
  have TPw6 : Hid (PtT w6 W3.heap.size 2 [.int .i64 k, .int .i64 m, .string t, .string s, .slice p1 n1 c1, .slice none 0 0] y) := TP5.out.same ⟨ho6.size, fun g hg hl => ho6.block g hl (by simp; have : W3.heap.size ≤ g := hg; have := HP.out.2; have := L3.out; omega)⟩
  have Lw6 : Hid (w1.heap.size ≤ w6.heap.size) := Nat.le_trans L5.out ho6.size
  clear hc6 ho6 e5 r5 v5 p5 C5 B5 TV5 TP5 L5
  cases bb with
  | false =>
    have z0 := vw6.out.cell 0 _ rfl
    have z1 := vw6.out.cell 1 _ rfl
    have z2 := vw6.out.cell 2 _ rfl
    have z3 := vw6.out.cell 3 _ rfl
    have a0 := pw6.out.cell 0 _ rfl
    have a1 := pw6.out.cell 1 _ rfl
    have a2 := pw6.out.cell 2 _ rfl
    have a3 := pw6.out.cell 3 _ rfl
    have a4 := pw6.out.cell 4 _ rfl
    have a5 := pw6.out.cell 5 _ rfl
    go_wp2_with fail
    go_region_law
      (first
        | (go_simp; go_at_call 34; refine (l03Env_any p w6.drew (cur_heapV Cw6.out rfl)).mono ?_; rintro e w5 ⟨u, env, rfl, he1, he2, he3, hc5, ho5⟩; have o5 : Hid (Off [p] w6 w5) := (Off.of_below (below_drewN (Below.refl _ _) 1)).trans ho5; have EN : Hid (EnvT w5 w1.heap.size u env) := EnvT.base (B := w6.heap.size) ⟨he1, he2, he3⟩ Lw6.out; have TP5 : Hid (PtT w5 w1.heap.size 2 [.int .i64 k, .int .i64 m, .string t, .string s, .slice p1 n1 c1, .slice none 0 0] y) := PtT.base (PtT.same TPw6.out ⟨o5.out.size, fun g hg hl => o5.out.block g hl (by simp; have : W3.heap.size ≤ g := hg; have := HP.out.2; have := L3.out; omega)⟩) L3.out.1; have TV5 : Hid (DvT w5 w1.heap.size 2 [.int .i64 sk, .int .i64 sn, .string st, .slice pk nk nk] x) := TVw6.out.off o5.out HP.out.2; have K5 : Hid (Below w.heap.size w w5) := Below.offP Bw6.out o5.out (by have := HP.out.1; omega) Bw6.out.size; have e5 : Hid (Blk w5 w.heap.size #[.int .i64 0, .int .i64 0, .string ⟨#[]⟩, .string ⟨#[]⟩, .slice none 0 0, .slice none 0 0] 33) := (o5.out.block _ ew6.out.lt HN.out).trans ew6.out; have r5 : Hid (Blk w5 (w.heap.size + 1) #[.int .i64 0, .int .i64 0, .string ⟨#[]⟩, .slice none 0 0] 26) := (o5.out.block _ rw6.out.lt HM.out).trans rw6.out; have v5 : Hid (Blk w5 w2.heap.size #[.int .i64 sk, .int .i64 sn, .string st, .slice pk nk nk] 26) := (o5.out.block _ vw6.out.lt HA.out).trans vw6.out; have p5 : Hid (Blk w5 w4.heap.size #[.int .i64 k, .int .i64 m, .string t, .string s, .slice p1 n1 c1, .slice none 0 0] 33) := (o5.out.block _ pw6.out.lt HQ.out).trans pw6.out; have v6 : Hid (Blk ((((((w5.setCell ⟨w.heap.size, 0, none⟩ (.int .i64 k)).setCell ⟨w.heap.size, 1, none⟩ (.int .i64 m)).setCell ⟨w.heap.size, 2, none⟩ (.string t)).setCell ⟨w.heap.size, 3, none⟩ (.string s)).setCell ⟨w.heap.size, 4, none⟩ (.slice p1 n1 c1)).setCell ⟨w.heap.size, 5, none⟩ (.slice none 0 0)) w2.heap.size #[.int .i64 sk, .int .i64 sn, .string st, .slice pk nk nk] 26) := blk_set6M v5.out HV1.out; have r6 : Hid (Blk ((((((w5.setCell ⟨w.heap.size, 0, none⟩ (.int .i64 k)).setCell ⟨w.heap.size, 1, none⟩ (.int .i64 m)).setCell ⟨w.heap.size, 2, none⟩ (.string t)).setCell ⟨w.heap.size, 3, none⟩ (.string s)).setCell ⟨w.heap.size, 4, none⟩ (.slice p1 n1 c1)).setCell ⟨w.heap.size, 5, none⟩ (.slice none 0 0)) (w.heap.size + 1) #[.int .i64 0, .int .i64 0, .string ⟨#[]⟩, .slice none 0 0] 26) := blk_set6M r5.out (Nat.succ_ne_self _); have xc0 := v5.out.cell 0 _ rfl; have xc1 := v5.out.cell 1 _ rfl; have xc2 := v5.out.cell 2 _ rfl; have xc3 := v5.out.cell 3 _ rfl; have b0 := p5.out.cell 0 _ rfl; have b1 := p5.out.cell 1 _ rfl; have b2 := p5.out.cell 2 _ rfl; have b3 := p5.out.cell 3 _ rfl; have b4 := p5.out.cell 4 _ rfl; have b5 := p5.out.cell 5 _ rfl; have q0 := e5.out.cell 0 _ rfl; have q1 := e5.out.cell 1 _ rfl; have q2 := e5.out.cell 2 _ rfl; have q3 := e5.out.cell 3 _ rfl; have q4 := e5.out.cell 4 _ rfl; have q5 := e5.out.cell 5 _ rfl; have f0 := e5.out.frozen 0; have f1 := e5.out.frozen 1; have f2 := e5.out.frozen 2; have f3 := e5.out.frozen 3; have f4 := e5.out.frozen 4; have f5 := e5.out.frozen 5; have y0 := r6.out.cell 0 _ rfl; have y1 := r6.out.cell 1 _ rfl; have y2 := r6.out.cell 2 _ rfl; have y3 := r6.out.cell 3 _ rfl; have g0 := r6.out.frozen 0; have g1 := r6.out.frozen 1; have g2 := r6.out.frozen 2; have g3 := r6.out.frozen 3; have h0 := v6.out.cell 0 _ rfl; have h1 := v6.out.cell 1 _ rfl; have h2 := v6.out.cell 2 _ rfl; have h3 := v6.out.cell 3 _ rfl; clear he1 he2 he3 hc5 ho5; dsimp only))
    all_goals
      go_wp2_with fail
      exact bodyPost_ret (v := .tuple #[.agg #[.int .i64 k, .int .i64 m, .string t, .string s, .slice p1 n1 c1, .slice none 0 0], .agg #[.int .i64 sk, .int .i64 sn, .string st, .slice pk nk nk], u]) (by simp [results, Tryz.results7, go_sem, q0, q1, q2, q3, q4, q5, y0, y1, y2, y3]) rfl ⟨k, m, t, s, p1, n1, c1, y, _, _, _, _, _, x, u, env, rfl, ((pt_set6 TP5.out LT0.out).same (same_set4 LT1.out)).base (Nat.le_of_lt LT0.out), (dv_set4 (dv_set6 TV5.out LT0.out) LT1.out).base (Nat.le_of_lt LT0.out), ((EN.out.same (same_set6 LT0.out)).same (same_set4 LT1.out)).base (Nat.le_of_lt LT0.out), below_set4 (below_set6D K5.out (Nat.le_refl _)) (Nat.le_succ _)⟩
  | true =>
    go_wp2_with fail
    refine (l03Val_all 2 (by decide) p _ Cw6.out).mono ?_
    rintro e w7 ⟨sk2, sn2, st2, pk2, nk2, x2, rfl, hT, hc7, ho7⟩
    have v7 : Hid (Blk w7 w2.heap.size #[.int .i64 sk, .int .i64 sn, .string st, .slice pk nk nk] 26) := (ho7.block _ vw6.out.lt HA.out).trans vw6.out
    obtain ⟨W8, hW8⟩ : ∃ W8, W8 = ((((w7.setCell ⟨w2.heap.size, 0, none⟩ (.int .i64 sk2)).setCell ⟨w2.heap.size, 1, none⟩ (.int .i64 sn2)).setCell ⟨w2.heap.size, 2, none⟩ (.string st2)).setCell ⟨w2.heap.size, 3, none⟩ (.slice pk2 nk2 nk2)) := ⟨_, rfl⟩
    have hs8 : SameOn (fun g => w6.heap.size ≤ g) w7 W8 := by rw [hW8]; exact same_set4 vw6.out.lt
    have hb8 : Below w2.heap.size w7 W8 := by rw [hW8]; exact below_set4 (Below.refl _ _) (Nat.le_refl _)
    have CW8 : Hid (Cur W8 p) := hc7.low (hb8.mono (by have := HP.out.2; have := HS2.out; omega))
    have BW8 : Hid (Below w.heap.size w W8) := (Below.offP Bw6.out ho7 (by have := HP.out.1; omega) Bw6.out.size).trans (hb8.mono (by have := HP.out; have := HS2.out; omega))
    have eW8 : Hid (Blk W8 w.heap.size #[.int .i64 0, .int .i64 0, .string ⟨#[]⟩, .string ⟨#[]⟩, .slice none 0 0, .slice none 0 0] 33) := (hb8.block _ (by have := HP.out; have := HS2.out; omega)).trans ((ho7.block _ ew6.out.lt HN.out).trans ew6.out)
    have rW8 : Hid (Blk W8 (w.heap.size + 1) #[.int .i64 0, .int .i64 0, .string ⟨#[]⟩, .slice none 0 0] 26) := (hb8.block _ (by have := HP.out; have := HS2.out; omega)).trans ((ho7.block _ rw6.out.lt HM.out).trans rw6.out)
    have vW8 : Hid (Blk W8 w2.heap.size #[.int .i64 sk2, .int .i64 sn2, .string st2, .slice pk2 nk2 nk2] 26) := by show Blk _ _ _ _; rw [hW8]; exact (((v7.out.same (j := 0) rfl).same (j := 1) rfl).same (j := 2) rfl).same (j := 3) rfl
    have pW8 : Hid (Blk W8 w4.heap.size #[.int .i64 k, .int .i64 m, .string t, .string s, .slice p1 n1 c1, .slice none 0 0] 33) := by show Blk _ _ _ _; rw [hW8]; exact blk_set4 ((ho7.block _ pw6.out.lt HQ.out).trans pw6.out) HQ2.out
    have TVW8 : Hid (DvT W8 w1.heap.size 2 [.int .i64 sk2, .int .i64 sn2, .string st2, .slice pk2 nk2 nk2] x2) := (hT.same hs8).base Lw6.out
    have TPW8 : Hid (PtT W8 W3.heap.size 2 [.int .i64 k, .int .i64 m, .string t, .string s, .slice p1 n1 c1, .slice none 0 0] y) := by
      have h7 : PtT w7 W3.heap.size 2 [.int .i64 k, .int .i64 m, .string t, .string s, .slice p1 n1 c1, .slice none 0 0] y := TPw6.out.same ⟨ho7.size, fun g hg hl => ho7.block g hl (by simp; have : W3.heap.size ≤ g := hg; have := HP.out.2; have := L3.out; omega)⟩
      show PtT _ _ _ _ _
      rw [hW8]
      exact h7.same (same_set4 L3.out.2)
    have LW8 : Hid (w1.heap.size ≤ W8.heap.size) := Nat.le_trans Lw6.out (Nat.le_trans ho7.size hb8.size)
    have HW8 : Hid (W8 = ((((w7.setCell ⟨w2.heap.size, 0, none⟩ (.int .i64 sk2)).setCell ⟨w2.heap.size, 1, none⟩ (.int .i64 sn2)).setCell ⟨w2.heap.size, 2, none⟩ (.string st2)).setCell ⟨w2.heap.size, 3, none⟩ (.slice pk2 nk2 nk2))) := hW8
    have q0 := v7.out.cell 0 _ rfl
    have q1 := v7.out.cell 1 _ rfl
    have q2 := v7.out.cell 2 _ rfl
    have q3 := v7.out.cell 3 _ rfl
    have f0 := v7.out.frozen 0
    have f1 := v7.out.frozen 1
    have f2 := v7.out.frozen 2
    have f3 := v7.out.frozen 3
    clear hT hc7 ho7 hW8 hs8 hb8 Cw6 Bw6 ew6 rw6 vw6 pw6 TVw6 TPw6 Lw6 v7
    go_wp2_with fail
    rw [show ((((w7.setCell ⟨w2.heap.size, 0, none⟩ (.int .i64 sk2)).setCell ⟨w2.heap.size, 1, none⟩ (.int .i64 sn2)).setCell ⟨w2.heap.size, 2, none⟩ (.string st2)).setCell ⟨w2.heap.size, 3, none⟩ (.slice pk2 nk2 nk2)) = W8 from HW8.out.symm]
    clear q0 q1 q2 q3 f0 f1 f2 f3
    have z0 := vW8.out.cell 0 _ rfl
    have z1 := vW8.out.cell 1 _ rfl
    have z2 := vW8.out.cell 2 _ rfl
    have z3 := vW8.out.cell 3 _ rfl
    have a0 := pW8.out.cell 0 _ rfl
    have a1 := pW8.out.cell 1 _ rfl
    have a2 := pW8.out.cell 2 _ rfl
    have a3 := pW8.out.cell 3 _ rfl
    have a4 := pW8.out.cell 4 _ rfl
    have a5 := pW8.out.cell 5 _ rfl
    go_wp2_with fail
    go_region_law
      (first
        | (go_simp; go_at_call 34; refine (l03Env_any p W8.drew (cur_heapV CW8.out rfl)).mono ?_; rintro e w5 ⟨u, env, rfl, he1, he2, he3, hc5, ho5⟩; have o5 : Hid (Off [p] W8 w5) := (Off.of_below (below_drewN (Below.refl _ _) 1)).trans ho5; have EN : Hid (EnvT w5 w1.heap.size u env) := EnvT.base (B := W8.heap.size) ⟨he1, he2, he3⟩ LW8.out; have TP5 : Hid (PtT w5 w1.heap.size 2 [.int .i64 k, .int .i64 m, .string t, .string s, .slice p1 n1 c1, .slice none 0 0] y) := PtT.base (PtT.same TPW8.out ⟨o5.out.size, fun g hg hl => o5.out.block g hl (by simp; have : W3.heap.size ≤ g := hg; have := HP.out.2; have := L3.out; omega)⟩) L3.out.1; have TV5 : Hid (DvT w5 w1.heap.size 2 [.int .i64 sk2, .int .i64 sn2, .string st2, .slice pk2 nk2 nk2] x2) := TVW8.out.off o5.out HP.out.2; have K5 : Hid (Below w.heap.size w w5) := Below.offP BW8.out o5.out (by have := HP.out.1; omega) BW8.out.size; have e5 : Hid (Blk w5 w.heap.size #[.int .i64 0, .int .i64 0, .string ⟨#[]⟩, .string ⟨#[]⟩, .slice none 0 0, .slice none 0 0] 33) := (o5.out.block _ eW8.out.lt HN.out).trans eW8.out; have r5 : Hid (Blk w5 (w.heap.size + 1) #[.int .i64 0, .int .i64 0, .string ⟨#[]⟩, .slice none 0 0] 26) := (o5.out.block _ rW8.out.lt HM.out).trans rW8.out; have v5 : Hid (Blk w5 w2.heap.size #[.int .i64 sk2, .int .i64 sn2, .string st2, .slice pk2 nk2 nk2] 26) := (o5.out.block _ vW8.out.lt HA.out).trans vW8.out; have p5 : Hid (Blk w5 w4.heap.size #[.int .i64 k, .int .i64 m, .string t, .string s, .slice p1 n1 c1, .slice none 0 0] 33) := (o5.out.block _ pW8.out.lt HQ.out).trans pW8.out; have v6 : Hid (Blk ((((((w5.setCell ⟨w.heap.size, 0, none⟩ (.int .i64 k)).setCell ⟨w.heap.size, 1, none⟩ (.int .i64 m)).setCell ⟨w.heap.size, 2, none⟩ (.string t)).setCell ⟨w.heap.size, 3, none⟩ (.string s)).setCell ⟨w.heap.size, 4, none⟩ (.slice p1 n1 c1)).setCell ⟨w.heap.size, 5, none⟩ (.slice none 0 0)) w2.heap.size #[.int .i64 sk2, .int .i64 sn2, .string st2, .slice pk2 nk2 nk2] 26) := blk_set6M v5.out HV1.out; have r6 : Hid (Blk ((((((w5.setCell ⟨w.heap.size, 0, none⟩ (.int .i64 k)).setCell ⟨w.heap.size, 1, none⟩ (.int .i64 m)).setCell ⟨w.heap.size, 2, none⟩ (.string t)).setCell ⟨w.heap.size, 3, none⟩ (.string s)).setCell ⟨w.heap.size, 4, none⟩ (.slice p1 n1 c1)).setCell ⟨w.heap.size, 5, none⟩ (.slice none 0 0)) (w.heap.size + 1) #[.int .i64 0, .int .i64 0, .string ⟨#[]⟩, .slice none 0 0] 26) := blk_set6M r5.out (Nat.succ_ne_self _); have xc0 := v5.out.cell 0 _ rfl; have xc1 := v5.out.cell 1 _ rfl; have xc2 := v5.out.cell 2 _ rfl; have xc3 := v5.out.cell 3 _ rfl; have b0 := p5.out.cell 0 _ rfl; have b1 := p5.out.cell 1 _ rfl; have b2 := p5.out.cell 2 _ rfl; have b3 := p5.out.cell 3 _ rfl; have b4 := p5.out.cell 4 _ rfl; have b5 := p5.out.cell 5 _ rfl; have q0 := e5.out.cell 0 _ rfl; have q1 := e5.out.cell 1 _ rfl; have q2 := e5.out.cell 2 _ rfl; have q3 := e5.out.cell 3 _ rfl; have q4 := e5.out.cell 4 _ rfl; have q5 := e5.out.cell 5 _ rfl; have f0 := e5.out.frozen 0; have f1 := e5.out.frozen 1; have f2 := e5.out.frozen 2; have f3 := e5.out.frozen 3; have f4 := e5.out.frozen 4; have f5 := e5.out.frozen 5; have y0 := r6.out.cell 0 _ rfl; have y1 := r6.out.cell 1 _ rfl; have y2 := r6.out.cell 2 _ rfl; have y3 := r6.out.cell 3 _ rfl; have g0 := r6.out.frozen 0; have g1 := r6.out.frozen 1; have g2 := r6.out.frozen 2; have g3 := r6.out.frozen 3; have h0 := v6.out.cell 0 _ rfl; have h1 := v6.out.cell 1 _ rfl; have h2 := v6.out.cell 2 _ rfl; have h3 := v6.out.cell 3 _ rfl; clear he1 he2 he3 hc5 ho5; dsimp only))
    all_goals
      go_wp2_with fail
      exact bodyPost_ret (v := .tuple #[.agg #[.int .i64 k, .int .i64 m, .string t, .string s, .slice p1 n1 c1, .slice none 0 0], .agg #[.int .i64 sk2, .int .i64 sn2, .string st2, .slice pk2 nk2 nk2], u]) (by simp [results, Tryz.results7, go_sem, q0, q1, q2, q3, q4, q5, y0, y1, y2, y3]) rfl ⟨k, m, t, s, p1, n1, c1, y, _, _, _, _, _, x2, u, env, rfl, ((pt_set6 TP5.out LT0.out).same (same_set4 LT1.out)).base (Nat.le_of_lt LT0.out), (dv_set4 (dv_set6 TV5.out LT0.out) LT1.out).base (Nat.le_of_lt LT0.out), ((EN.out.same (same_set6 LT0.out)).same (same_set4 LT1.out)).base (Nat.le_of_lt LT0.out), below_set4 (below_set6D K5.out (Nat.le_refl _)) (Nat.le_succ _)⟩
end Go.Proofs.YtmnghlkkfkpjhaaGreatDoor
