/-
  Texts of the proof, packed: FvWalk.
-/
import Derived.Test.YtmnghlkkfkpjhaaGreatDoorPackD
import Derived.Test.YtmnghlkkfkpjhaaGreatDoorPackK
import Derived.Test.YtmnghlkkfkpjhaaGreatDoorPackL
import Derived.Test.YtmnghlkkfkpjhaaGreatDoorPackP
import Derived.Test.YtmnghlkkfkpjhaaGreatDoorPackQ
import Derived.Test.YtmnghlkkfkpjhaaGreatDoorPackS
/-
  The law FnValue, walked.
-/
namespace Go.Proofs.YtmnghlkkfkpjhaaGreatDoor
open Go.ChangeShapes Go.WideShapes Go.ChangeAt Go.RowKit
set_option linter.unusedVariables false
set_option maxRecDepth 100000

theorem big_any (sp : Option Addr) (n cap : Nat) (w : World) (hn : n ≤ maxLen) :
    Calls Tryz.prog 4 #[.slice sp n cap] w fun e w' => e = .returned (.bool (decide (1048576 < n))) ∧ w' = w := by
  unfold maxLen at hn
  go_enter Tryz.func4, Tryz.ntmps4
  go_wp2
  go_ret
  exact ⟨by simp; omega, rfl⟩
/-- What the world holds ahead of FnValue. -/
structure FvEnv (w : World) (cv : Value) (xs : List Nat) : Prop where
  K : KeysAt w
  P : PowAt w
  R : Rows w All 1 HByte cv xs
theorem same_cmp {d : Nat} {a b : Va} (ha : dpV d a) (hb : dpV d b) : sameB a b = (cmpVa d a b == 0) := by
  by_cases h : a = b
  · subst h
    rw [sameB_true rfl, cmpVa_self]; rfl
  · rw [sameB_false h]
    have : cmpVa d a b ≠ 0 := fun e => h (((ord_val d).eq a b ha hb).1 e)
    simp [this]
theorem match_ok {w : World} {B : Nat} {pcs vcs : List Value} {y : Ex} {xv : Va} {u : Value} {env : List Bd} (hP : PtT w B 2 pcs y) (hV : DvT w B 2 vcs xv) (hE : EnvT w B u env) :
    twoV 3 xv ∧ env.length + ndE 3 y ≤ 100 ∧ ∀ out, matchM 3 3 y xv env = some out → ∀ b ∈ out, wtVa 3 b.val ≤ 1048576 := by
  refine ⟨hV.2.1, by have h1 : ndE 3 y + 1 ≤ 2 ^ 3 := hP.2; have := hE.1; omega, fun out ho => matchM_light 3 1048576 3 y xv env out (light_of 3 3 xv hV.1.dp (Nat.le_refl _) (by have h1 : wtVa 3 xv + 2 ≤ 4 * 2 ^ 2 := hV.2.2.1; omega)) (fun b hb => ?_) ho⟩
  obtain ⟨i, hi⟩ := List.mem_iff_getElem?.1 hb
  obtain ⟨p, cap, _, _, _, hr⟩ := hE.2.1
  obtain ⟨g, off, _, _, _, hat⟩ := hr (by intro e; rw [e] at hi; simp at hi)
  obtain ⟨cs, _, _, us, _, _, hv⟩ := hat i b hi
  have h1 : wtVa 3 b.val ≤ wtVa 2 b.val := (wtVa_ge hv.dp 1).2
  have h2 := (hE.2.2 b hb).2.1
  omega
theorem sum7 : ∀ l : List Bd, (l.map (fun _ => 7)).sum = 7 * l.length
  | [] => rfl
  | b :: t => by have := sum7 t; simp only [List.map_cons, List.sum_cons, List.length_cons]; omega
theorem look_ok {w : World} {B : Nat} {u : Value} {env : List Bd} (hE : EnvT w B u env) : wtS (wtBd 2) env ≤ 1048576 := by
  have h1 : (env.map (wtBd 2)).sum ≤ (env.map (fun _ => 7)).sum := sum_le _ _ _ (fun b hb => by have := hE.2.2 b hb; unfold wtBd; omega)
  have h2 := sum7 env
  have := hE.1
  unfold wtS
  omega
theorem cmpI_3 (a b : Int) : cmpI a b = -1 ∨ cmpI a b = 0 ∨ cmpI a b = 1 := by unfold cmpI; split; exact .inl rfl; split; exact .inr (.inr rfl); exact .inr (.inl rfl)
theorem cmpL_3 {α : Type} {f : α → α → Int} (h : ∀ a b, f a b = -1 ∨ f a b = 0 ∨ f a b = 1) : ∀ xs ys, cmpL f xs ys = -1 ∨ cmpL f xs ys = 0 ∨ cmpL f xs ys = 1
  | [], [] => .inr (.inl rfl)
  | [], _ :: _ => .inl rfl
  | _ :: _, [] => .inr (.inr rfl)
  | x :: xs, y :: ys => by
    show (if f x y = 0 then cmpL f xs ys else f x y) = -1 ∨ (if f x y = 0 then cmpL f xs ys else f x y) = 0 ∨ (if f x y = 0 then cmpL f xs ys else f x y) = 1
    split
    · exact cmpL_3 h xs ys
    · exact h x y
theorem cmpS_3 (a b : ByteArray) : cmpS a b = -1 ∨ cmpS a b = 0 ∨ cmpS a b = 1 := by
  unfold cmpS
  rw [bytes_cmpL]
  exact cmpL_3 (fun a b => cmpI_3 _ _) _ _
theorem cmpVa_3 : ∀ (d : Nat) (a b : Va), cmpVa d a b = -1 ∨ cmpVa d a b = 0 ∨ cmpVa d a b = 1
  | 0, _, _ => .inr (.inl rfl)
  | d + 1, a, b => by
    have h := cmpL_3 (cmpVa_3 d) a.kids b.kids
    have h1 := cmpI_3 a.kind b.kind
    have h2 := cmpI_3 a.n b.n
    have h3 := cmpS_3 a.text b.text
    unfold cmpVa
    split
    · split
      · split
        · exact h
        · exact h3
      · exact h2
    · exact h1
theorem wrap_cmp (d : Nat) (a b : Va) : IntKind.i64.wrap (cmpVa d a b) = cmpVa d a b := by
  rcases cmpVa_3 d a b with h | h | h <;> rw [h] <;> decide
def ReckOk (r : (Int × Int × ByteArray) × Bool) : Prop := okI r.1.1 ∧ okI r.1.2.1 ∧ okS r.1.2.2
theorem wrap_ok (z : Int) : okI (wrap64 z) := by
  show (Lit.int .i64 (wrap64 z)).wf = true
  unfold wrap64
  simp only [Lit.wf, IntKind.min, IntKind.max, IntKind.signed, IntKind.bits, Bool.and_eq_true, decide_eq_true_eq, if_true]
  omega
def flat (r : (Int × Int × ByteArray) × Bool) : Va := .mk r.1.1 r.1.2.1 r.1.2.2 []
theorem reck_ok (d : Nat) (op : List UInt8) (x y : Va) : ReckOk (reck d op x y) := by
  have h0 : okI 0 := by unfold okI; decide
  have h1 : okI 1 := by unfold okI; decide
  have he : okS ⟨#[]⟩ := Nat.zero_le _
  have ht : okS trueB := by unfold okS trueB maxLen; decide
  have hf : okS falseB := by unfold okS falseB maxLen; decide
  have hw : ∀ z : Int, okI (wrap64 z) := fun z => wrap_ok z
  unfold ReckOk reck
  repeat' split
  all_goals first | exact ⟨h1, h0, ht⟩ | exact ⟨h1, h0, hf⟩ | exact ⟨h0, h0, he⟩ | exact ⟨h0, hw _, he⟩
theorem flat_HVa (w : World) {S : Nat → Prop} {d : Nat} {r : (Int × Int × ByteArray) × Bool} (h : ReckOk r) : HVa w S (d + 1) [.int .i64 r.1.1, .int .i64 r.1.2.1, .string r.1.2.2, .slice none 0 0] (flat r) := ⟨_, rfl, h.1, h.2.1, h.2.2, Rows.nil (Nat.zero_le _)⟩

set_option maxHeartbeats 16000000 in
theorem fnValue_walk (cv : Value) (xs : List Nat) (w : World) (hE : FvEnv w cv xs) :
    Calls Tryz.prog 3 #[cv] w fun e w' => e = .returned (.bool true) ∧ Below w.heap.size w w' := by
  obtain ⟨sp, cap, rfl, hl1, hl2, -⟩ := id hE.R
  by_cases hx : 1048576 < xs.length
  · go_enter Tryz.func3, Tryz.ntmps3
    go_wp2_with (go_at_call 4; go_must (refine (big_any sp xs.length cap _ (Nat.le_trans hl1 hl2)).mono ?_; rintro e w' ⟨rfl, rfl⟩; rw [decide_eq_true hx]))
    go_ret
    exact ⟨rfl, Below.refl _ _⟩
  · have hx' : xs.length ≤ 1048576 := by omega
    go_enter Tryz.func3, Tryz.ntmps3
    go_wp2_with fail
    refine (big_any sp xs.length cap _ (Nat.le_trans hl1 hl2)).mono ?_
    rintro e w0 ⟨rfl, hw0⟩
    rw [hw0, decide_eq_false hx]
    clear hw0
    have E_0 : Hid (Below w.heap.size w w) := Below.refl _ _
    have K_0 : Hid (KeysAt w) := hE.K
    have P_0 : Hid (PowAt w) := hE.P
    have R_0 : Hid (Rows w All 1 HByte (.slice sp xs.length cap) xs) := hE.R
    clear hE
    go_wp2_with fail
    refine (drawCompareVal_any _ xs _ hx' R_0.out).mono ?_
    rintro e w1 ⟨ska, sna, sta, pka, nka, cka, xa, skb, snb, stb, pkb, nkb, ckb, xb, rfl, hA, hB, hb⟩
    have E_1 : Hid (Below w.heap.size w w1) := E_0.out.trans (hb.mono E_0.out.size)
    have K_1 : Hid (KeysAt w1) := K_0.out.below hb
    have P_1 : Hid (PowAt w1) := powAt_below P_0.out hb
    have R_1 : Hid (Rows w1 All 1 HByte (.slice sp xs.length cap) xs) := Rows.mono R_0.out (SameOn.of_below hb) (fun _ h => h) (fun _ _ _ h => h)
    clear E_0 K_0 P_0 R_0
    have A_1 : Hid (HVa w1 All 4 [.int .i64 ska, .int .i64 sna, .string sta, .slice pka nka cka] xa) := hA.1.mono ⟨Nat.le_refl _, fun _ _ _ => rfl⟩ (fun _ _ => trivial)
    have B_1 : Hid (HVa w1 All 4 [.int .i64 skb, .int .i64 snb, .string stb, .slice pkb nkb ckb] xb) := hB.1.mono ⟨Nat.le_refl _, fun _ _ _ => rfl⟩ (fun _ _ => trivial)
    clear hA hB hb
    obtain ⟨W1, hW1⟩ : ∃ W, W = ((w1.alloc (.cells #[.int .i64 ska, .int .i64 sna, .string sta, .slice pka nka cka] 26)).alloc (.cells #[.int .i64 skb, .int .i64 snb, .string stb, .slice pkb nkb ckb] 26)) := ⟨_, rfl⟩
    have HW1 : Hid (W1 = ((w1.alloc (.cells #[.int .i64 ska, .int .i64 sna, .string sta, .slice pka nka cka] 26)).alloc (.cells #[.int .i64 skb, .int .i64 snb, .string stb, .slice pkb nkb ckb] 26))) := hW1
    have hal : Below w1.heap.size w1 W1 := by rw [hW1]; exact ((Below.refl _ _).alloc (Nat.le_refl _) _).alloc (by rw [alloc_hs]; omega) _
    have E_2 : Hid (Below w.heap.size w W1) := E_1.out.trans (hal.mono E_1.out.size)
    have K_2 : Hid (KeysAt W1) := K_1.out.below hal
    have P_2 : Hid (PowAt W1) := powAt_below P_1.out hal
    have R_2 : Hid (Rows W1 All 1 HByte (.slice sp xs.length cap) xs) := Rows.mono R_1.out (SameOn.of_below hal) (fun _ h => h) (fun _ _ _ h => h)
    have A_2 : Hid (HVa W1 All 4 [.int .i64 ska, .int .i64 sna, .string sta, .slice pka nka cka] xa) := A_1.out.mono (SameOn.of_below hal) (fun _ h => h)
    have B_2 : Hid (HVa W1 All 4 [.int .i64 skb, .int .i64 snb, .string stb, .slice pkb nkb ckb] xb) := B_1.out.mono (SameOn.of_below hal) (fun _ h => h)
    clear E_1 K_1 P_1 R_1 A_1 B_1
    have Ba_2 : Hid (Blk W1 (w1.heap.size) #[.int .i64 ska, .int .i64 sna, .string sta, .slice pka nka cka] 26) := by show Blk _ _ _ _; rw [hW1]; exact Blk.next Blk.new ((Below.refl _ _).alloc (Nat.le_refl _) _)
    have Bb_2 : Hid (Blk W1 (w1.heap.size + 1) #[.int .i64 skb, .int .i64 snb, .string stb, .slice pkb nkb ckb] 26) := by show Blk _ _ _ _; rw [hW1]; have := Blk.new (w := w1.alloc (.cells #[.int .i64 ska, .int .i64 sna, .string sta, .slice pka nka cka] 26)) (cs := #[.int .i64 skb, .int .i64 snb, .string stb, .slice pkb nkb ckb]) (t := 26); rwa [alloc_hs] at this
    clear hal hW1
    have zBa0 := Ba_2.out.cell 0 _ rfl
    have zBa1 := Ba_2.out.cell 1 _ rfl
    have zBa2 := Ba_2.out.cell 2 _ rfl
    have zBa3 := Ba_2.out.cell 3 _ rfl
    have zBb0 := Bb_2.out.cell 0 _ rfl
    have zBb1 := Bb_2.out.cell 1 _ rfl
    have zBb2 := Bb_2.out.cell 2 _ rfl
    have zBb3 := Bb_2.out.cell 3 _ rfl
    rw [HW1.out] at zBa0 zBa1 zBa2 zBa3 zBb0 zBb1 zBb2 zBb3
    go_wp2_with fail
    rw [show ((w1.alloc (.cells #[.int .i64 ska, .int .i64 sna, .string sta, .slice pka nka cka] 26)).alloc (.cells #[.int .i64 skb, .int .i64 snb, .string stb, .slice pkb nkb ckb] 26)) = W1 from HW1.out.symm]
    clear zBa0 zBa1 zBa2 zBa3 zBb0 zBb1 zBb2 zBb3
    refine (implCmp_all 4 _ _ _ xa xb ⟨_, rfl, A_2.out⟩ ⟨_, rfl, B_2.out⟩).mono ?_
    rintro e w2 ⟨rfl, hb⟩
    have E_3 : Hid (Below w.heap.size w w2) := E_2.out.trans (hb.mono E_2.out.size)
    have K_3 : Hid (KeysAt w2) := K_2.out.below hb
    have P_3 : Hid (PowAt w2) := powAt_below P_2.out hb
    have R_3 : Hid (Rows w2 All 1 HByte (.slice sp xs.length cap) xs) := Rows.mono R_2.out (SameOn.of_below hb) (fun _ h => h) (fun _ _ _ h => h)
    have A_3 : Hid (HVa w2 All 4 [.int .i64 ska, .int .i64 sna, .string sta, .slice pka nka cka] xa) := A_2.out.mono (SameOn.of_below hb) (fun _ h => h)
    have B_3 : Hid (HVa w2 All 4 [.int .i64 skb, .int .i64 snb, .string stb, .slice pkb nkb ckb] xb) := B_2.out.mono (SameOn.of_below hb) (fun _ h => h)
    have Ba_3 : Hid (Blk w2 (w1.heap.size) #[.int .i64 ska, .int .i64 sna, .string sta, .slice pka nka cka] 26) := Ba_2.out.next hb
    have Bb_3 : Hid (Blk w2 (w1.heap.size + 1) #[.int .i64 skb, .int .i64 snb, .string stb, .slice pkb nkb ckb] 26) := Bb_2.out.next hb
    clear E_2 K_2 P_2 R_2 A_2 B_2 Ba_2 Bb_2
    clear hb
    have CE : Hid ((cmpVa 4 xb xa = -cmpVa 4 xa xb) ∧ (sameB xa xb = (cmpVa 4 xa xb == 0)) ∧ IntKind.i64.wrap (cmpVa 4 xa xb) = cmpVa 4 xa xb) := ⟨(ord_val 4).anti _ _ A_3.out.dp B_3.out.dp, same_cmp A_3.out.dp B_3.out.dp, wrap_cmp 4 xa xb⟩
    generalize hC : cmpVa 4 xa xb = C at *
    have HC : Hid (cmpVa 4 xa xb = C) := hC
    clear hC
    go_wp2_with fail
    refine (drawMatch_any _ xs _ hx' R_3.out).mono ?_
    rintro e w3 ⟨k, m, t, s, p1, n1, c1, y, skv, snv, stv, pkv, nkv, xv, u, env, rfl, hP, hV, hE, hb⟩
    have E_4 : Hid (Below w.heap.size w w3) := E_3.out.trans (hb.mono E_3.out.size)
    have K_4 : Hid (KeysAt w3) := K_3.out.below hb
    have P_4 : Hid (PowAt w3) := powAt_below P_3.out hb
    have R_4 : Hid (Rows w3 All 1 HByte (.slice sp xs.length cap) xs) := Rows.mono R_3.out (SameOn.of_below hb) (fun _ h => h) (fun _ _ _ h => h)
    have A_4 : Hid (HVa w3 All 4 [.int .i64 ska, .int .i64 sna, .string sta, .slice pka nka cka] xa) := A_3.out.mono (SameOn.of_below hb) (fun _ h => h)
    have B_4 : Hid (HVa w3 All 4 [.int .i64 skb, .int .i64 snb, .string stb, .slice pkb nkb ckb] xb) := B_3.out.mono (SameOn.of_below hb) (fun _ h => h)
    have Ba_4 : Hid (Blk w3 (w1.heap.size) #[.int .i64 ska, .int .i64 sna, .string sta, .slice pka nka cka] 26) := Ba_3.out.next hb
    have Bb_4 : Hid (Blk w3 (w1.heap.size + 1) #[.int .i64 skb, .int .i64 snb, .string stb, .slice pkb nkb ckb] 26) := Bb_3.out.next hb
    clear E_3 K_3 P_3 R_3 A_3 B_3 Ba_3 Bb_3
    have Q_4 : Hid (HEx w3 All 3 [.int .i64 k, .int .i64 m, .string t, .string s, .slice p1 n1 c1, .slice none 0 0] y) := HEx.mono ⟨Nat.le_refl _, fun _ _ _ => rfl⟩ (fun _ _ => trivial) hP.1
    have V_4 : Hid (HVa w3 All 3 [.int .i64 skv, .int .i64 snv, .string stv, .slice pkv nkv nkv] xv) := hV.1.mono ⟨Nat.le_refl _, fun _ _ _ => rfl⟩ (fun _ _ => trivial)
    have N_4 : Hid (Rows w3 All 5 (HBd w3 All 3) u env) := Rows.mono hE.2.1 ⟨Nat.le_refl _, fun _ _ _ => rfl⟩ (fun _ _ => trivial) (fun _ _ _ h => (h.mono ⟨Nat.le_refl _, fun _ _ _ => rfl⟩ (fun _ _ => trivial)).deeper (by decide))
    have HM : Hid (twoV 3 xv ∧ env.length + ndE 3 y ≤ 100 ∧ ∀ out, matchM 3 3 y xv env = some out → ∀ b ∈ out, wtVa 3 b.val ≤ 1048576) := match_ok hP hV hE
    clear hP hV hE hb
    obtain ⟨MR, hMR⟩ : ∃ MR, MR = matchM 3 3 y xv env := ⟨_, rfl⟩
    have HMR : Hid (matchM 3 3 y xv env = MR) := hMR.symm
    clear hMR
    obtain ⟨W4, hW4⟩ : ∃ W, W = ((w3.alloc (.cells #[.int .i64 k, .int .i64 m, .string t, .string s, .slice p1 n1 c1, .slice none 0 0] 33)).alloc (.cells #[.int .i64 skv, .int .i64 snv, .string stv, .slice pkv nkv nkv] 26)) := ⟨_, rfl⟩
    have HW4 : Hid (W4 = ((w3.alloc (.cells #[.int .i64 k, .int .i64 m, .string t, .string s, .slice p1 n1 c1, .slice none 0 0] 33)).alloc (.cells #[.int .i64 skv, .int .i64 snv, .string stv, .slice pkv nkv nkv] 26))) := hW4
    have hal : Below w3.heap.size w3 W4 := by rw [hW4]; exact ((Below.refl _ _).alloc (Nat.le_refl _) _).alloc (by rw [alloc_hs]; omega) _
    have E_5 : Hid (Below w.heap.size w W4) := E_4.out.trans (hal.mono E_4.out.size)
    have K_5 : Hid (KeysAt W4) := K_4.out.below hal
    have P_5 : Hid (PowAt W4) := powAt_below P_4.out hal
    have R_5 : Hid (Rows W4 All 1 HByte (.slice sp xs.length cap) xs) := Rows.mono R_4.out (SameOn.of_below hal) (fun _ h => h) (fun _ _ _ h => h)
    have A_5 : Hid (HVa W4 All 4 [.int .i64 ska, .int .i64 sna, .string sta, .slice pka nka cka] xa) := A_4.out.mono (SameOn.of_below hal) (fun _ h => h)
    have B_5 : Hid (HVa W4 All 4 [.int .i64 skb, .int .i64 snb, .string stb, .slice pkb nkb ckb] xb) := B_4.out.mono (SameOn.of_below hal) (fun _ h => h)
    have Ba_5 : Hid (Blk W4 (w1.heap.size) #[.int .i64 ska, .int .i64 sna, .string sta, .slice pka nka cka] 26) := Ba_4.out.next hal
    have Bb_5 : Hid (Blk W4 (w1.heap.size + 1) #[.int .i64 skb, .int .i64 snb, .string stb, .slice pkb nkb ckb] 26) := Bb_4.out.next hal
    have Q_5 : Hid (HEx W4 All 3 [.int .i64 k, .int .i64 m, .string t, .string s, .slice p1 n1 c1, .slice none 0 0] y) := HEx.mono (SameOn.of_below hal) (fun _ h => h) Q_4.out
    have V_5 : Hid (HVa W4 All 3 [.int .i64 skv, .int .i64 snv, .string stv, .slice pkv nkv nkv] xv) := V_4.out.mono (SameOn.of_below hal) (fun _ h => h)
    have N_5 : Hid (Rows W4 All 5 (HBd W4 All 3) u env) := Rows.mono N_4.out (SameOn.of_below hal) (fun _ h => h) (fun _ _ _ h => h.mono (SameOn.of_below hal) (fun _ h => h))
    clear E_4 K_4 P_4 R_4 A_4 B_4 Ba_4 Bb_4 Q_4 V_4 N_4
    have Bp_5 : Hid (Blk W4 (w3.heap.size) #[.int .i64 k, .int .i64 m, .string t, .string s, .slice p1 n1 c1, .slice none 0 0] 33) := by show Blk _ _ _ _; rw [hW4]; exact Blk.next Blk.new ((Below.refl _ _).alloc (Nat.le_refl _) _)
    have Bv_5 : Hid (Blk W4 (w3.heap.size + 1) #[.int .i64 skv, .int .i64 snv, .string stv, .slice pkv nkv nkv] 26) := by show Blk _ _ _ _; rw [hW4]; have := Blk.new (w := w3.alloc (.cells #[.int .i64 k, .int .i64 m, .string t, .string s, .slice p1 n1 c1, .slice none 0 0] 33)) (cs := #[.int .i64 skv, .int .i64 snv, .string stv, .slice pkv nkv nkv]) (t := 26); rwa [alloc_hs] at this
    clear hal hW4
    have zBp0 := Bp_5.out.cell 0 _ rfl
    have zBp1 := Bp_5.out.cell 1 _ rfl
    have zBp2 := Bp_5.out.cell 2 _ rfl
    have zBp3 := Bp_5.out.cell 3 _ rfl
    have zBp4 := Bp_5.out.cell 4 _ rfl
    have zBp5 := Bp_5.out.cell 5 _ rfl
    have zBv0 := Bv_5.out.cell 0 _ rfl
    have zBv1 := Bv_5.out.cell 1 _ rfl
    have zBv2 := Bv_5.out.cell 2 _ rfl
    have zBv3 := Bv_5.out.cell 3 _ rfl
    rw [HW4.out] at zBp0 zBp1 zBp2 zBp3 zBp4 zBp5 zBv0 zBv1 zBv2 zBv3
    go_wp2_with fail
    rw [show ((w3.alloc (.cells #[.int .i64 k, .int .i64 m, .string t, .string s, .slice p1 n1 c1, .slice none 0 0] 33)).alloc (.cells #[.int .i64 skv, .int .i64 snv, .string stv, .slice pkv nkv nkv] 26)) = W4 from HW4.out.symm]
    clear zBp0 zBp1 zBp2 zBp3 zBp4 zBp5 zBv0 zBv1 zBv2 zBv3
    refine (implMatch_any 3 3 _ _ y _ xv _ env Q_5.out V_5.out HM.out.1 N_5.out (Nat.le_trans HM.out.2.1 (by decide)) HM.out.2.2).mono ?_
    rintro e w4 ⟨⟨ev1, rfl, ho1⟩, hb⟩
    have E_6 : Hid (Below w.heap.size w w4) := E_5.out.trans (hb.mono E_5.out.size)
    have K_6 : Hid (KeysAt w4) := K_5.out.below hb
    have P_6 : Hid (PowAt w4) := powAt_below P_5.out hb
    have R_6 : Hid (Rows w4 All 1 HByte (.slice sp xs.length cap) xs) := Rows.mono R_5.out (SameOn.of_below hb) (fun _ h => h) (fun _ _ _ h => h)
    have A_6 : Hid (HVa w4 All 4 [.int .i64 ska, .int .i64 sna, .string sta, .slice pka nka cka] xa) := A_5.out.mono (SameOn.of_below hb) (fun _ h => h)
    have B_6 : Hid (HVa w4 All 4 [.int .i64 skb, .int .i64 snb, .string stb, .slice pkb nkb ckb] xb) := B_5.out.mono (SameOn.of_below hb) (fun _ h => h)
    have Ba_6 : Hid (Blk w4 (w1.heap.size) #[.int .i64 ska, .int .i64 sna, .string sta, .slice pka nka cka] 26) := Ba_5.out.next hb
    have Bb_6 : Hid (Blk w4 (w1.heap.size + 1) #[.int .i64 skb, .int .i64 snb, .string stb, .slice pkb nkb ckb] 26) := Bb_5.out.next hb
    have Q_6 : Hid (HEx w4 All 3 [.int .i64 k, .int .i64 m, .string t, .string s, .slice p1 n1 c1, .slice none 0 0] y) := HEx.mono (SameOn.of_below hb) (fun _ h => h) Q_5.out
    have V_6 : Hid (HVa w4 All 3 [.int .i64 skv, .int .i64 snv, .string stv, .slice pkv nkv nkv] xv) := V_5.out.mono (SameOn.of_below hb) (fun _ h => h)
    have N_6 : Hid (Rows w4 All 5 (HBd w4 All 3) u env) := Rows.mono N_5.out (SameOn.of_below hb) (fun _ h => h) (fun _ _ _ h => h.mono (SameOn.of_below hb) (fun _ h => h))
    have Bp_6 : Hid (Blk w4 (w3.heap.size) #[.int .i64 k, .int .i64 m, .string t, .string s, .slice p1 n1 c1, .slice none 0 0] 33) := Bp_5.out.next hb
    have Bv_6 : Hid (Blk w4 (w3.heap.size + 1) #[.int .i64 skv, .int .i64 snv, .string stv, .slice pkv nkv nkv] 26) := Bv_5.out.next hb
    clear E_5 K_5 P_5 R_5 A_5 B_5 Ba_5 Bb_5 Q_5 V_5 N_5 Bp_5 Bv_5
    rw [HMR.out] at ho1 ⊢
    have O_6 : Hid (Rows w4 All 5 (HBd w4 All 3) ev1 (MR.getD [])) := ho1
    clear hb ho1
    have zBp0 := Bp_6.out.cell 0 _ rfl
    have zBp1 := Bp_6.out.cell 1 _ rfl
    have zBp2 := Bp_6.out.cell 2 _ rfl
    have zBp3 := Bp_6.out.cell 3 _ rfl
    have zBp4 := Bp_6.out.cell 4 _ rfl
    have zBp5 := Bp_6.out.cell 5 _ rfl
    have zBv0 := Bv_6.out.cell 0 _ rfl
    have zBv1 := Bv_6.out.cell 1 _ rfl
    have zBv2 := Bv_6.out.cell 2 _ rfl
    have zBv3 := Bv_6.out.cell 3 _ rfl
    go_wp2_with fail
    clear zBp0 zBp1 zBp2 zBp3 zBp4 zBp5 zBv0 zBv1 zBv2 zBv3
    refine (specMatch_any 3 3 _ _ y _ xv _ env Q_6.out V_6.out N_6.out (Nat.le_trans HM.out.2.1 (by decide)) HM.out.2.2).mono ?_
    rintro e w5 ⟨⟨ev2, rfl, ho2⟩, hb⟩
    have E_7 : Hid (Below w.heap.size w w5) := E_6.out.trans (hb.mono E_6.out.size)
    have K_7 : Hid (KeysAt w5) := K_6.out.below hb
    have P_7 : Hid (PowAt w5) := powAt_below P_6.out hb
    have R_7 : Hid (Rows w5 All 1 HByte (.slice sp xs.length cap) xs) := Rows.mono R_6.out (SameOn.of_below hb) (fun _ h => h) (fun _ _ _ h => h)
    have A_7 : Hid (HVa w5 All 4 [.int .i64 ska, .int .i64 sna, .string sta, .slice pka nka cka] xa) := A_6.out.mono (SameOn.of_below hb) (fun _ h => h)
    have B_7 : Hid (HVa w5 All 4 [.int .i64 skb, .int .i64 snb, .string stb, .slice pkb nkb ckb] xb) := B_6.out.mono (SameOn.of_below hb) (fun _ h => h)
    have Ba_7 : Hid (Blk w5 (w1.heap.size) #[.int .i64 ska, .int .i64 sna, .string sta, .slice pka nka cka] 26) := Ba_6.out.next hb
    have Bb_7 : Hid (Blk w5 (w1.heap.size + 1) #[.int .i64 skb, .int .i64 snb, .string stb, .slice pkb nkb ckb] 26) := Bb_6.out.next hb
    have Q_7 : Hid (HEx w5 All 3 [.int .i64 k, .int .i64 m, .string t, .string s, .slice p1 n1 c1, .slice none 0 0] y) := HEx.mono (SameOn.of_below hb) (fun _ h => h) Q_6.out
    have V_7 : Hid (HVa w5 All 3 [.int .i64 skv, .int .i64 snv, .string stv, .slice pkv nkv nkv] xv) := V_6.out.mono (SameOn.of_below hb) (fun _ h => h)
    have N_7 : Hid (Rows w5 All 5 (HBd w5 All 3) u env) := Rows.mono N_6.out (SameOn.of_below hb) (fun _ h => h) (fun _ _ _ h => h.mono (SameOn.of_below hb) (fun _ h => h))
    have Bp_7 : Hid (Blk w5 (w3.heap.size) #[.int .i64 k, .int .i64 m, .string t, .string s, .slice p1 n1 c1, .slice none 0 0] 33) := Bp_6.out.next hb
    have Bv_7 : Hid (Blk w5 (w3.heap.size + 1) #[.int .i64 skv, .int .i64 snv, .string stv, .slice pkv nkv nkv] 26) := Bv_6.out.next hb
    have O_7 : Hid (Rows w5 All 5 (HBd w5 All 3) ev1 (MR.getD [])) := Rows.mono O_6.out (SameOn.of_below hb) (fun _ h => h) (fun _ _ _ h => h.mono (SameOn.of_below hb) (fun _ h => h))
    clear E_6 K_6 P_6 R_6 A_6 B_6 Ba_6 Bb_6 Q_6 V_6 N_6 Bp_6 Bv_6 O_6
    rw [HMR.out] at ho2 ⊢
    have O2_7 : Hid (Rows w5 All 5 (HBd w5 All 3) ev2 (MR.getD [])) := ho2
    clear hb ho2
    go_wp2_with fail
    refine (drawLookup_any _ xs _ hx' R_7.out).mono ?_
    rintro e w6 ⟨u2, env2, nm, rfl, hE, hnm, hb⟩
    have E_8 : Hid (Below w.heap.size w w6) := E_7.out.trans (hb.mono E_7.out.size)
    have K_8 : Hid (KeysAt w6) := K_7.out.below hb
    have P_8 : Hid (PowAt w6) := powAt_below P_7.out hb
    have R_8 : Hid (Rows w6 All 1 HByte (.slice sp xs.length cap) xs) := Rows.mono R_7.out (SameOn.of_below hb) (fun _ h => h) (fun _ _ _ h => h)
    have A_8 : Hid (HVa w6 All 4 [.int .i64 ska, .int .i64 sna, .string sta, .slice pka nka cka] xa) := A_7.out.mono (SameOn.of_below hb) (fun _ h => h)
    have B_8 : Hid (HVa w6 All 4 [.int .i64 skb, .int .i64 snb, .string stb, .slice pkb nkb ckb] xb) := B_7.out.mono (SameOn.of_below hb) (fun _ h => h)
    have Ba_8 : Hid (Blk w6 (w1.heap.size) #[.int .i64 ska, .int .i64 sna, .string sta, .slice pka nka cka] 26) := Ba_7.out.next hb
    have Bb_8 : Hid (Blk w6 (w1.heap.size + 1) #[.int .i64 skb, .int .i64 snb, .string stb, .slice pkb nkb ckb] 26) := Bb_7.out.next hb
    have Q_8 : Hid (HEx w6 All 3 [.int .i64 k, .int .i64 m, .string t, .string s, .slice p1 n1 c1, .slice none 0 0] y) := HEx.mono (SameOn.of_below hb) (fun _ h => h) Q_7.out
    have V_8 : Hid (HVa w6 All 3 [.int .i64 skv, .int .i64 snv, .string stv, .slice pkv nkv nkv] xv) := V_7.out.mono (SameOn.of_below hb) (fun _ h => h)
    have N_8 : Hid (Rows w6 All 5 (HBd w6 All 3) u env) := Rows.mono N_7.out (SameOn.of_below hb) (fun _ h => h) (fun _ _ _ h => h.mono (SameOn.of_below hb) (fun _ h => h))
    have Bp_8 : Hid (Blk w6 (w3.heap.size) #[.int .i64 k, .int .i64 m, .string t, .string s, .slice p1 n1 c1, .slice none 0 0] 33) := Bp_7.out.next hb
    have Bv_8 : Hid (Blk w6 (w3.heap.size + 1) #[.int .i64 skv, .int .i64 snv, .string stv, .slice pkv nkv nkv] 26) := Bv_7.out.next hb
    have O_8 : Hid (Rows w6 All 5 (HBd w6 All 3) ev1 (MR.getD [])) := Rows.mono O_7.out (SameOn.of_below hb) (fun _ h => h) (fun _ _ _ h => h.mono (SameOn.of_below hb) (fun _ h => h))
    have O2_8 : Hid (Rows w6 All 5 (HBd w6 All 3) ev2 (MR.getD [])) := Rows.mono O2_7.out (SameOn.of_below hb) (fun _ h => h) (fun _ _ _ h => h.mono (SameOn.of_below hb) (fun _ h => h))
    clear E_7 K_7 P_7 R_7 A_7 B_7 Ba_7 Bb_7 Q_7 V_7 N_7 Bp_7 Bv_7 O_7 O2_7
    have N2_8 : Hid (Rows w6 All 5 (HBd w6 All 2) u2 env2) := Rows.mono hE.2.1 ⟨Nat.le_refl _, fun _ _ _ => rfl⟩ (fun _ _ => trivial) (fun _ _ _ h => h.mono ⟨Nat.le_refl _, fun _ _ _ => rfl⟩ (fun _ _ => trivial))
    have HWL : Hid (wtS (wtBd 2) env2 ≤ 1048576) := look_ok hE
    clear hE hb
    go_wp2_with fail
    refine (implLookup_any 2 _ _ env2 nm N2_8.out HWL.out).mono ?_
    rintro e w7 ⟨cs1, fp1, rfl, hx1, -, -, hb⟩
    have E_9 : Hid (Below w.heap.size w w7) := E_8.out.trans (hb.mono E_8.out.size)
    have K_9 : Hid (KeysAt w7) := K_8.out.below hb
    have P_9 : Hid (PowAt w7) := powAt_below P_8.out hb
    have R_9 : Hid (Rows w7 All 1 HByte (.slice sp xs.length cap) xs) := Rows.mono R_8.out (SameOn.of_below hb) (fun _ h => h) (fun _ _ _ h => h)
    have A_9 : Hid (HVa w7 All 4 [.int .i64 ska, .int .i64 sna, .string sta, .slice pka nka cka] xa) := A_8.out.mono (SameOn.of_below hb) (fun _ h => h)
    have B_9 : Hid (HVa w7 All 4 [.int .i64 skb, .int .i64 snb, .string stb, .slice pkb nkb ckb] xb) := B_8.out.mono (SameOn.of_below hb) (fun _ h => h)
    have Ba_9 : Hid (Blk w7 (w1.heap.size) #[.int .i64 ska, .int .i64 sna, .string sta, .slice pka nka cka] 26) := Ba_8.out.next hb
    have Bb_9 : Hid (Blk w7 (w1.heap.size + 1) #[.int .i64 skb, .int .i64 snb, .string stb, .slice pkb nkb ckb] 26) := Bb_8.out.next hb
    have Q_9 : Hid (HEx w7 All 3 [.int .i64 k, .int .i64 m, .string t, .string s, .slice p1 n1 c1, .slice none 0 0] y) := HEx.mono (SameOn.of_below hb) (fun _ h => h) Q_8.out
    have V_9 : Hid (HVa w7 All 3 [.int .i64 skv, .int .i64 snv, .string stv, .slice pkv nkv nkv] xv) := V_8.out.mono (SameOn.of_below hb) (fun _ h => h)
    have N_9 : Hid (Rows w7 All 5 (HBd w7 All 3) u env) := Rows.mono N_8.out (SameOn.of_below hb) (fun _ h => h) (fun _ _ _ h => h.mono (SameOn.of_below hb) (fun _ h => h))
    have Bp_9 : Hid (Blk w7 (w3.heap.size) #[.int .i64 k, .int .i64 m, .string t, .string s, .slice p1 n1 c1, .slice none 0 0] 33) := Bp_8.out.next hb
    have Bv_9 : Hid (Blk w7 (w3.heap.size + 1) #[.int .i64 skv, .int .i64 snv, .string stv, .slice pkv nkv nkv] 26) := Bv_8.out.next hb
    have O_9 : Hid (Rows w7 All 5 (HBd w7 All 3) ev1 (MR.getD [])) := Rows.mono O_8.out (SameOn.of_below hb) (fun _ h => h) (fun _ _ _ h => h.mono (SameOn.of_below hb) (fun _ h => h))
    have O2_9 : Hid (Rows w7 All 5 (HBd w7 All 3) ev2 (MR.getD [])) := Rows.mono O2_8.out (SameOn.of_below hb) (fun _ h => h) (fun _ _ _ h => h.mono (SameOn.of_below hb) (fun _ h => h))
    have N2_9 : Hid (Rows w7 All 5 (HBd w7 All 2) u2 env2) := Rows.mono N2_8.out (SameOn.of_below hb) (fun _ h => h) (fun _ _ _ h => h.mono (SameOn.of_below hb) (fun _ h => h))
    clear E_8 K_8 P_8 R_8 A_8 B_8 Ba_8 Bb_8 Q_8 V_8 N_8 Bp_8 Bv_8 O_8 O2_8 N2_8
    obtain ⟨skx, snx, stx, pkx, nkx, ckx, hsh⟩ := (OVa.tree (S := All) hx1 (fun _ _ => trivial)).shape
    subst hsh
    have X_9 : Hid (HVa w7 All 3 [.int .i64 skx, .int .i64 snx, .string stx, .slice pkx nkx ckx] (lookR nm env2).1) := OVa.tree hx1 (fun _ _ => trivial)
    clear hx1 hb
    obtain ⟨W9, hW9⟩ : ∃ W, W = (w7.alloc (.cells #[.int .i64 skx, .int .i64 snx, .string stx, .slice pkx nkx ckx] 26)) := ⟨_, rfl⟩
    have HW9 : Hid (W9 = (w7.alloc (.cells #[.int .i64 skx, .int .i64 snx, .string stx, .slice pkx nkx ckx] 26))) := hW9
    have hal : Below w7.heap.size w7 W9 := by rw [hW9]; exact (Below.refl _ _).alloc (Nat.le_refl _) _
    have E_10 : Hid (Below w.heap.size w W9) := E_9.out.trans (hal.mono E_9.out.size)
    have K_10 : Hid (KeysAt W9) := K_9.out.below hal
    have P_10 : Hid (PowAt W9) := powAt_below P_9.out hal
    have R_10 : Hid (Rows W9 All 1 HByte (.slice sp xs.length cap) xs) := Rows.mono R_9.out (SameOn.of_below hal) (fun _ h => h) (fun _ _ _ h => h)
    have A_10 : Hid (HVa W9 All 4 [.int .i64 ska, .int .i64 sna, .string sta, .slice pka nka cka] xa) := A_9.out.mono (SameOn.of_below hal) (fun _ h => h)
    have B_10 : Hid (HVa W9 All 4 [.int .i64 skb, .int .i64 snb, .string stb, .slice pkb nkb ckb] xb) := B_9.out.mono (SameOn.of_below hal) (fun _ h => h)
    have Ba_10 : Hid (Blk W9 (w1.heap.size) #[.int .i64 ska, .int .i64 sna, .string sta, .slice pka nka cka] 26) := Ba_9.out.next hal
    have Bb_10 : Hid (Blk W9 (w1.heap.size + 1) #[.int .i64 skb, .int .i64 snb, .string stb, .slice pkb nkb ckb] 26) := Bb_9.out.next hal
    have Q_10 : Hid (HEx W9 All 3 [.int .i64 k, .int .i64 m, .string t, .string s, .slice p1 n1 c1, .slice none 0 0] y) := HEx.mono (SameOn.of_below hal) (fun _ h => h) Q_9.out
    have V_10 : Hid (HVa W9 All 3 [.int .i64 skv, .int .i64 snv, .string stv, .slice pkv nkv nkv] xv) := V_9.out.mono (SameOn.of_below hal) (fun _ h => h)
    have N_10 : Hid (Rows W9 All 5 (HBd W9 All 3) u env) := Rows.mono N_9.out (SameOn.of_below hal) (fun _ h => h) (fun _ _ _ h => h.mono (SameOn.of_below hal) (fun _ h => h))
    have Bp_10 : Hid (Blk W9 (w3.heap.size) #[.int .i64 k, .int .i64 m, .string t, .string s, .slice p1 n1 c1, .slice none 0 0] 33) := Bp_9.out.next hal
    have Bv_10 : Hid (Blk W9 (w3.heap.size + 1) #[.int .i64 skv, .int .i64 snv, .string stv, .slice pkv nkv nkv] 26) := Bv_9.out.next hal
    have O_10 : Hid (Rows W9 All 5 (HBd W9 All 3) ev1 (MR.getD [])) := Rows.mono O_9.out (SameOn.of_below hal) (fun _ h => h) (fun _ _ _ h => h.mono (SameOn.of_below hal) (fun _ h => h))
    have O2_10 : Hid (Rows W9 All 5 (HBd W9 All 3) ev2 (MR.getD [])) := Rows.mono O2_9.out (SameOn.of_below hal) (fun _ h => h) (fun _ _ _ h => h.mono (SameOn.of_below hal) (fun _ h => h))
    have N2_10 : Hid (Rows W9 All 5 (HBd W9 All 2) u2 env2) := Rows.mono N2_9.out (SameOn.of_below hal) (fun _ h => h) (fun _ _ _ h => h.mono (SameOn.of_below hal) (fun _ h => h))
    have X_10 : Hid (HVa W9 All 3 [.int .i64 skx, .int .i64 snx, .string stx, .slice pkx nkx ckx] (lookR nm env2).1) := X_9.out.mono (SameOn.of_below hal) (fun _ h => h)
    clear E_9 K_9 P_9 R_9 A_9 B_9 Ba_9 Bb_9 Q_9 V_9 N_9 Bp_9 Bv_9 O_9 O2_9 N2_9 X_9
    have Bx_10 : Hid (Blk W9 (w7.heap.size) #[.int .i64 skx, .int .i64 snx, .string stx, .slice pkx nkx ckx] 26) := by show Blk _ _ _ _; rw [hW9]; exact Blk.new
    clear hal hW9
    go_wp2_with fail
    rw [show (w7.alloc (.cells #[.int .i64 skx, .int .i64 snx, .string stx, .slice pkx nkx ckx] 26)) = W9 from HW9.out.symm]
    refine (specLookup_any 2 _ _ env2 nm N2_10.out HWL.out).mono ?_
    rintro e w8 ⟨cs2, rfl, hx2, hb⟩
    have E_11 : Hid (Below w.heap.size w w8) := E_10.out.trans (hb.mono E_10.out.size)
    have K_11 : Hid (KeysAt w8) := K_10.out.below hb
    have P_11 : Hid (PowAt w8) := powAt_below P_10.out hb
    have R_11 : Hid (Rows w8 All 1 HByte (.slice sp xs.length cap) xs) := Rows.mono R_10.out (SameOn.of_below hb) (fun _ h => h) (fun _ _ _ h => h)
    have A_11 : Hid (HVa w8 All 4 [.int .i64 ska, .int .i64 sna, .string sta, .slice pka nka cka] xa) := A_10.out.mono (SameOn.of_below hb) (fun _ h => h)
    have B_11 : Hid (HVa w8 All 4 [.int .i64 skb, .int .i64 snb, .string stb, .slice pkb nkb ckb] xb) := B_10.out.mono (SameOn.of_below hb) (fun _ h => h)
    have Ba_11 : Hid (Blk w8 (w1.heap.size) #[.int .i64 ska, .int .i64 sna, .string sta, .slice pka nka cka] 26) := Ba_10.out.next hb
    have Bb_11 : Hid (Blk w8 (w1.heap.size + 1) #[.int .i64 skb, .int .i64 snb, .string stb, .slice pkb nkb ckb] 26) := Bb_10.out.next hb
    have Q_11 : Hid (HEx w8 All 3 [.int .i64 k, .int .i64 m, .string t, .string s, .slice p1 n1 c1, .slice none 0 0] y) := HEx.mono (SameOn.of_below hb) (fun _ h => h) Q_10.out
    have V_11 : Hid (HVa w8 All 3 [.int .i64 skv, .int .i64 snv, .string stv, .slice pkv nkv nkv] xv) := V_10.out.mono (SameOn.of_below hb) (fun _ h => h)
    have N_11 : Hid (Rows w8 All 5 (HBd w8 All 3) u env) := Rows.mono N_10.out (SameOn.of_below hb) (fun _ h => h) (fun _ _ _ h => h.mono (SameOn.of_below hb) (fun _ h => h))
    have Bp_11 : Hid (Blk w8 (w3.heap.size) #[.int .i64 k, .int .i64 m, .string t, .string s, .slice p1 n1 c1, .slice none 0 0] 33) := Bp_10.out.next hb
    have Bv_11 : Hid (Blk w8 (w3.heap.size + 1) #[.int .i64 skv, .int .i64 snv, .string stv, .slice pkv nkv nkv] 26) := Bv_10.out.next hb
    have O_11 : Hid (Rows w8 All 5 (HBd w8 All 3) ev1 (MR.getD [])) := Rows.mono O_10.out (SameOn.of_below hb) (fun _ h => h) (fun _ _ _ h => h.mono (SameOn.of_below hb) (fun _ h => h))
    have O2_11 : Hid (Rows w8 All 5 (HBd w8 All 3) ev2 (MR.getD [])) := Rows.mono O2_10.out (SameOn.of_below hb) (fun _ h => h) (fun _ _ _ h => h.mono (SameOn.of_below hb) (fun _ h => h))
    have N2_11 : Hid (Rows w8 All 5 (HBd w8 All 2) u2 env2) := Rows.mono N2_10.out (SameOn.of_below hb) (fun _ h => h) (fun _ _ _ h => h.mono (SameOn.of_below hb) (fun _ h => h))
    have X_11 : Hid (HVa w8 All 3 [.int .i64 skx, .int .i64 snx, .string stx, .slice pkx nkx ckx] (lookR nm env2).1) := X_10.out.mono (SameOn.of_below hb) (fun _ h => h)
    have Bx_11 : Hid (Blk w8 (w7.heap.size) #[.int .i64 skx, .int .i64 snx, .string stx, .slice pkx nkx ckx] 26) := Bx_10.out.next hb
    clear E_10 K_10 P_10 R_10 A_10 B_10 Ba_10 Bb_10 Q_10 V_10 N_10 Bp_10 Bv_10 O_10 O2_10 N2_10 X_10 Bx_10
    obtain ⟨sky, sny, sty, pky, nky, cky, hsh⟩ := hx2.shape
    subst hsh
    have Y_11 : Hid (HVa w8 All 3 [.int .i64 sky, .int .i64 sny, .string sty, .slice pky nky cky] (lookR nm env2).1) := hx2
    clear hx2 hb
    obtain ⟨W11, hW11⟩ : ∃ W, W = (w8.alloc (.cells #[.int .i64 sky, .int .i64 sny, .string sty, .slice pky nky cky] 26)) := ⟨_, rfl⟩
    have HW11 : Hid (W11 = (w8.alloc (.cells #[.int .i64 sky, .int .i64 sny, .string sty, .slice pky nky cky] 26))) := hW11
    have hal : Below w8.heap.size w8 W11 := by rw [hW11]; exact (Below.refl _ _).alloc (Nat.le_refl _) _
    have E_12 : Hid (Below w.heap.size w W11) := E_11.out.trans (hal.mono E_11.out.size)
    have K_12 : Hid (KeysAt W11) := K_11.out.below hal
    have P_12 : Hid (PowAt W11) := powAt_below P_11.out hal
    have R_12 : Hid (Rows W11 All 1 HByte (.slice sp xs.length cap) xs) := Rows.mono R_11.out (SameOn.of_below hal) (fun _ h => h) (fun _ _ _ h => h)
    have A_12 : Hid (HVa W11 All 4 [.int .i64 ska, .int .i64 sna, .string sta, .slice pka nka cka] xa) := A_11.out.mono (SameOn.of_below hal) (fun _ h => h)
    have B_12 : Hid (HVa W11 All 4 [.int .i64 skb, .int .i64 snb, .string stb, .slice pkb nkb ckb] xb) := B_11.out.mono (SameOn.of_below hal) (fun _ h => h)
    have Ba_12 : Hid (Blk W11 (w1.heap.size) #[.int .i64 ska, .int .i64 sna, .string sta, .slice pka nka cka] 26) := Ba_11.out.next hal
    have Bb_12 : Hid (Blk W11 (w1.heap.size + 1) #[.int .i64 skb, .int .i64 snb, .string stb, .slice pkb nkb ckb] 26) := Bb_11.out.next hal
    have Q_12 : Hid (HEx W11 All 3 [.int .i64 k, .int .i64 m, .string t, .string s, .slice p1 n1 c1, .slice none 0 0] y) := HEx.mono (SameOn.of_below hal) (fun _ h => h) Q_11.out
    have V_12 : Hid (HVa W11 All 3 [.int .i64 skv, .int .i64 snv, .string stv, .slice pkv nkv nkv] xv) := V_11.out.mono (SameOn.of_below hal) (fun _ h => h)
    have N_12 : Hid (Rows W11 All 5 (HBd W11 All 3) u env) := Rows.mono N_11.out (SameOn.of_below hal) (fun _ h => h) (fun _ _ _ h => h.mono (SameOn.of_below hal) (fun _ h => h))
    have Bp_12 : Hid (Blk W11 (w3.heap.size) #[.int .i64 k, .int .i64 m, .string t, .string s, .slice p1 n1 c1, .slice none 0 0] 33) := Bp_11.out.next hal
    have Bv_12 : Hid (Blk W11 (w3.heap.size + 1) #[.int .i64 skv, .int .i64 snv, .string stv, .slice pkv nkv nkv] 26) := Bv_11.out.next hal
    have O_12 : Hid (Rows W11 All 5 (HBd W11 All 3) ev1 (MR.getD [])) := Rows.mono O_11.out (SameOn.of_below hal) (fun _ h => h) (fun _ _ _ h => h.mono (SameOn.of_below hal) (fun _ h => h))
    have O2_12 : Hid (Rows W11 All 5 (HBd W11 All 3) ev2 (MR.getD [])) := Rows.mono O2_11.out (SameOn.of_below hal) (fun _ h => h) (fun _ _ _ h => h.mono (SameOn.of_below hal) (fun _ h => h))
    have N2_12 : Hid (Rows W11 All 5 (HBd W11 All 2) u2 env2) := Rows.mono N2_11.out (SameOn.of_below hal) (fun _ h => h) (fun _ _ _ h => h.mono (SameOn.of_below hal) (fun _ h => h))
    have X_12 : Hid (HVa W11 All 3 [.int .i64 skx, .int .i64 snx, .string stx, .slice pkx nkx ckx] (lookR nm env2).1) := X_11.out.mono (SameOn.of_below hal) (fun _ h => h)
    have Bx_12 : Hid (Blk W11 (w7.heap.size) #[.int .i64 skx, .int .i64 snx, .string stx, .slice pkx nkx ckx] 26) := Bx_11.out.next hal
    have Y_12 : Hid (HVa W11 All 3 [.int .i64 sky, .int .i64 sny, .string sty, .slice pky nky cky] (lookR nm env2).1) := Y_11.out.mono (SameOn.of_below hal) (fun _ h => h)
    clear E_11 K_11 P_11 R_11 A_11 B_11 Ba_11 Bb_11 Q_11 V_11 N_11 Bp_11 Bv_11 O_11 O2_11 N2_11 X_11 Bx_11 Y_11
    have By_12 : Hid (Blk W11 (w8.heap.size) #[.int .i64 sky, .int .i64 sny, .string sty, .slice pky nky cky] 26) := by show Blk _ _ _ _; rw [hW11]; exact Blk.new
    clear hal hW11
    go_wp2_with fail
    rw [show (w8.alloc (.cells #[.int .i64 sky, .int .i64 sny, .string sty, .slice pky nky cky] 26)) = W11 from HW11.out.symm]
    refine (drawReckon_any _ xs _ hx' R_12.out).mono ?_
    rintro e w9 ⟨op, skl, snl, stl, pkl, nkl, ckl, xl, skr, snr, str, pkr, nkr, ckr, xr, rfl, hA, hB, -, hb⟩
    have E_13 : Hid (Below w.heap.size w w9) := E_12.out.trans (hb.mono E_12.out.size)
    have K_13 : Hid (KeysAt w9) := K_12.out.below hb
    have P_13 : Hid (PowAt w9) := powAt_below P_12.out hb
    have R_13 : Hid (Rows w9 All 1 HByte (.slice sp xs.length cap) xs) := Rows.mono R_12.out (SameOn.of_below hb) (fun _ h => h) (fun _ _ _ h => h)
    have A_13 : Hid (HVa w9 All 4 [.int .i64 ska, .int .i64 sna, .string sta, .slice pka nka cka] xa) := A_12.out.mono (SameOn.of_below hb) (fun _ h => h)
    have B_13 : Hid (HVa w9 All 4 [.int .i64 skb, .int .i64 snb, .string stb, .slice pkb nkb ckb] xb) := B_12.out.mono (SameOn.of_below hb) (fun _ h => h)
    have Ba_13 : Hid (Blk w9 (w1.heap.size) #[.int .i64 ska, .int .i64 sna, .string sta, .slice pka nka cka] 26) := Ba_12.out.next hb
    have Bb_13 : Hid (Blk w9 (w1.heap.size + 1) #[.int .i64 skb, .int .i64 snb, .string stb, .slice pkb nkb ckb] 26) := Bb_12.out.next hb
    have Q_13 : Hid (HEx w9 All 3 [.int .i64 k, .int .i64 m, .string t, .string s, .slice p1 n1 c1, .slice none 0 0] y) := HEx.mono (SameOn.of_below hb) (fun _ h => h) Q_12.out
    have V_13 : Hid (HVa w9 All 3 [.int .i64 skv, .int .i64 snv, .string stv, .slice pkv nkv nkv] xv) := V_12.out.mono (SameOn.of_below hb) (fun _ h => h)
    have N_13 : Hid (Rows w9 All 5 (HBd w9 All 3) u env) := Rows.mono N_12.out (SameOn.of_below hb) (fun _ h => h) (fun _ _ _ h => h.mono (SameOn.of_below hb) (fun _ h => h))
    have Bp_13 : Hid (Blk w9 (w3.heap.size) #[.int .i64 k, .int .i64 m, .string t, .string s, .slice p1 n1 c1, .slice none 0 0] 33) := Bp_12.out.next hb
    have Bv_13 : Hid (Blk w9 (w3.heap.size + 1) #[.int .i64 skv, .int .i64 snv, .string stv, .slice pkv nkv nkv] 26) := Bv_12.out.next hb
    have O_13 : Hid (Rows w9 All 5 (HBd w9 All 3) ev1 (MR.getD [])) := Rows.mono O_12.out (SameOn.of_below hb) (fun _ h => h) (fun _ _ _ h => h.mono (SameOn.of_below hb) (fun _ h => h))
    have O2_13 : Hid (Rows w9 All 5 (HBd w9 All 3) ev2 (MR.getD [])) := Rows.mono O2_12.out (SameOn.of_below hb) (fun _ h => h) (fun _ _ _ h => h.mono (SameOn.of_below hb) (fun _ h => h))
    have N2_13 : Hid (Rows w9 All 5 (HBd w9 All 2) u2 env2) := Rows.mono N2_12.out (SameOn.of_below hb) (fun _ h => h) (fun _ _ _ h => h.mono (SameOn.of_below hb) (fun _ h => h))
    have X_13 : Hid (HVa w9 All 3 [.int .i64 skx, .int .i64 snx, .string stx, .slice pkx nkx ckx] (lookR nm env2).1) := X_12.out.mono (SameOn.of_below hb) (fun _ h => h)
    have Bx_13 : Hid (Blk w9 (w7.heap.size) #[.int .i64 skx, .int .i64 snx, .string stx, .slice pkx nkx ckx] 26) := Bx_12.out.next hb
    have Y_13 : Hid (HVa w9 All 3 [.int .i64 sky, .int .i64 sny, .string sty, .slice pky nky cky] (lookR nm env2).1) := Y_12.out.mono (SameOn.of_below hb) (fun _ h => h)
    have By_13 : Hid (Blk w9 (w8.heap.size) #[.int .i64 sky, .int .i64 sny, .string sty, .slice pky nky cky] 26) := By_12.out.next hb
    clear E_12 K_12 P_12 R_12 A_12 B_12 Ba_12 Bb_12 Q_12 V_12 N_12 Bp_12 Bv_12 O_12 O2_12 N2_12 X_12 Bx_12 Y_12 By_12
    have Lv_13 : Hid (HVa w9 All 3 [.int .i64 skl, .int .i64 snl, .string stl, .slice pkl nkl ckl] xl) := hA.1.mono ⟨Nat.le_refl _, fun _ _ _ => rfl⟩ (fun _ _ => trivial)
    have Rv_13 : Hid (HVa w9 All 3 [.int .i64 skr, .int .i64 snr, .string str, .slice pkr nkr ckr] xr) := hB.1.mono ⟨Nat.le_refl _, fun _ _ _ => rfl⟩ (fun _ _ => trivial)
    clear hA hB hb
    obtain ⟨W13, hW13⟩ : ∃ W, W = ((w9.alloc (.cells #[.int .i64 skl, .int .i64 snl, .string stl, .slice pkl nkl ckl] 26)).alloc (.cells #[.int .i64 skr, .int .i64 snr, .string str, .slice pkr nkr ckr] 26)) := ⟨_, rfl⟩
    have HW13 : Hid (W13 = ((w9.alloc (.cells #[.int .i64 skl, .int .i64 snl, .string stl, .slice pkl nkl ckl] 26)).alloc (.cells #[.int .i64 skr, .int .i64 snr, .string str, .slice pkr nkr ckr] 26))) := hW13
    have hal : Below w9.heap.size w9 W13 := by rw [hW13]; exact ((Below.refl _ _).alloc (Nat.le_refl _) _).alloc (by rw [alloc_hs]; omega) _
    have E_14 : Hid (Below w.heap.size w W13) := E_13.out.trans (hal.mono E_13.out.size)
    have K_14 : Hid (KeysAt W13) := K_13.out.below hal
    have P_14 : Hid (PowAt W13) := powAt_below P_13.out hal
    have R_14 : Hid (Rows W13 All 1 HByte (.slice sp xs.length cap) xs) := Rows.mono R_13.out (SameOn.of_below hal) (fun _ h => h) (fun _ _ _ h => h)
    have A_14 : Hid (HVa W13 All 4 [.int .i64 ska, .int .i64 sna, .string sta, .slice pka nka cka] xa) := A_13.out.mono (SameOn.of_below hal) (fun _ h => h)
    have B_14 : Hid (HVa W13 All 4 [.int .i64 skb, .int .i64 snb, .string stb, .slice pkb nkb ckb] xb) := B_13.out.mono (SameOn.of_below hal) (fun _ h => h)
    have Ba_14 : Hid (Blk W13 (w1.heap.size) #[.int .i64 ska, .int .i64 sna, .string sta, .slice pka nka cka] 26) := Ba_13.out.next hal
    have Bb_14 : Hid (Blk W13 (w1.heap.size + 1) #[.int .i64 skb, .int .i64 snb, .string stb, .slice pkb nkb ckb] 26) := Bb_13.out.next hal
    have Q_14 : Hid (HEx W13 All 3 [.int .i64 k, .int .i64 m, .string t, .string s, .slice p1 n1 c1, .slice none 0 0] y) := HEx.mono (SameOn.of_below hal) (fun _ h => h) Q_13.out
    have V_14 : Hid (HVa W13 All 3 [.int .i64 skv, .int .i64 snv, .string stv, .slice pkv nkv nkv] xv) := V_13.out.mono (SameOn.of_below hal) (fun _ h => h)
    have N_14 : Hid (Rows W13 All 5 (HBd W13 All 3) u env) := Rows.mono N_13.out (SameOn.of_below hal) (fun _ h => h) (fun _ _ _ h => h.mono (SameOn.of_below hal) (fun _ h => h))
    have Bp_14 : Hid (Blk W13 (w3.heap.size) #[.int .i64 k, .int .i64 m, .string t, .string s, .slice p1 n1 c1, .slice none 0 0] 33) := Bp_13.out.next hal
    have Bv_14 : Hid (Blk W13 (w3.heap.size + 1) #[.int .i64 skv, .int .i64 snv, .string stv, .slice pkv nkv nkv] 26) := Bv_13.out.next hal
    have O_14 : Hid (Rows W13 All 5 (HBd W13 All 3) ev1 (MR.getD [])) := Rows.mono O_13.out (SameOn.of_below hal) (fun _ h => h) (fun _ _ _ h => h.mono (SameOn.of_below hal) (fun _ h => h))
    have O2_14 : Hid (Rows W13 All 5 (HBd W13 All 3) ev2 (MR.getD [])) := Rows.mono O2_13.out (SameOn.of_below hal) (fun _ h => h) (fun _ _ _ h => h.mono (SameOn.of_below hal) (fun _ h => h))
    have N2_14 : Hid (Rows W13 All 5 (HBd W13 All 2) u2 env2) := Rows.mono N2_13.out (SameOn.of_below hal) (fun _ h => h) (fun _ _ _ h => h.mono (SameOn.of_below hal) (fun _ h => h))
    have X_14 : Hid (HVa W13 All 3 [.int .i64 skx, .int .i64 snx, .string stx, .slice pkx nkx ckx] (lookR nm env2).1) := X_13.out.mono (SameOn.of_below hal) (fun _ h => h)
    have Bx_14 : Hid (Blk W13 (w7.heap.size) #[.int .i64 skx, .int .i64 snx, .string stx, .slice pkx nkx ckx] 26) := Bx_13.out.next hal
    have Y_14 : Hid (HVa W13 All 3 [.int .i64 sky, .int .i64 sny, .string sty, .slice pky nky cky] (lookR nm env2).1) := Y_13.out.mono (SameOn.of_below hal) (fun _ h => h)
    have By_14 : Hid (Blk W13 (w8.heap.size) #[.int .i64 sky, .int .i64 sny, .string sty, .slice pky nky cky] 26) := By_13.out.next hal
    have Lv_14 : Hid (HVa W13 All 3 [.int .i64 skl, .int .i64 snl, .string stl, .slice pkl nkl ckl] xl) := Lv_13.out.mono (SameOn.of_below hal) (fun _ h => h)
    have Rv_14 : Hid (HVa W13 All 3 [.int .i64 skr, .int .i64 snr, .string str, .slice pkr nkr ckr] xr) := Rv_13.out.mono (SameOn.of_below hal) (fun _ h => h)
    clear E_13 K_13 P_13 R_13 A_13 B_13 Ba_13 Bb_13 Q_13 V_13 N_13 Bp_13 Bv_13 O_13 O2_13 N2_13 X_13 Bx_13 Y_13 By_13 Lv_13 Rv_13
    have Bl_14 : Hid (Blk W13 (w9.heap.size) #[.int .i64 skl, .int .i64 snl, .string stl, .slice pkl nkl ckl] 26) := by show Blk _ _ _ _; rw [hW13]; exact Blk.next Blk.new ((Below.refl _ _).alloc (Nat.le_refl _) _)
    have Br_14 : Hid (Blk W13 (w9.heap.size + 1) #[.int .i64 skr, .int .i64 snr, .string str, .slice pkr nkr ckr] 26) := by show Blk _ _ _ _; rw [hW13]; have := Blk.new (w := w9.alloc (.cells #[.int .i64 skl, .int .i64 snl, .string stl, .slice pkl nkl ckl] 26)) (cs := #[.int .i64 skr, .int .i64 snr, .string str, .slice pkr nkr ckr]) (t := 26); rwa [alloc_hs] at this
    clear hal hW13
    have zBl0 := Bl_14.out.cell 0 _ rfl
    have zBl1 := Bl_14.out.cell 1 _ rfl
    have zBl2 := Bl_14.out.cell 2 _ rfl
    have zBl3 := Bl_14.out.cell 3 _ rfl
    have zBr0 := Br_14.out.cell 0 _ rfl
    have zBr1 := Br_14.out.cell 1 _ rfl
    have zBr2 := Br_14.out.cell 2 _ rfl
    have zBr3 := Br_14.out.cell 3 _ rfl
    rw [HW13.out] at zBl0 zBl1 zBl2 zBl3 zBr0 zBr1 zBr2 zBr3
    go_wp2_with fail
    rw [show ((w9.alloc (.cells #[.int .i64 skl, .int .i64 snl, .string stl, .slice pkl nkl ckl] 26)).alloc (.cells #[.int .i64 skr, .int .i64 snr, .string str, .slice pkr nkr ckr] 26)) = W13 from HW13.out.symm]
    clear zBl0 zBl1 zBl2 zBl3 zBr0 zBr1 zBr2 zBr3
    refine (implReckon_any 3 _ op _ _ xl xr Lv_14.out Rv_14.out).mono ?_
    rintro e w10 ⟨rfl, hb⟩
    have E_15 : Hid (Below w.heap.size w w10) := E_14.out.trans (hb.mono E_14.out.size)
    have K_15 : Hid (KeysAt w10) := K_14.out.below hb
    have P_15 : Hid (PowAt w10) := powAt_below P_14.out hb
    have R_15 : Hid (Rows w10 All 1 HByte (.slice sp xs.length cap) xs) := Rows.mono R_14.out (SameOn.of_below hb) (fun _ h => h) (fun _ _ _ h => h)
    have A_15 : Hid (HVa w10 All 4 [.int .i64 ska, .int .i64 sna, .string sta, .slice pka nka cka] xa) := A_14.out.mono (SameOn.of_below hb) (fun _ h => h)
    have B_15 : Hid (HVa w10 All 4 [.int .i64 skb, .int .i64 snb, .string stb, .slice pkb nkb ckb] xb) := B_14.out.mono (SameOn.of_below hb) (fun _ h => h)
    have Ba_15 : Hid (Blk w10 (w1.heap.size) #[.int .i64 ska, .int .i64 sna, .string sta, .slice pka nka cka] 26) := Ba_14.out.next hb
    have Bb_15 : Hid (Blk w10 (w1.heap.size + 1) #[.int .i64 skb, .int .i64 snb, .string stb, .slice pkb nkb ckb] 26) := Bb_14.out.next hb
    have Q_15 : Hid (HEx w10 All 3 [.int .i64 k, .int .i64 m, .string t, .string s, .slice p1 n1 c1, .slice none 0 0] y) := HEx.mono (SameOn.of_below hb) (fun _ h => h) Q_14.out
    have V_15 : Hid (HVa w10 All 3 [.int .i64 skv, .int .i64 snv, .string stv, .slice pkv nkv nkv] xv) := V_14.out.mono (SameOn.of_below hb) (fun _ h => h)
    have N_15 : Hid (Rows w10 All 5 (HBd w10 All 3) u env) := Rows.mono N_14.out (SameOn.of_below hb) (fun _ h => h) (fun _ _ _ h => h.mono (SameOn.of_below hb) (fun _ h => h))
    have Bp_15 : Hid (Blk w10 (w3.heap.size) #[.int .i64 k, .int .i64 m, .string t, .string s, .slice p1 n1 c1, .slice none 0 0] 33) := Bp_14.out.next hb
    have Bv_15 : Hid (Blk w10 (w3.heap.size + 1) #[.int .i64 skv, .int .i64 snv, .string stv, .slice pkv nkv nkv] 26) := Bv_14.out.next hb
    have O_15 : Hid (Rows w10 All 5 (HBd w10 All 3) ev1 (MR.getD [])) := Rows.mono O_14.out (SameOn.of_below hb) (fun _ h => h) (fun _ _ _ h => h.mono (SameOn.of_below hb) (fun _ h => h))
    have O2_15 : Hid (Rows w10 All 5 (HBd w10 All 3) ev2 (MR.getD [])) := Rows.mono O2_14.out (SameOn.of_below hb) (fun _ h => h) (fun _ _ _ h => h.mono (SameOn.of_below hb) (fun _ h => h))
    have N2_15 : Hid (Rows w10 All 5 (HBd w10 All 2) u2 env2) := Rows.mono N2_14.out (SameOn.of_below hb) (fun _ h => h) (fun _ _ _ h => h.mono (SameOn.of_below hb) (fun _ h => h))
    have X_15 : Hid (HVa w10 All 3 [.int .i64 skx, .int .i64 snx, .string stx, .slice pkx nkx ckx] (lookR nm env2).1) := X_14.out.mono (SameOn.of_below hb) (fun _ h => h)
    have Bx_15 : Hid (Blk w10 (w7.heap.size) #[.int .i64 skx, .int .i64 snx, .string stx, .slice pkx nkx ckx] 26) := Bx_14.out.next hb
    have Y_15 : Hid (HVa w10 All 3 [.int .i64 sky, .int .i64 sny, .string sty, .slice pky nky cky] (lookR nm env2).1) := Y_14.out.mono (SameOn.of_below hb) (fun _ h => h)
    have By_15 : Hid (Blk w10 (w8.heap.size) #[.int .i64 sky, .int .i64 sny, .string sty, .slice pky nky cky] 26) := By_14.out.next hb
    have Lv_15 : Hid (HVa w10 All 3 [.int .i64 skl, .int .i64 snl, .string stl, .slice pkl nkl ckl] xl) := Lv_14.out.mono (SameOn.of_below hb) (fun _ h => h)
    have Rv_15 : Hid (HVa w10 All 3 [.int .i64 skr, .int .i64 snr, .string str, .slice pkr nkr ckr] xr) := Rv_14.out.mono (SameOn.of_below hb) (fun _ h => h)
    have Bl_15 : Hid (Blk w10 (w9.heap.size) #[.int .i64 skl, .int .i64 snl, .string stl, .slice pkl nkl ckl] 26) := Bl_14.out.next hb
    have Br_15 : Hid (Blk w10 (w9.heap.size + 1) #[.int .i64 skr, .int .i64 snr, .string str, .slice pkr nkr ckr] 26) := Br_14.out.next hb
    clear E_14 K_14 P_14 R_14 A_14 B_14 Ba_14 Bb_14 Q_14 V_14 N_14 Bp_14 Bv_14 O_14 O2_14 N2_14 X_14 Bx_14 Y_14 By_14 Lv_14 Rv_14 Bl_14 Br_14
    clear hb
    have HRK : Hid (ReckOk (reck 3 op.toList xl xr)) := reck_ok 3 op.toList xl xr
    obtain ⟨RK, hRK⟩ : ∃ RK, RK = reck 3 op.toList xl xr := ⟨_, rfl⟩
    rw [← hRK] at HRK ⊢
    have HRE : Hid (reck 3 op.toList xl xr = RK) := hRK.symm
    clear hRK
    unfold reckE
    obtain ⟨W15, hW15⟩ : ∃ W, W = (w10.alloc (.cells #[.int .i64 RK.1.1, .int .i64 RK.1.2.1, .string RK.1.2.2, .slice none 0 0] 26)) := ⟨_, rfl⟩
    have HW15 : Hid (W15 = (w10.alloc (.cells #[.int .i64 RK.1.1, .int .i64 RK.1.2.1, .string RK.1.2.2, .slice none 0 0] 26))) := hW15
    have hal : Below w10.heap.size w10 W15 := by rw [hW15]; exact (Below.refl _ _).alloc (Nat.le_refl _) _
    have E_16 : Hid (Below w.heap.size w W15) := E_15.out.trans (hal.mono E_15.out.size)
    have K_16 : Hid (KeysAt W15) := K_15.out.below hal
    have P_16 : Hid (PowAt W15) := powAt_below P_15.out hal
    have R_16 : Hid (Rows W15 All 1 HByte (.slice sp xs.length cap) xs) := Rows.mono R_15.out (SameOn.of_below hal) (fun _ h => h) (fun _ _ _ h => h)
    have A_16 : Hid (HVa W15 All 4 [.int .i64 ska, .int .i64 sna, .string sta, .slice pka nka cka] xa) := A_15.out.mono (SameOn.of_below hal) (fun _ h => h)
    have B_16 : Hid (HVa W15 All 4 [.int .i64 skb, .int .i64 snb, .string stb, .slice pkb nkb ckb] xb) := B_15.out.mono (SameOn.of_below hal) (fun _ h => h)
    have Ba_16 : Hid (Blk W15 (w1.heap.size) #[.int .i64 ska, .int .i64 sna, .string sta, .slice pka nka cka] 26) := Ba_15.out.next hal
    have Bb_16 : Hid (Blk W15 (w1.heap.size + 1) #[.int .i64 skb, .int .i64 snb, .string stb, .slice pkb nkb ckb] 26) := Bb_15.out.next hal
    have Q_16 : Hid (HEx W15 All 3 [.int .i64 k, .int .i64 m, .string t, .string s, .slice p1 n1 c1, .slice none 0 0] y) := HEx.mono (SameOn.of_below hal) (fun _ h => h) Q_15.out
    have V_16 : Hid (HVa W15 All 3 [.int .i64 skv, .int .i64 snv, .string stv, .slice pkv nkv nkv] xv) := V_15.out.mono (SameOn.of_below hal) (fun _ h => h)
    have N_16 : Hid (Rows W15 All 5 (HBd W15 All 3) u env) := Rows.mono N_15.out (SameOn.of_below hal) (fun _ h => h) (fun _ _ _ h => h.mono (SameOn.of_below hal) (fun _ h => h))
    have Bp_16 : Hid (Blk W15 (w3.heap.size) #[.int .i64 k, .int .i64 m, .string t, .string s, .slice p1 n1 c1, .slice none 0 0] 33) := Bp_15.out.next hal
    have Bv_16 : Hid (Blk W15 (w3.heap.size + 1) #[.int .i64 skv, .int .i64 snv, .string stv, .slice pkv nkv nkv] 26) := Bv_15.out.next hal
    have O_16 : Hid (Rows W15 All 5 (HBd W15 All 3) ev1 (MR.getD [])) := Rows.mono O_15.out (SameOn.of_below hal) (fun _ h => h) (fun _ _ _ h => h.mono (SameOn.of_below hal) (fun _ h => h))
    have O2_16 : Hid (Rows W15 All 5 (HBd W15 All 3) ev2 (MR.getD [])) := Rows.mono O2_15.out (SameOn.of_below hal) (fun _ h => h) (fun _ _ _ h => h.mono (SameOn.of_below hal) (fun _ h => h))
    have N2_16 : Hid (Rows W15 All 5 (HBd W15 All 2) u2 env2) := Rows.mono N2_15.out (SameOn.of_below hal) (fun _ h => h) (fun _ _ _ h => h.mono (SameOn.of_below hal) (fun _ h => h))
    have X_16 : Hid (HVa W15 All 3 [.int .i64 skx, .int .i64 snx, .string stx, .slice pkx nkx ckx] (lookR nm env2).1) := X_15.out.mono (SameOn.of_below hal) (fun _ h => h)
    have Bx_16 : Hid (Blk W15 (w7.heap.size) #[.int .i64 skx, .int .i64 snx, .string stx, .slice pkx nkx ckx] 26) := Bx_15.out.next hal
    have Y_16 : Hid (HVa W15 All 3 [.int .i64 sky, .int .i64 sny, .string sty, .slice pky nky cky] (lookR nm env2).1) := Y_15.out.mono (SameOn.of_below hal) (fun _ h => h)
    have By_16 : Hid (Blk W15 (w8.heap.size) #[.int .i64 sky, .int .i64 sny, .string sty, .slice pky nky cky] 26) := By_15.out.next hal
    have Lv_16 : Hid (HVa W15 All 3 [.int .i64 skl, .int .i64 snl, .string stl, .slice pkl nkl ckl] xl) := Lv_15.out.mono (SameOn.of_below hal) (fun _ h => h)
    have Rv_16 : Hid (HVa W15 All 3 [.int .i64 skr, .int .i64 snr, .string str, .slice pkr nkr ckr] xr) := Rv_15.out.mono (SameOn.of_below hal) (fun _ h => h)
    have Bl_16 : Hid (Blk W15 (w9.heap.size) #[.int .i64 skl, .int .i64 snl, .string stl, .slice pkl nkl ckl] 26) := Bl_15.out.next hal
    have Br_16 : Hid (Blk W15 (w9.heap.size + 1) #[.int .i64 skr, .int .i64 snr, .string str, .slice pkr nkr ckr] 26) := Br_15.out.next hal
    clear E_15 K_15 P_15 R_15 A_15 B_15 Ba_15 Bb_15 Q_15 V_15 N_15 Bp_15 Bv_15 O_15 O2_15 N2_15 X_15 Bx_15 Y_15 By_15 Lv_15 Rv_15 Bl_15 Br_15
    have Bs_16 : Hid (Blk W15 (w10.heap.size) #[.int .i64 RK.1.1, .int .i64 RK.1.2.1, .string RK.1.2.2, .slice none 0 0] 26) := by show Blk _ _ _ _; rw [hW15]; exact Blk.new
    clear hal hW15
    have zBl0 := Bl_16.out.cell 0 _ rfl
    have zBl1 := Bl_16.out.cell 1 _ rfl
    have zBl2 := Bl_16.out.cell 2 _ rfl
    have zBl3 := Bl_16.out.cell 3 _ rfl
    have zBr0 := Br_16.out.cell 0 _ rfl
    have zBr1 := Br_16.out.cell 1 _ rfl
    have zBr2 := Br_16.out.cell 2 _ rfl
    have zBr3 := Br_16.out.cell 3 _ rfl
    rw [HW15.out] at zBl0 zBl1 zBl2 zBl3 zBr0 zBr1 zBr2 zBr3
    go_wp2_with fail
    rw [show (w10.alloc (.cells #[.int .i64 RK.1.1, .int .i64 RK.1.2.1, .string RK.1.2.2, .slice none 0 0] 26)) = W15 from HW15.out.symm]
    clear zBl0 zBl1 zBl2 zBl3 zBr0 zBr1 zBr2 zBr3
    refine (specReckon_any 3 _ op _ _ xl xr Lv_16.out Rv_16.out).mono ?_
    rintro e w11 ⟨rfl, hb⟩
    have E_17 : Hid (Below w.heap.size w w11) := E_16.out.trans (hb.mono E_16.out.size)
    have K_17 : Hid (KeysAt w11) := K_16.out.below hb
    have P_17 : Hid (PowAt w11) := powAt_below P_16.out hb
    have R_17 : Hid (Rows w11 All 1 HByte (.slice sp xs.length cap) xs) := Rows.mono R_16.out (SameOn.of_below hb) (fun _ h => h) (fun _ _ _ h => h)
    have A_17 : Hid (HVa w11 All 4 [.int .i64 ska, .int .i64 sna, .string sta, .slice pka nka cka] xa) := A_16.out.mono (SameOn.of_below hb) (fun _ h => h)
    have B_17 : Hid (HVa w11 All 4 [.int .i64 skb, .int .i64 snb, .string stb, .slice pkb nkb ckb] xb) := B_16.out.mono (SameOn.of_below hb) (fun _ h => h)
    have Ba_17 : Hid (Blk w11 (w1.heap.size) #[.int .i64 ska, .int .i64 sna, .string sta, .slice pka nka cka] 26) := Ba_16.out.next hb
    have Bb_17 : Hid (Blk w11 (w1.heap.size + 1) #[.int .i64 skb, .int .i64 snb, .string stb, .slice pkb nkb ckb] 26) := Bb_16.out.next hb
    have Q_17 : Hid (HEx w11 All 3 [.int .i64 k, .int .i64 m, .string t, .string s, .slice p1 n1 c1, .slice none 0 0] y) := HEx.mono (SameOn.of_below hb) (fun _ h => h) Q_16.out
    have V_17 : Hid (HVa w11 All 3 [.int .i64 skv, .int .i64 snv, .string stv, .slice pkv nkv nkv] xv) := V_16.out.mono (SameOn.of_below hb) (fun _ h => h)
    have N_17 : Hid (Rows w11 All 5 (HBd w11 All 3) u env) := Rows.mono N_16.out (SameOn.of_below hb) (fun _ h => h) (fun _ _ _ h => h.mono (SameOn.of_below hb) (fun _ h => h))
    have Bp_17 : Hid (Blk w11 (w3.heap.size) #[.int .i64 k, .int .i64 m, .string t, .string s, .slice p1 n1 c1, .slice none 0 0] 33) := Bp_16.out.next hb
    have Bv_17 : Hid (Blk w11 (w3.heap.size + 1) #[.int .i64 skv, .int .i64 snv, .string stv, .slice pkv nkv nkv] 26) := Bv_16.out.next hb
    have O_17 : Hid (Rows w11 All 5 (HBd w11 All 3) ev1 (MR.getD [])) := Rows.mono O_16.out (SameOn.of_below hb) (fun _ h => h) (fun _ _ _ h => h.mono (SameOn.of_below hb) (fun _ h => h))
    have O2_17 : Hid (Rows w11 All 5 (HBd w11 All 3) ev2 (MR.getD [])) := Rows.mono O2_16.out (SameOn.of_below hb) (fun _ h => h) (fun _ _ _ h => h.mono (SameOn.of_below hb) (fun _ h => h))
    have N2_17 : Hid (Rows w11 All 5 (HBd w11 All 2) u2 env2) := Rows.mono N2_16.out (SameOn.of_below hb) (fun _ h => h) (fun _ _ _ h => h.mono (SameOn.of_below hb) (fun _ h => h))
    have X_17 : Hid (HVa w11 All 3 [.int .i64 skx, .int .i64 snx, .string stx, .slice pkx nkx ckx] (lookR nm env2).1) := X_16.out.mono (SameOn.of_below hb) (fun _ h => h)
    have Bx_17 : Hid (Blk w11 (w7.heap.size) #[.int .i64 skx, .int .i64 snx, .string stx, .slice pkx nkx ckx] 26) := Bx_16.out.next hb
    have Y_17 : Hid (HVa w11 All 3 [.int .i64 sky, .int .i64 sny, .string sty, .slice pky nky cky] (lookR nm env2).1) := Y_16.out.mono (SameOn.of_below hb) (fun _ h => h)
    have By_17 : Hid (Blk w11 (w8.heap.size) #[.int .i64 sky, .int .i64 sny, .string sty, .slice pky nky cky] 26) := By_16.out.next hb
    have Lv_17 : Hid (HVa w11 All 3 [.int .i64 skl, .int .i64 snl, .string stl, .slice pkl nkl ckl] xl) := Lv_16.out.mono (SameOn.of_below hb) (fun _ h => h)
    have Rv_17 : Hid (HVa w11 All 3 [.int .i64 skr, .int .i64 snr, .string str, .slice pkr nkr ckr] xr) := Rv_16.out.mono (SameOn.of_below hb) (fun _ h => h)
    have Bl_17 : Hid (Blk w11 (w9.heap.size) #[.int .i64 skl, .int .i64 snl, .string stl, .slice pkl nkl ckl] 26) := Bl_16.out.next hb
    have Br_17 : Hid (Blk w11 (w9.heap.size + 1) #[.int .i64 skr, .int .i64 snr, .string str, .slice pkr nkr ckr] 26) := Br_16.out.next hb
    have Bs_17 : Hid (Blk w11 (w10.heap.size) #[.int .i64 RK.1.1, .int .i64 RK.1.2.1, .string RK.1.2.2, .slice none 0 0] 26) := Bs_16.out.next hb
    clear E_16 K_16 P_16 R_16 A_16 B_16 Ba_16 Bb_16 Q_16 V_16 N_16 Bp_16 Bv_16 O_16 O2_16 N2_16 X_16 Bx_16 Y_16 By_16 Lv_16 Rv_16 Bl_16 Br_16 Bs_16
    clear hb
    rw [HRE.out]
    unfold reckE
    obtain ⟨W17, hW17⟩ : ∃ W, W = (w11.alloc (.cells #[.int .i64 RK.1.1, .int .i64 RK.1.2.1, .string RK.1.2.2, .slice none 0 0] 26)) := ⟨_, rfl⟩
    have HW17 : Hid (W17 = (w11.alloc (.cells #[.int .i64 RK.1.1, .int .i64 RK.1.2.1, .string RK.1.2.2, .slice none 0 0] 26))) := hW17
    have hal : Below w11.heap.size w11 W17 := by rw [hW17]; exact (Below.refl _ _).alloc (Nat.le_refl _) _
    have E_18 : Hid (Below w.heap.size w W17) := E_17.out.trans (hal.mono E_17.out.size)
    have K_18 : Hid (KeysAt W17) := K_17.out.below hal
    have P_18 : Hid (PowAt W17) := powAt_below P_17.out hal
    have R_18 : Hid (Rows W17 All 1 HByte (.slice sp xs.length cap) xs) := Rows.mono R_17.out (SameOn.of_below hal) (fun _ h => h) (fun _ _ _ h => h)
    have A_18 : Hid (HVa W17 All 4 [.int .i64 ska, .int .i64 sna, .string sta, .slice pka nka cka] xa) := A_17.out.mono (SameOn.of_below hal) (fun _ h => h)
    have B_18 : Hid (HVa W17 All 4 [.int .i64 skb, .int .i64 snb, .string stb, .slice pkb nkb ckb] xb) := B_17.out.mono (SameOn.of_below hal) (fun _ h => h)
    have Ba_18 : Hid (Blk W17 (w1.heap.size) #[.int .i64 ska, .int .i64 sna, .string sta, .slice pka nka cka] 26) := Ba_17.out.next hal
    have Bb_18 : Hid (Blk W17 (w1.heap.size + 1) #[.int .i64 skb, .int .i64 snb, .string stb, .slice pkb nkb ckb] 26) := Bb_17.out.next hal
    have Q_18 : Hid (HEx W17 All 3 [.int .i64 k, .int .i64 m, .string t, .string s, .slice p1 n1 c1, .slice none 0 0] y) := HEx.mono (SameOn.of_below hal) (fun _ h => h) Q_17.out
    have V_18 : Hid (HVa W17 All 3 [.int .i64 skv, .int .i64 snv, .string stv, .slice pkv nkv nkv] xv) := V_17.out.mono (SameOn.of_below hal) (fun _ h => h)
    have N_18 : Hid (Rows W17 All 5 (HBd W17 All 3) u env) := Rows.mono N_17.out (SameOn.of_below hal) (fun _ h => h) (fun _ _ _ h => h.mono (SameOn.of_below hal) (fun _ h => h))
    have Bp_18 : Hid (Blk W17 (w3.heap.size) #[.int .i64 k, .int .i64 m, .string t, .string s, .slice p1 n1 c1, .slice none 0 0] 33) := Bp_17.out.next hal
    have Bv_18 : Hid (Blk W17 (w3.heap.size + 1) #[.int .i64 skv, .int .i64 snv, .string stv, .slice pkv nkv nkv] 26) := Bv_17.out.next hal
    have O_18 : Hid (Rows W17 All 5 (HBd W17 All 3) ev1 (MR.getD [])) := Rows.mono O_17.out (SameOn.of_below hal) (fun _ h => h) (fun _ _ _ h => h.mono (SameOn.of_below hal) (fun _ h => h))
    have O2_18 : Hid (Rows W17 All 5 (HBd W17 All 3) ev2 (MR.getD [])) := Rows.mono O2_17.out (SameOn.of_below hal) (fun _ h => h) (fun _ _ _ h => h.mono (SameOn.of_below hal) (fun _ h => h))
    have N2_18 : Hid (Rows W17 All 5 (HBd W17 All 2) u2 env2) := Rows.mono N2_17.out (SameOn.of_below hal) (fun _ h => h) (fun _ _ _ h => h.mono (SameOn.of_below hal) (fun _ h => h))
    have X_18 : Hid (HVa W17 All 3 [.int .i64 skx, .int .i64 snx, .string stx, .slice pkx nkx ckx] (lookR nm env2).1) := X_17.out.mono (SameOn.of_below hal) (fun _ h => h)
    have Bx_18 : Hid (Blk W17 (w7.heap.size) #[.int .i64 skx, .int .i64 snx, .string stx, .slice pkx nkx ckx] 26) := Bx_17.out.next hal
    have Y_18 : Hid (HVa W17 All 3 [.int .i64 sky, .int .i64 sny, .string sty, .slice pky nky cky] (lookR nm env2).1) := Y_17.out.mono (SameOn.of_below hal) (fun _ h => h)
    have By_18 : Hid (Blk W17 (w8.heap.size) #[.int .i64 sky, .int .i64 sny, .string sty, .slice pky nky cky] 26) := By_17.out.next hal
    have Lv_18 : Hid (HVa W17 All 3 [.int .i64 skl, .int .i64 snl, .string stl, .slice pkl nkl ckl] xl) := Lv_17.out.mono (SameOn.of_below hal) (fun _ h => h)
    have Rv_18 : Hid (HVa W17 All 3 [.int .i64 skr, .int .i64 snr, .string str, .slice pkr nkr ckr] xr) := Rv_17.out.mono (SameOn.of_below hal) (fun _ h => h)
    have Bl_18 : Hid (Blk W17 (w9.heap.size) #[.int .i64 skl, .int .i64 snl, .string stl, .slice pkl nkl ckl] 26) := Bl_17.out.next hal
    have Br_18 : Hid (Blk W17 (w9.heap.size + 1) #[.int .i64 skr, .int .i64 snr, .string str, .slice pkr nkr ckr] 26) := Br_17.out.next hal
    have Bs_18 : Hid (Blk W17 (w10.heap.size) #[.int .i64 RK.1.1, .int .i64 RK.1.2.1, .string RK.1.2.2, .slice none 0 0] 26) := Bs_17.out.next hal
    clear E_17 K_17 P_17 R_17 A_17 B_17 Ba_17 Bb_17 Q_17 V_17 N_17 Bp_17 Bv_17 O_17 O2_17 N2_17 X_17 Bx_17 Y_17 By_17 Lv_17 Rv_17 Bl_17 Br_17 Bs_17
    have Bt_18 : Hid (Blk W17 (w11.heap.size) #[.int .i64 RK.1.1, .int .i64 RK.1.2.1, .string RK.1.2.2, .slice none 0 0] 26) := by show Blk _ _ _ _; rw [hW17]; exact Blk.new
    clear hal hW17
    go_wp2_with fail
    rw [show (w11.alloc (.cells #[.int .i64 RK.1.1, .int .i64 RK.1.2.1, .string RK.1.2.2, .slice none 0 0] 26)) = W17 from HW17.out.symm]
    refine (drawValOk_any _ xs _ hx' R_18.out).mono ?_
    rintro e w12 ⟨sko, sno, sto, pko, nko, cko, dO, xo, rfl, hA, hb⟩
    have E_19 : Hid (Below w.heap.size w w12) := E_18.out.trans (hb.mono E_18.out.size)
    have K_19 : Hid (KeysAt w12) := K_18.out.below hb
    have P_19 : Hid (PowAt w12) := powAt_below P_18.out hb
    have R_19 : Hid (Rows w12 All 1 HByte (.slice sp xs.length cap) xs) := Rows.mono R_18.out (SameOn.of_below hb) (fun _ h => h) (fun _ _ _ h => h)
    have A_19 : Hid (HVa w12 All 4 [.int .i64 ska, .int .i64 sna, .string sta, .slice pka nka cka] xa) := A_18.out.mono (SameOn.of_below hb) (fun _ h => h)
    have B_19 : Hid (HVa w12 All 4 [.int .i64 skb, .int .i64 snb, .string stb, .slice pkb nkb ckb] xb) := B_18.out.mono (SameOn.of_below hb) (fun _ h => h)
    have Ba_19 : Hid (Blk w12 (w1.heap.size) #[.int .i64 ska, .int .i64 sna, .string sta, .slice pka nka cka] 26) := Ba_18.out.next hb
    have Bb_19 : Hid (Blk w12 (w1.heap.size + 1) #[.int .i64 skb, .int .i64 snb, .string stb, .slice pkb nkb ckb] 26) := Bb_18.out.next hb
    have Q_19 : Hid (HEx w12 All 3 [.int .i64 k, .int .i64 m, .string t, .string s, .slice p1 n1 c1, .slice none 0 0] y) := HEx.mono (SameOn.of_below hb) (fun _ h => h) Q_18.out
    have V_19 : Hid (HVa w12 All 3 [.int .i64 skv, .int .i64 snv, .string stv, .slice pkv nkv nkv] xv) := V_18.out.mono (SameOn.of_below hb) (fun _ h => h)
    have N_19 : Hid (Rows w12 All 5 (HBd w12 All 3) u env) := Rows.mono N_18.out (SameOn.of_below hb) (fun _ h => h) (fun _ _ _ h => h.mono (SameOn.of_below hb) (fun _ h => h))
    have Bp_19 : Hid (Blk w12 (w3.heap.size) #[.int .i64 k, .int .i64 m, .string t, .string s, .slice p1 n1 c1, .slice none 0 0] 33) := Bp_18.out.next hb
    have Bv_19 : Hid (Blk w12 (w3.heap.size + 1) #[.int .i64 skv, .int .i64 snv, .string stv, .slice pkv nkv nkv] 26) := Bv_18.out.next hb
    have O_19 : Hid (Rows w12 All 5 (HBd w12 All 3) ev1 (MR.getD [])) := Rows.mono O_18.out (SameOn.of_below hb) (fun _ h => h) (fun _ _ _ h => h.mono (SameOn.of_below hb) (fun _ h => h))
    have O2_19 : Hid (Rows w12 All 5 (HBd w12 All 3) ev2 (MR.getD [])) := Rows.mono O2_18.out (SameOn.of_below hb) (fun _ h => h) (fun _ _ _ h => h.mono (SameOn.of_below hb) (fun _ h => h))
    have N2_19 : Hid (Rows w12 All 5 (HBd w12 All 2) u2 env2) := Rows.mono N2_18.out (SameOn.of_below hb) (fun _ h => h) (fun _ _ _ h => h.mono (SameOn.of_below hb) (fun _ h => h))
    have X_19 : Hid (HVa w12 All 3 [.int .i64 skx, .int .i64 snx, .string stx, .slice pkx nkx ckx] (lookR nm env2).1) := X_18.out.mono (SameOn.of_below hb) (fun _ h => h)
    have Bx_19 : Hid (Blk w12 (w7.heap.size) #[.int .i64 skx, .int .i64 snx, .string stx, .slice pkx nkx ckx] 26) := Bx_18.out.next hb
    have Y_19 : Hid (HVa w12 All 3 [.int .i64 sky, .int .i64 sny, .string sty, .slice pky nky cky] (lookR nm env2).1) := Y_18.out.mono (SameOn.of_below hb) (fun _ h => h)
    have By_19 : Hid (Blk w12 (w8.heap.size) #[.int .i64 sky, .int .i64 sny, .string sty, .slice pky nky cky] 26) := By_18.out.next hb
    have Lv_19 : Hid (HVa w12 All 3 [.int .i64 skl, .int .i64 snl, .string stl, .slice pkl nkl ckl] xl) := Lv_18.out.mono (SameOn.of_below hb) (fun _ h => h)
    have Rv_19 : Hid (HVa w12 All 3 [.int .i64 skr, .int .i64 snr, .string str, .slice pkr nkr ckr] xr) := Rv_18.out.mono (SameOn.of_below hb) (fun _ h => h)
    have Bl_19 : Hid (Blk w12 (w9.heap.size) #[.int .i64 skl, .int .i64 snl, .string stl, .slice pkl nkl ckl] 26) := Bl_18.out.next hb
    have Br_19 : Hid (Blk w12 (w9.heap.size + 1) #[.int .i64 skr, .int .i64 snr, .string str, .slice pkr nkr ckr] 26) := Br_18.out.next hb
    have Bs_19 : Hid (Blk w12 (w10.heap.size) #[.int .i64 RK.1.1, .int .i64 RK.1.2.1, .string RK.1.2.2, .slice none 0 0] 26) := Bs_18.out.next hb
    have Bt_19 : Hid (Blk w12 (w11.heap.size) #[.int .i64 RK.1.1, .int .i64 RK.1.2.1, .string RK.1.2.2, .slice none 0 0] 26) := Bt_18.out.next hb
    clear E_18 K_18 P_18 R_18 A_18 B_18 Ba_18 Bb_18 Q_18 V_18 N_18 Bp_18 Bv_18 O_18 O2_18 N2_18 X_18 Bx_18 Y_18 By_18 Lv_18 Rv_18 Bl_18 Br_18 Bs_18 Bt_18
    have Ov_19 : Hid (HVa w12 All dO [.int .i64 sko, .int .i64 sno, .string sto, .slice pko nko cko] xo) := hA.mono ⟨Nat.le_refl _, fun _ _ _ => rfl⟩ (fun _ _ => trivial)
    clear hA hb
    obtain ⟨W19, hW19⟩ : ∃ W, W = (w12.alloc (.cells #[.int .i64 sko, .int .i64 sno, .string sto, .slice pko nko cko] 26)) := ⟨_, rfl⟩
    have HW19 : Hid (W19 = (w12.alloc (.cells #[.int .i64 sko, .int .i64 sno, .string sto, .slice pko nko cko] 26))) := hW19
    have hal : Below w12.heap.size w12 W19 := by rw [hW19]; exact (Below.refl _ _).alloc (Nat.le_refl _) _
    have E_20 : Hid (Below w.heap.size w W19) := E_19.out.trans (hal.mono E_19.out.size)
    have K_20 : Hid (KeysAt W19) := K_19.out.below hal
    have P_20 : Hid (PowAt W19) := powAt_below P_19.out hal
    have R_20 : Hid (Rows W19 All 1 HByte (.slice sp xs.length cap) xs) := Rows.mono R_19.out (SameOn.of_below hal) (fun _ h => h) (fun _ _ _ h => h)
    have A_20 : Hid (HVa W19 All 4 [.int .i64 ska, .int .i64 sna, .string sta, .slice pka nka cka] xa) := A_19.out.mono (SameOn.of_below hal) (fun _ h => h)
    have B_20 : Hid (HVa W19 All 4 [.int .i64 skb, .int .i64 snb, .string stb, .slice pkb nkb ckb] xb) := B_19.out.mono (SameOn.of_below hal) (fun _ h => h)
    have Ba_20 : Hid (Blk W19 (w1.heap.size) #[.int .i64 ska, .int .i64 sna, .string sta, .slice pka nka cka] 26) := Ba_19.out.next hal
    have Bb_20 : Hid (Blk W19 (w1.heap.size + 1) #[.int .i64 skb, .int .i64 snb, .string stb, .slice pkb nkb ckb] 26) := Bb_19.out.next hal
    have Q_20 : Hid (HEx W19 All 3 [.int .i64 k, .int .i64 m, .string t, .string s, .slice p1 n1 c1, .slice none 0 0] y) := HEx.mono (SameOn.of_below hal) (fun _ h => h) Q_19.out
    have V_20 : Hid (HVa W19 All 3 [.int .i64 skv, .int .i64 snv, .string stv, .slice pkv nkv nkv] xv) := V_19.out.mono (SameOn.of_below hal) (fun _ h => h)
    have N_20 : Hid (Rows W19 All 5 (HBd W19 All 3) u env) := Rows.mono N_19.out (SameOn.of_below hal) (fun _ h => h) (fun _ _ _ h => h.mono (SameOn.of_below hal) (fun _ h => h))
    have Bp_20 : Hid (Blk W19 (w3.heap.size) #[.int .i64 k, .int .i64 m, .string t, .string s, .slice p1 n1 c1, .slice none 0 0] 33) := Bp_19.out.next hal
    have Bv_20 : Hid (Blk W19 (w3.heap.size + 1) #[.int .i64 skv, .int .i64 snv, .string stv, .slice pkv nkv nkv] 26) := Bv_19.out.next hal
    have O_20 : Hid (Rows W19 All 5 (HBd W19 All 3) ev1 (MR.getD [])) := Rows.mono O_19.out (SameOn.of_below hal) (fun _ h => h) (fun _ _ _ h => h.mono (SameOn.of_below hal) (fun _ h => h))
    have O2_20 : Hid (Rows W19 All 5 (HBd W19 All 3) ev2 (MR.getD [])) := Rows.mono O2_19.out (SameOn.of_below hal) (fun _ h => h) (fun _ _ _ h => h.mono (SameOn.of_below hal) (fun _ h => h))
    have N2_20 : Hid (Rows W19 All 5 (HBd W19 All 2) u2 env2) := Rows.mono N2_19.out (SameOn.of_below hal) (fun _ h => h) (fun _ _ _ h => h.mono (SameOn.of_below hal) (fun _ h => h))
    have X_20 : Hid (HVa W19 All 3 [.int .i64 skx, .int .i64 snx, .string stx, .slice pkx nkx ckx] (lookR nm env2).1) := X_19.out.mono (SameOn.of_below hal) (fun _ h => h)
    have Bx_20 : Hid (Blk W19 (w7.heap.size) #[.int .i64 skx, .int .i64 snx, .string stx, .slice pkx nkx ckx] 26) := Bx_19.out.next hal
    have Y_20 : Hid (HVa W19 All 3 [.int .i64 sky, .int .i64 sny, .string sty, .slice pky nky cky] (lookR nm env2).1) := Y_19.out.mono (SameOn.of_below hal) (fun _ h => h)
    have By_20 : Hid (Blk W19 (w8.heap.size) #[.int .i64 sky, .int .i64 sny, .string sty, .slice pky nky cky] 26) := By_19.out.next hal
    have Lv_20 : Hid (HVa W19 All 3 [.int .i64 skl, .int .i64 snl, .string stl, .slice pkl nkl ckl] xl) := Lv_19.out.mono (SameOn.of_below hal) (fun _ h => h)
    have Rv_20 : Hid (HVa W19 All 3 [.int .i64 skr, .int .i64 snr, .string str, .slice pkr nkr ckr] xr) := Rv_19.out.mono (SameOn.of_below hal) (fun _ h => h)
    have Bl_20 : Hid (Blk W19 (w9.heap.size) #[.int .i64 skl, .int .i64 snl, .string stl, .slice pkl nkl ckl] 26) := Bl_19.out.next hal
    have Br_20 : Hid (Blk W19 (w9.heap.size + 1) #[.int .i64 skr, .int .i64 snr, .string str, .slice pkr nkr ckr] 26) := Br_19.out.next hal
    have Bs_20 : Hid (Blk W19 (w10.heap.size) #[.int .i64 RK.1.1, .int .i64 RK.1.2.1, .string RK.1.2.2, .slice none 0 0] 26) := Bs_19.out.next hal
    have Bt_20 : Hid (Blk W19 (w11.heap.size) #[.int .i64 RK.1.1, .int .i64 RK.1.2.1, .string RK.1.2.2, .slice none 0 0] 26) := Bt_19.out.next hal
    have Ov_20 : Hid (HVa W19 All dO [.int .i64 sko, .int .i64 sno, .string sto, .slice pko nko cko] xo) := Ov_19.out.mono (SameOn.of_below hal) (fun _ h => h)
    clear E_19 K_19 P_19 R_19 A_19 B_19 Ba_19 Bb_19 Q_19 V_19 N_19 Bp_19 Bv_19 O_19 O2_19 N2_19 X_19 Bx_19 Y_19 By_19 Lv_19 Rv_19 Bl_19 Br_19 Bs_19 Bt_19 Ov_19
    have Bo_20 : Hid (Blk W19 (w12.heap.size) #[.int .i64 sko, .int .i64 sno, .string sto, .slice pko nko cko] 26) := by show Blk _ _ _ _; rw [hW19]; exact Blk.new
    clear hal hW19
    go_wp2_with fail
    rw [show (w12.alloc (.cells #[.int .i64 sko, .int .i64 sno, .string sto, .slice pko nko cko] 26)) = W19 from HW19.out.symm]
    refine (drawValText_any _ xs _ hx' R_20.out).mono ?_
    rintro e w13 ⟨skt, snt, stt, pkt, nkt, xt, BT, ET, rfl, hA, hb⟩
    have E_21 : Hid (Below w.heap.size w w13) := E_20.out.trans (hb.mono E_20.out.size)
    have K_21 : Hid (KeysAt w13) := K_20.out.below hb
    have P_21 : Hid (PowAt w13) := powAt_below P_20.out hb
    have R_21 : Hid (Rows w13 All 1 HByte (.slice sp xs.length cap) xs) := Rows.mono R_20.out (SameOn.of_below hb) (fun _ h => h) (fun _ _ _ h => h)
    have A_21 : Hid (HVa w13 All 4 [.int .i64 ska, .int .i64 sna, .string sta, .slice pka nka cka] xa) := A_20.out.mono (SameOn.of_below hb) (fun _ h => h)
    have B_21 : Hid (HVa w13 All 4 [.int .i64 skb, .int .i64 snb, .string stb, .slice pkb nkb ckb] xb) := B_20.out.mono (SameOn.of_below hb) (fun _ h => h)
    have Ba_21 : Hid (Blk w13 (w1.heap.size) #[.int .i64 ska, .int .i64 sna, .string sta, .slice pka nka cka] 26) := Ba_20.out.next hb
    have Bb_21 : Hid (Blk w13 (w1.heap.size + 1) #[.int .i64 skb, .int .i64 snb, .string stb, .slice pkb nkb ckb] 26) := Bb_20.out.next hb
    have Q_21 : Hid (HEx w13 All 3 [.int .i64 k, .int .i64 m, .string t, .string s, .slice p1 n1 c1, .slice none 0 0] y) := HEx.mono (SameOn.of_below hb) (fun _ h => h) Q_20.out
    have V_21 : Hid (HVa w13 All 3 [.int .i64 skv, .int .i64 snv, .string stv, .slice pkv nkv nkv] xv) := V_20.out.mono (SameOn.of_below hb) (fun _ h => h)
    have N_21 : Hid (Rows w13 All 5 (HBd w13 All 3) u env) := Rows.mono N_20.out (SameOn.of_below hb) (fun _ h => h) (fun _ _ _ h => h.mono (SameOn.of_below hb) (fun _ h => h))
    have Bp_21 : Hid (Blk w13 (w3.heap.size) #[.int .i64 k, .int .i64 m, .string t, .string s, .slice p1 n1 c1, .slice none 0 0] 33) := Bp_20.out.next hb
    have Bv_21 : Hid (Blk w13 (w3.heap.size + 1) #[.int .i64 skv, .int .i64 snv, .string stv, .slice pkv nkv nkv] 26) := Bv_20.out.next hb
    have O_21 : Hid (Rows w13 All 5 (HBd w13 All 3) ev1 (MR.getD [])) := Rows.mono O_20.out (SameOn.of_below hb) (fun _ h => h) (fun _ _ _ h => h.mono (SameOn.of_below hb) (fun _ h => h))
    have O2_21 : Hid (Rows w13 All 5 (HBd w13 All 3) ev2 (MR.getD [])) := Rows.mono O2_20.out (SameOn.of_below hb) (fun _ h => h) (fun _ _ _ h => h.mono (SameOn.of_below hb) (fun _ h => h))
    have N2_21 : Hid (Rows w13 All 5 (HBd w13 All 2) u2 env2) := Rows.mono N2_20.out (SameOn.of_below hb) (fun _ h => h) (fun _ _ _ h => h.mono (SameOn.of_below hb) (fun _ h => h))
    have X_21 : Hid (HVa w13 All 3 [.int .i64 skx, .int .i64 snx, .string stx, .slice pkx nkx ckx] (lookR nm env2).1) := X_20.out.mono (SameOn.of_below hb) (fun _ h => h)
    have Bx_21 : Hid (Blk w13 (w7.heap.size) #[.int .i64 skx, .int .i64 snx, .string stx, .slice pkx nkx ckx] 26) := Bx_20.out.next hb
    have Y_21 : Hid (HVa w13 All 3 [.int .i64 sky, .int .i64 sny, .string sty, .slice pky nky cky] (lookR nm env2).1) := Y_20.out.mono (SameOn.of_below hb) (fun _ h => h)
    have By_21 : Hid (Blk w13 (w8.heap.size) #[.int .i64 sky, .int .i64 sny, .string sty, .slice pky nky cky] 26) := By_20.out.next hb
    have Lv_21 : Hid (HVa w13 All 3 [.int .i64 skl, .int .i64 snl, .string stl, .slice pkl nkl ckl] xl) := Lv_20.out.mono (SameOn.of_below hb) (fun _ h => h)
    have Rv_21 : Hid (HVa w13 All 3 [.int .i64 skr, .int .i64 snr, .string str, .slice pkr nkr ckr] xr) := Rv_20.out.mono (SameOn.of_below hb) (fun _ h => h)
    have Bl_21 : Hid (Blk w13 (w9.heap.size) #[.int .i64 skl, .int .i64 snl, .string stl, .slice pkl nkl ckl] 26) := Bl_20.out.next hb
    have Br_21 : Hid (Blk w13 (w9.heap.size + 1) #[.int .i64 skr, .int .i64 snr, .string str, .slice pkr nkr ckr] 26) := Br_20.out.next hb
    have Bs_21 : Hid (Blk w13 (w10.heap.size) #[.int .i64 RK.1.1, .int .i64 RK.1.2.1, .string RK.1.2.2, .slice none 0 0] 26) := Bs_20.out.next hb
    have Bt_21 : Hid (Blk w13 (w11.heap.size) #[.int .i64 RK.1.1, .int .i64 RK.1.2.1, .string RK.1.2.2, .slice none 0 0] 26) := Bt_20.out.next hb
    have Ov_21 : Hid (HVa w13 All dO [.int .i64 sko, .int .i64 sno, .string sto, .slice pko nko cko] xo) := Ov_20.out.mono (SameOn.of_below hb) (fun _ h => h)
    have Bo_21 : Hid (Blk w13 (w12.heap.size) #[.int .i64 sko, .int .i64 sno, .string sto, .slice pko nko cko] 26) := Bo_20.out.next hb
    clear E_20 K_20 P_20 R_20 A_20 B_20 Ba_20 Bb_20 Q_20 V_20 N_20 Bp_20 Bv_20 O_20 O2_20 N2_20 X_20 Bx_20 Y_20 By_20 Lv_20 Rv_20 Bl_20 Br_20 Bs_20 Bt_20 Ov_20 Bo_20
    have Tv_21 : Hid (HVa w13 All 4 [.int .i64 skt, .int .i64 snt, .string stt, .slice pkt nkt nkt] xt) := hA.1.mono ⟨Nat.le_refl _, fun _ _ _ => rfl⟩ (fun _ _ => trivial)
    have HWT : Hid (wtVa 4 xt ≤ 1048576) := by have h1 : wtVa 4 xt + 2 ≤ 4 * 2 ^ 3 := hA.2; show _ ≤ _; omega
    clear hA hb
    obtain ⟨W21, hW21⟩ : ∃ W, W = (w13.alloc (.cells #[.int .i64 skt, .int .i64 snt, .string stt, .slice pkt nkt nkt] 26)) := ⟨_, rfl⟩
    have HW21 : Hid (W21 = (w13.alloc (.cells #[.int .i64 skt, .int .i64 snt, .string stt, .slice pkt nkt nkt] 26))) := hW21
    have hal : Below w13.heap.size w13 W21 := by rw [hW21]; exact (Below.refl _ _).alloc (Nat.le_refl _) _
    have E_22 : Hid (Below w.heap.size w W21) := E_21.out.trans (hal.mono E_21.out.size)
    have K_22 : Hid (KeysAt W21) := K_21.out.below hal
    have P_22 : Hid (PowAt W21) := powAt_below P_21.out hal
    have R_22 : Hid (Rows W21 All 1 HByte (.slice sp xs.length cap) xs) := Rows.mono R_21.out (SameOn.of_below hal) (fun _ h => h) (fun _ _ _ h => h)
    have A_22 : Hid (HVa W21 All 4 [.int .i64 ska, .int .i64 sna, .string sta, .slice pka nka cka] xa) := A_21.out.mono (SameOn.of_below hal) (fun _ h => h)
    have B_22 : Hid (HVa W21 All 4 [.int .i64 skb, .int .i64 snb, .string stb, .slice pkb nkb ckb] xb) := B_21.out.mono (SameOn.of_below hal) (fun _ h => h)
    have Ba_22 : Hid (Blk W21 (w1.heap.size) #[.int .i64 ska, .int .i64 sna, .string sta, .slice pka nka cka] 26) := Ba_21.out.next hal
    have Bb_22 : Hid (Blk W21 (w1.heap.size + 1) #[.int .i64 skb, .int .i64 snb, .string stb, .slice pkb nkb ckb] 26) := Bb_21.out.next hal
    have Q_22 : Hid (HEx W21 All 3 [.int .i64 k, .int .i64 m, .string t, .string s, .slice p1 n1 c1, .slice none 0 0] y) := HEx.mono (SameOn.of_below hal) (fun _ h => h) Q_21.out
    have V_22 : Hid (HVa W21 All 3 [.int .i64 skv, .int .i64 snv, .string stv, .slice pkv nkv nkv] xv) := V_21.out.mono (SameOn.of_below hal) (fun _ h => h)
    have N_22 : Hid (Rows W21 All 5 (HBd W21 All 3) u env) := Rows.mono N_21.out (SameOn.of_below hal) (fun _ h => h) (fun _ _ _ h => h.mono (SameOn.of_below hal) (fun _ h => h))
    have Bp_22 : Hid (Blk W21 (w3.heap.size) #[.int .i64 k, .int .i64 m, .string t, .string s, .slice p1 n1 c1, .slice none 0 0] 33) := Bp_21.out.next hal
    have Bv_22 : Hid (Blk W21 (w3.heap.size + 1) #[.int .i64 skv, .int .i64 snv, .string stv, .slice pkv nkv nkv] 26) := Bv_21.out.next hal
    have O_22 : Hid (Rows W21 All 5 (HBd W21 All 3) ev1 (MR.getD [])) := Rows.mono O_21.out (SameOn.of_below hal) (fun _ h => h) (fun _ _ _ h => h.mono (SameOn.of_below hal) (fun _ h => h))
    have O2_22 : Hid (Rows W21 All 5 (HBd W21 All 3) ev2 (MR.getD [])) := Rows.mono O2_21.out (SameOn.of_below hal) (fun _ h => h) (fun _ _ _ h => h.mono (SameOn.of_below hal) (fun _ h => h))
    have N2_22 : Hid (Rows W21 All 5 (HBd W21 All 2) u2 env2) := Rows.mono N2_21.out (SameOn.of_below hal) (fun _ h => h) (fun _ _ _ h => h.mono (SameOn.of_below hal) (fun _ h => h))
    have X_22 : Hid (HVa W21 All 3 [.int .i64 skx, .int .i64 snx, .string stx, .slice pkx nkx ckx] (lookR nm env2).1) := X_21.out.mono (SameOn.of_below hal) (fun _ h => h)
    have Bx_22 : Hid (Blk W21 (w7.heap.size) #[.int .i64 skx, .int .i64 snx, .string stx, .slice pkx nkx ckx] 26) := Bx_21.out.next hal
    have Y_22 : Hid (HVa W21 All 3 [.int .i64 sky, .int .i64 sny, .string sty, .slice pky nky cky] (lookR nm env2).1) := Y_21.out.mono (SameOn.of_below hal) (fun _ h => h)
    have By_22 : Hid (Blk W21 (w8.heap.size) #[.int .i64 sky, .int .i64 sny, .string sty, .slice pky nky cky] 26) := By_21.out.next hal
    have Lv_22 : Hid (HVa W21 All 3 [.int .i64 skl, .int .i64 snl, .string stl, .slice pkl nkl ckl] xl) := Lv_21.out.mono (SameOn.of_below hal) (fun _ h => h)
    have Rv_22 : Hid (HVa W21 All 3 [.int .i64 skr, .int .i64 snr, .string str, .slice pkr nkr ckr] xr) := Rv_21.out.mono (SameOn.of_below hal) (fun _ h => h)
    have Bl_22 : Hid (Blk W21 (w9.heap.size) #[.int .i64 skl, .int .i64 snl, .string stl, .slice pkl nkl ckl] 26) := Bl_21.out.next hal
    have Br_22 : Hid (Blk W21 (w9.heap.size + 1) #[.int .i64 skr, .int .i64 snr, .string str, .slice pkr nkr ckr] 26) := Br_21.out.next hal
    have Bs_22 : Hid (Blk W21 (w10.heap.size) #[.int .i64 RK.1.1, .int .i64 RK.1.2.1, .string RK.1.2.2, .slice none 0 0] 26) := Bs_21.out.next hal
    have Bt_22 : Hid (Blk W21 (w11.heap.size) #[.int .i64 RK.1.1, .int .i64 RK.1.2.1, .string RK.1.2.2, .slice none 0 0] 26) := Bt_21.out.next hal
    have Ov_22 : Hid (HVa W21 All dO [.int .i64 sko, .int .i64 sno, .string sto, .slice pko nko cko] xo) := Ov_21.out.mono (SameOn.of_below hal) (fun _ h => h)
    have Bo_22 : Hid (Blk W21 (w12.heap.size) #[.int .i64 sko, .int .i64 sno, .string sto, .slice pko nko cko] 26) := Bo_21.out.next hal
    have Tv_22 : Hid (HVa W21 All 4 [.int .i64 skt, .int .i64 snt, .string stt, .slice pkt nkt nkt] xt) := Tv_21.out.mono (SameOn.of_below hal) (fun _ h => h)
    clear E_21 K_21 P_21 R_21 A_21 B_21 Ba_21 Bb_21 Q_21 V_21 N_21 Bp_21 Bv_21 O_21 O2_21 N2_21 X_21 Bx_21 Y_21 By_21 Lv_21 Rv_21 Bl_21 Br_21 Bs_21 Bt_21 Ov_21 Bo_21 Tv_21
    have Bw_22 : Hid (Blk W21 (w13.heap.size) #[.int .i64 skt, .int .i64 snt, .string stt, .slice pkt nkt nkt] 26) := by show Blk _ _ _ _; rw [hW21]; exact Blk.new
    clear hal hW21
    have CS : Hid (∀ w', Below W21.heap.size W21 w' → Calls Tryz.prog 18 #[.agg #[.int .i64 ska, .int .i64 sna, .string sta, .slice pka nka cka], .agg #[.int .i64 skb, .int .i64 snb, .string stb, .slice pkb nkb ckb]] w' fun e w'' => e = .returned (.int .i64 C) ∧ Below w'.heap.size w' w'') := fun w' hw => by
      have h := specCmp_all 4 w' _ _ xa xb ⟨_, rfl, A_22.out.mono (SameOn.of_below hw) (fun _ h => h)⟩ ⟨_, rfl, B_22.out.mono (SameOn.of_below hw) (fun _ h => h)⟩
      rw [HC.out] at h
      exact h
    have CI : Hid (∀ w', Below W21.heap.size W21 w' → Calls Tryz.prog 6 #[.agg #[.int .i64 skb, .int .i64 snb, .string stb, .slice pkb nkb ckb], .agg #[.int .i64 ska, .int .i64 sna, .string sta, .slice pka nka cka]] w' fun e w'' => e = .returned (.int .i64 (-C)) ∧ Below w'.heap.size w' w'') := fun w' hw => by
      have h := implCmp_all 4 w' _ _ xb xa ⟨_, rfl, B_22.out.mono (SameOn.of_below hw) (fun _ h => h)⟩ ⟨_, rfl, A_22.out.mono (SameOn.of_below hw) (fun _ h => h)⟩
      rw [CE.out.1] at h
      exact h
    have S1 : Hid (∀ w', Below W21.heap.size W21 w' → Calls Tryz.prog 19 #[.agg #[.int .i64 ska, .int .i64 sna, .string sta, .slice pka nka cka], .agg #[.int .i64 skb, .int .i64 snb, .string stb, .slice pkb nkb ckb]] w' fun e w'' => e = .returned (.bool (C == 0)) ∧ Below w'.heap.size w' w'') := fun w' hw => by
      have h := sameVal_law 4 w' _ _ xa xb ⟨_, rfl, A_22.out.mono (SameOn.of_below hw) (fun _ h => h)⟩ ⟨_, rfl, B_22.out.mono (SameOn.of_below hw) (fun _ h => h)⟩
      rw [CE.out.2.1] at h
      exact h
    have SE : Hid (∀ w', Below W21.heap.size W21 w' → Calls Tryz.prog 20 #[ev1, ev2] w' fun e w'' => e = .returned (.bool true) ∧ Below w'.heap.size w' w'') := fun w' hw => by
      have h := sameEnv_law 3 w' _ _ (MR.getD []) (MR.getD []) (Rows.mono O_22.out (SameOn.of_below hw) (fun _ h => h) (fun _ _ _ h => h.mono (SameOn.of_below hw) (fun _ h => h))) (Rows.mono O2_22.out (SameOn.of_below hw) (fun _ h => h) (fun _ _ _ h => h.mono (SameOn.of_below hw) (fun _ h => h)))
      rw [sameB_true rfl] at h
      exact h
    have S2 : Hid (∀ w', Below W21.heap.size W21 w' → Calls Tryz.prog 19 #[.agg #[.int .i64 skx, .int .i64 snx, .string stx, .slice pkx nkx ckx], .agg #[.int .i64 sky, .int .i64 sny, .string sty, .slice pky nky cky]] w' fun e w'' => e = .returned (.bool true) ∧ Below w'.heap.size w' w'') := fun w' hw => by
      have h := sameVal_law 3 w' _ _ (lookR nm env2).1 (lookR nm env2).1 ⟨_, rfl, X_22.out.mono (SameOn.of_below hw) (fun _ h => h)⟩ ⟨_, rfl, Y_22.out.mono (SameOn.of_below hw) (fun _ h => h)⟩
      rw [sameB_true rfl] at h
      exact h
    have S3 : Hid (∀ w', Below W21.heap.size W21 w' → Calls Tryz.prog 19 #[.agg #[.int .i64 RK.1.1, .int .i64 RK.1.2.1, .string RK.1.2.2, .slice none 0 0], .agg #[.int .i64 RK.1.1, .int .i64 RK.1.2.1, .string RK.1.2.2, .slice none 0 0]] w' fun e w'' => e = .returned (.bool true) ∧ Below w'.heap.size w' w'') := fun w' hw => by
      have h := sameVal_law 1 w' _ _ (flat RK) (flat RK) ⟨_, rfl, flat_HVa w' HRK.out⟩ ⟨_, rfl, flat_HVa w' HRK.out⟩
      rw [sameB_true rfl] at h
      exact h
    obtain ⟨vk, hvk⟩ : ∃ vk, vk = vaOk dO xo 200 := ⟨_, rfl⟩
    have HVK : Hid (vaOk dO xo 200 = vk) := hvk.symm
    obtain ⟨vt, hvt⟩ : ∃ vt : ByteArray, vt = ⟨(vaTxt 4 xt).toArray⟩ := ⟨_, rfl⟩
    have HVT : Hid ((⟨(vaTxt 4 xt).toArray⟩ : ByteArray) = vt) := hvt.symm
    clear hvk hvt
    have V1 : Hid (∀ w', Below W21.heap.size W21 w' → Calls Tryz.prog 21 #[.agg #[.int .i64 sko, .int .i64 sno, .string sto, .slice pko nko cko]] w' fun e w'' => e = .returned (.bool vk) ∧ Below w'.heap.size w' w'') := fun w' hw => by
      have h := implValOk_any dO w' _ xo (K_22.out.below hw) (Ov_22.out.mono (SameOn.of_below hw) (fun _ h => h))
      rw [HVK.out] at h
      exact h
    have V2 : Hid (∀ w', Below W21.heap.size W21 w' → Calls Tryz.prog 22 #[.agg #[.int .i64 sko, .int .i64 sno, .string sto, .slice pko nko cko]] w' fun e w'' => e = .returned (.bool vk) ∧ Below w'.heap.size w' w'') := fun w' hw => by
      have h := specValOk_any dO w' _ xo (Ov_22.out.mono (SameOn.of_below hw) (fun _ h => h))
      rw [HVK.out] at h
      exact h
    have T1 : Hid (∀ w', Below W21.heap.size W21 w' → Calls Tryz.prog 23 #[.agg #[.int .i64 skt, .int .i64 snt, .string stt, .slice pkt nkt nkt]] w' fun e w'' => e = .returned (.string vt) ∧ Below w'.heap.size w' w'') := fun w' hw => by
      have h := implValText_any 4 w' _ xt (powAt_below P_22.out hw) (Tv_22.out.mono (SameOn.of_below hw) (fun _ h => h)) HWT.out
      rw [HVT.out] at h
      exact h
    have T2 : Hid (∀ w', Below W21.heap.size W21 w' → Calls Tryz.prog 24 #[.agg #[.int .i64 skt, .int .i64 snt, .string stt, .slice pkt nkt nkt]] w' fun e w'' => e = .returned (.string vt) ∧ Below w'.heap.size w' w'') := fun w' hw => by
      have h := specValText_any 4 w' _ xt (Tv_22.out.mono (SameOn.of_below hw) (fun _ h => h)) HWT.out
      rw [HVT.out] at h
      exact h
    have qBa0 := fun mm : Wd (fun w' => SameOn All W21 w' ∧ Below W21.heap.size W21 w') => (World.cell?_of_block (mm.ok.1.2 _ trivial Ba_22.out.lt)).trans (Ba_22.out.cell 0 _ rfl)
    have qBa1 := fun mm : Wd (fun w' => SameOn All W21 w' ∧ Below W21.heap.size W21 w') => (World.cell?_of_block (mm.ok.1.2 _ trivial Ba_22.out.lt)).trans (Ba_22.out.cell 1 _ rfl)
    have qBa2 := fun mm : Wd (fun w' => SameOn All W21 w' ∧ Below W21.heap.size W21 w') => (World.cell?_of_block (mm.ok.1.2 _ trivial Ba_22.out.lt)).trans (Ba_22.out.cell 2 _ rfl)
    have qBa3 := fun mm : Wd (fun w' => SameOn All W21 w' ∧ Below W21.heap.size W21 w') => (World.cell?_of_block (mm.ok.1.2 _ trivial Ba_22.out.lt)).trans (Ba_22.out.cell 3 _ rfl)
    have qBb0 := fun mm : Wd (fun w' => SameOn All W21 w' ∧ Below W21.heap.size W21 w') => (World.cell?_of_block (mm.ok.1.2 _ trivial Bb_22.out.lt)).trans (Bb_22.out.cell 0 _ rfl)
    have qBb1 := fun mm : Wd (fun w' => SameOn All W21 w' ∧ Below W21.heap.size W21 w') => (World.cell?_of_block (mm.ok.1.2 _ trivial Bb_22.out.lt)).trans (Bb_22.out.cell 1 _ rfl)
    have qBb2 := fun mm : Wd (fun w' => SameOn All W21 w' ∧ Below W21.heap.size W21 w') => (World.cell?_of_block (mm.ok.1.2 _ trivial Bb_22.out.lt)).trans (Bb_22.out.cell 2 _ rfl)
    have qBb3 := fun mm : Wd (fun w' => SameOn All W21 w' ∧ Below W21.heap.size W21 w') => (World.cell?_of_block (mm.ok.1.2 _ trivial Bb_22.out.lt)).trans (Bb_22.out.cell 3 _ rfl)
    have qBx0 := fun mm : Wd (fun w' => SameOn All W21 w' ∧ Below W21.heap.size W21 w') => (World.cell?_of_block (mm.ok.1.2 _ trivial Bx_22.out.lt)).trans (Bx_22.out.cell 0 _ rfl)
    have qBx1 := fun mm : Wd (fun w' => SameOn All W21 w' ∧ Below W21.heap.size W21 w') => (World.cell?_of_block (mm.ok.1.2 _ trivial Bx_22.out.lt)).trans (Bx_22.out.cell 1 _ rfl)
    have qBx2 := fun mm : Wd (fun w' => SameOn All W21 w' ∧ Below W21.heap.size W21 w') => (World.cell?_of_block (mm.ok.1.2 _ trivial Bx_22.out.lt)).trans (Bx_22.out.cell 2 _ rfl)
    have qBx3 := fun mm : Wd (fun w' => SameOn All W21 w' ∧ Below W21.heap.size W21 w') => (World.cell?_of_block (mm.ok.1.2 _ trivial Bx_22.out.lt)).trans (Bx_22.out.cell 3 _ rfl)
    have qBy0 := fun mm : Wd (fun w' => SameOn All W21 w' ∧ Below W21.heap.size W21 w') => (World.cell?_of_block (mm.ok.1.2 _ trivial By_22.out.lt)).trans (By_22.out.cell 0 _ rfl)
    have qBy1 := fun mm : Wd (fun w' => SameOn All W21 w' ∧ Below W21.heap.size W21 w') => (World.cell?_of_block (mm.ok.1.2 _ trivial By_22.out.lt)).trans (By_22.out.cell 1 _ rfl)
    have qBy2 := fun mm : Wd (fun w' => SameOn All W21 w' ∧ Below W21.heap.size W21 w') => (World.cell?_of_block (mm.ok.1.2 _ trivial By_22.out.lt)).trans (By_22.out.cell 2 _ rfl)
    have qBy3 := fun mm : Wd (fun w' => SameOn All W21 w' ∧ Below W21.heap.size W21 w') => (World.cell?_of_block (mm.ok.1.2 _ trivial By_22.out.lt)).trans (By_22.out.cell 3 _ rfl)
    have qBs0 := fun mm : Wd (fun w' => SameOn All W21 w' ∧ Below W21.heap.size W21 w') => (World.cell?_of_block (mm.ok.1.2 _ trivial Bs_22.out.lt)).trans (Bs_22.out.cell 0 _ rfl)
    have qBs1 := fun mm : Wd (fun w' => SameOn All W21 w' ∧ Below W21.heap.size W21 w') => (World.cell?_of_block (mm.ok.1.2 _ trivial Bs_22.out.lt)).trans (Bs_22.out.cell 1 _ rfl)
    have qBs2 := fun mm : Wd (fun w' => SameOn All W21 w' ∧ Below W21.heap.size W21 w') => (World.cell?_of_block (mm.ok.1.2 _ trivial Bs_22.out.lt)).trans (Bs_22.out.cell 2 _ rfl)
    have qBs3 := fun mm : Wd (fun w' => SameOn All W21 w' ∧ Below W21.heap.size W21 w') => (World.cell?_of_block (mm.ok.1.2 _ trivial Bs_22.out.lt)).trans (Bs_22.out.cell 3 _ rfl)
    have qBt0 := fun mm : Wd (fun w' => SameOn All W21 w' ∧ Below W21.heap.size W21 w') => (World.cell?_of_block (mm.ok.1.2 _ trivial Bt_22.out.lt)).trans (Bt_22.out.cell 0 _ rfl)
    have qBt1 := fun mm : Wd (fun w' => SameOn All W21 w' ∧ Below W21.heap.size W21 w') => (World.cell?_of_block (mm.ok.1.2 _ trivial Bt_22.out.lt)).trans (Bt_22.out.cell 1 _ rfl)
    have qBt2 := fun mm : Wd (fun w' => SameOn All W21 w' ∧ Below W21.heap.size W21 w') => (World.cell?_of_block (mm.ok.1.2 _ trivial Bt_22.out.lt)).trans (Bt_22.out.cell 2 _ rfl)
    have qBt3 := fun mm : Wd (fun w' => SameOn All W21 w' ∧ Below W21.heap.size W21 w') => (World.cell?_of_block (mm.ok.1.2 _ trivial Bt_22.out.lt)).trans (Bt_22.out.cell 3 _ rfl)
    have qBo0 := fun mm : Wd (fun w' => SameOn All W21 w' ∧ Below W21.heap.size W21 w') => (World.cell?_of_block (mm.ok.1.2 _ trivial Bo_22.out.lt)).trans (Bo_22.out.cell 0 _ rfl)
    have qBo1 := fun mm : Wd (fun w' => SameOn All W21 w' ∧ Below W21.heap.size W21 w') => (World.cell?_of_block (mm.ok.1.2 _ trivial Bo_22.out.lt)).trans (Bo_22.out.cell 1 _ rfl)
    have qBo2 := fun mm : Wd (fun w' => SameOn All W21 w' ∧ Below W21.heap.size W21 w') => (World.cell?_of_block (mm.ok.1.2 _ trivial Bo_22.out.lt)).trans (Bo_22.out.cell 2 _ rfl)
    have qBo3 := fun mm : Wd (fun w' => SameOn All W21 w' ∧ Below W21.heap.size W21 w') => (World.cell?_of_block (mm.ok.1.2 _ trivial Bo_22.out.lt)).trans (Bo_22.out.cell 3 _ rfl)
    have qBw0 := fun mm : Wd (fun w' => SameOn All W21 w' ∧ Below W21.heap.size W21 w') => (World.cell?_of_block (mm.ok.1.2 _ trivial Bw_22.out.lt)).trans (Bw_22.out.cell 0 _ rfl)
    have qBw1 := fun mm : Wd (fun w' => SameOn All W21 w' ∧ Below W21.heap.size W21 w') => (World.cell?_of_block (mm.ok.1.2 _ trivial Bw_22.out.lt)).trans (Bw_22.out.cell 1 _ rfl)
    have qBw2 := fun mm : Wd (fun w' => SameOn All W21 w' ∧ Below W21.heap.size W21 w') => (World.cell?_of_block (mm.ok.1.2 _ trivial Bw_22.out.lt)).trans (Bw_22.out.cell 2 _ rfl)
    have qBw3 := fun mm : Wd (fun w' => SameOn All W21 w' ∧ Below W21.heap.size W21 w') => (World.cell?_of_block (mm.ok.1.2 _ trivial Bw_22.out.lt)).trans (Bw_22.out.cell 3 _ rfl)
    have hCne : Nonempty (Wd (fun w' => SameOn All W21 w' ∧ Below W21.heap.size W21 w')) := ⟨⟨W21.drew, ⟨⟨Nat.le_refl _, fun _ _ _ => rfl⟩, (Below.refl _ _).drew⟩⟩⟩
    have wC : IntKind.i64.wrap C = C := CE.out.2.2
    go_wp2_with fail
    rw [show (w13.alloc (.cells #[.int .i64 skt, .int .i64 snt, .string stt, .slice pkt nkt nkt] 26)) = W21 from HW21.out.symm]
    refine wp_region_class (fun w' => SameOn All W21 w' ∧ Below W21.heap.size W21 w') (by kernel_rfl) (by kernel_rfl) ⟨⟨Nat.le_refl _, fun _ _ _ => rfl⟩, (Below.refl _ _).drew⟩ ?_
    simp only [List.append_eq, List.cons_append, List.nil_append]
    repeat (go_big_quiet_step (first | (rename_i mm; go_at_call 18; refine (CS.out _ mm.ok.2).mono ?_; rintro e wz ⟨rfl, hbz⟩; exact ⟨rfl, ⟨⟨wz, ⟨SameOn.trans mm.ok.1 (SameOn.of_below hbz), mm.ok.2.trans (hbz.mono mm.ok.2.size)⟩⟩, rfl⟩⟩) | (rename_i mm; go_at_call 6; refine (CI.out _ mm.ok.2).mono ?_; rintro e wz ⟨rfl, hbz⟩; exact ⟨rfl, ⟨⟨wz, ⟨SameOn.trans mm.ok.1 (SameOn.of_below hbz), mm.ok.2.trans (hbz.mono mm.ok.2.size)⟩⟩, rfl⟩⟩) | (rename_i mm; go_at_call_of 19 (Value.slice pka nka cka); refine (S1.out _ mm.ok.2).mono ?_; rintro e wz ⟨rfl, hbz⟩; exact ⟨rfl, ⟨⟨wz, ⟨SameOn.trans mm.ok.1 (SameOn.of_below hbz), mm.ok.2.trans (hbz.mono mm.ok.2.size)⟩⟩, rfl⟩⟩) | (rename_i mm; go_at_call_of 19 (Value.slice pkx nkx ckx); refine (S2.out _ mm.ok.2).mono ?_; rintro e wz ⟨rfl, hbz⟩; exact ⟨rfl, ⟨⟨wz, ⟨SameOn.trans mm.ok.1 (SameOn.of_below hbz), mm.ok.2.trans (hbz.mono mm.ok.2.size)⟩⟩, rfl⟩⟩) | (rename_i mm; go_at_call 19; refine (S3.out _ mm.ok.2).mono ?_; rintro e wz ⟨rfl, hbz⟩; exact ⟨rfl, ⟨⟨wz, ⟨SameOn.trans mm.ok.1 (SameOn.of_below hbz), mm.ok.2.trans (hbz.mono mm.ok.2.size)⟩⟩, rfl⟩⟩) | (rename_i mm; go_at_call 20; refine (SE.out _ mm.ok.2).mono ?_; rintro e wz ⟨rfl, hbz⟩; exact ⟨rfl, ⟨⟨wz, ⟨SameOn.trans mm.ok.1 (SameOn.of_below hbz), mm.ok.2.trans (hbz.mono mm.ok.2.size)⟩⟩, rfl⟩⟩) | (rename_i mm; go_at_call 21; refine (V1.out _ mm.ok.2).mono ?_; rintro e wz ⟨rfl, hbz⟩; exact ⟨rfl, ⟨⟨wz, ⟨SameOn.trans mm.ok.1 (SameOn.of_below hbz), mm.ok.2.trans (hbz.mono mm.ok.2.size)⟩⟩, rfl⟩⟩) | (rename_i mm; go_at_call 22; refine (V2.out _ mm.ok.2).mono ?_; rintro e wz ⟨rfl, hbz⟩; exact ⟨rfl, ⟨⟨wz, ⟨SameOn.trans mm.ok.1 (SameOn.of_below hbz), mm.ok.2.trans (hbz.mono mm.ok.2.size)⟩⟩, rfl⟩⟩) | (rename_i mm; go_at_call 23; refine (T1.out _ mm.ok.2).mono ?_; rintro e wz ⟨rfl, hbz⟩; exact ⟨rfl, ⟨⟨wz, ⟨SameOn.trans mm.ok.1 (SameOn.of_below hbz), mm.ok.2.trans (hbz.mono mm.ok.2.size)⟩⟩, rfl⟩⟩) | (rename_i mm; go_at_call 24; refine (T2.out _ mm.ok.2).mono ?_; rintro e wz ⟨rfl, hbz⟩; exact ⟨rfl, ⟨⟨wz, ⟨SameOn.trans mm.ok.1 (SameOn.of_below hbz), mm.ok.2.trans (hbz.mono mm.ok.2.size)⟩⟩, rfl⟩⟩)))
    refine wpQuiet_nil ?_
    rintro _ ⟨mq, rfl⟩
    have hb : Below W21.heap.size W21 mq.val := mq.ok.2
    generalize mq.val = w14 at hb ⊢
    clear hCne qBa0 qBa1 qBa2 qBa3 qBb0 qBb1 qBb2 qBb3 qBx0 qBx1 qBx2 qBx3 qBy0 qBy1 qBy2 qBy3 qBs0 qBs1 qBs2 qBs3 qBt0 qBt1 qBt2 qBt3 qBo0 qBo1 qBo2 qBo3 qBw0 qBw1 qBw2 qBw3
    have E_23 : Hid (Below w.heap.size w w14) := E_22.out.trans (hb.mono E_22.out.size)
    have K_23 : Hid (KeysAt w14) := K_22.out.below hb
    have P_23 : Hid (PowAt w14) := powAt_below P_22.out hb
    have R_23 : Hid (Rows w14 All 1 HByte (.slice sp xs.length cap) xs) := Rows.mono R_22.out (SameOn.of_below hb) (fun _ h => h) (fun _ _ _ h => h)
    have A_23 : Hid (HVa w14 All 4 [.int .i64 ska, .int .i64 sna, .string sta, .slice pka nka cka] xa) := A_22.out.mono (SameOn.of_below hb) (fun _ h => h)
    have B_23 : Hid (HVa w14 All 4 [.int .i64 skb, .int .i64 snb, .string stb, .slice pkb nkb ckb] xb) := B_22.out.mono (SameOn.of_below hb) (fun _ h => h)
    have Ba_23 : Hid (Blk w14 (w1.heap.size) #[.int .i64 ska, .int .i64 sna, .string sta, .slice pka nka cka] 26) := Ba_22.out.next hb
    have Bb_23 : Hid (Blk w14 (w1.heap.size + 1) #[.int .i64 skb, .int .i64 snb, .string stb, .slice pkb nkb ckb] 26) := Bb_22.out.next hb
    have Q_23 : Hid (HEx w14 All 3 [.int .i64 k, .int .i64 m, .string t, .string s, .slice p1 n1 c1, .slice none 0 0] y) := HEx.mono (SameOn.of_below hb) (fun _ h => h) Q_22.out
    have V_23 : Hid (HVa w14 All 3 [.int .i64 skv, .int .i64 snv, .string stv, .slice pkv nkv nkv] xv) := V_22.out.mono (SameOn.of_below hb) (fun _ h => h)
    have N_23 : Hid (Rows w14 All 5 (HBd w14 All 3) u env) := Rows.mono N_22.out (SameOn.of_below hb) (fun _ h => h) (fun _ _ _ h => h.mono (SameOn.of_below hb) (fun _ h => h))
    have Bp_23 : Hid (Blk w14 (w3.heap.size) #[.int .i64 k, .int .i64 m, .string t, .string s, .slice p1 n1 c1, .slice none 0 0] 33) := Bp_22.out.next hb
    have Bv_23 : Hid (Blk w14 (w3.heap.size + 1) #[.int .i64 skv, .int .i64 snv, .string stv, .slice pkv nkv nkv] 26) := Bv_22.out.next hb
    have O_23 : Hid (Rows w14 All 5 (HBd w14 All 3) ev1 (MR.getD [])) := Rows.mono O_22.out (SameOn.of_below hb) (fun _ h => h) (fun _ _ _ h => h.mono (SameOn.of_below hb) (fun _ h => h))
    have O2_23 : Hid (Rows w14 All 5 (HBd w14 All 3) ev2 (MR.getD [])) := Rows.mono O2_22.out (SameOn.of_below hb) (fun _ h => h) (fun _ _ _ h => h.mono (SameOn.of_below hb) (fun _ h => h))
    have N2_23 : Hid (Rows w14 All 5 (HBd w14 All 2) u2 env2) := Rows.mono N2_22.out (SameOn.of_below hb) (fun _ h => h) (fun _ _ _ h => h.mono (SameOn.of_below hb) (fun _ h => h))
    have X_23 : Hid (HVa w14 All 3 [.int .i64 skx, .int .i64 snx, .string stx, .slice pkx nkx ckx] (lookR nm env2).1) := X_22.out.mono (SameOn.of_below hb) (fun _ h => h)
    have Bx_23 : Hid (Blk w14 (w7.heap.size) #[.int .i64 skx, .int .i64 snx, .string stx, .slice pkx nkx ckx] 26) := Bx_22.out.next hb
    have Y_23 : Hid (HVa w14 All 3 [.int .i64 sky, .int .i64 sny, .string sty, .slice pky nky cky] (lookR nm env2).1) := Y_22.out.mono (SameOn.of_below hb) (fun _ h => h)
    have By_23 : Hid (Blk w14 (w8.heap.size) #[.int .i64 sky, .int .i64 sny, .string sty, .slice pky nky cky] 26) := By_22.out.next hb
    have Lv_23 : Hid (HVa w14 All 3 [.int .i64 skl, .int .i64 snl, .string stl, .slice pkl nkl ckl] xl) := Lv_22.out.mono (SameOn.of_below hb) (fun _ h => h)
    have Rv_23 : Hid (HVa w14 All 3 [.int .i64 skr, .int .i64 snr, .string str, .slice pkr nkr ckr] xr) := Rv_22.out.mono (SameOn.of_below hb) (fun _ h => h)
    have Bl_23 : Hid (Blk w14 (w9.heap.size) #[.int .i64 skl, .int .i64 snl, .string stl, .slice pkl nkl ckl] 26) := Bl_22.out.next hb
    have Br_23 : Hid (Blk w14 (w9.heap.size + 1) #[.int .i64 skr, .int .i64 snr, .string str, .slice pkr nkr ckr] 26) := Br_22.out.next hb
    have Bs_23 : Hid (Blk w14 (w10.heap.size) #[.int .i64 RK.1.1, .int .i64 RK.1.2.1, .string RK.1.2.2, .slice none 0 0] 26) := Bs_22.out.next hb
    have Bt_23 : Hid (Blk w14 (w11.heap.size) #[.int .i64 RK.1.1, .int .i64 RK.1.2.1, .string RK.1.2.2, .slice none 0 0] 26) := Bt_22.out.next hb
    have Ov_23 : Hid (HVa w14 All dO [.int .i64 sko, .int .i64 sno, .string sto, .slice pko nko cko] xo) := Ov_22.out.mono (SameOn.of_below hb) (fun _ h => h)
    have Bo_23 : Hid (Blk w14 (w12.heap.size) #[.int .i64 sko, .int .i64 sno, .string sto, .slice pko nko cko] 26) := Bo_22.out.next hb
    have Tv_23 : Hid (HVa w14 All 4 [.int .i64 skt, .int .i64 snt, .string stt, .slice pkt nkt nkt] xt) := Tv_22.out.mono (SameOn.of_below hb) (fun _ h => h)
    have Bw_23 : Hid (Blk w14 (w13.heap.size) #[.int .i64 skt, .int .i64 snt, .string stt, .slice pkt nkt nkt] 26) := Bw_22.out.next hb
    clear E_22 K_22 P_22 R_22 A_22 B_22 Ba_22 Bb_22 Q_22 V_22 N_22 Bp_22 Bv_22 O_22 O2_22 N2_22 X_22 Bx_22 Y_22 By_22 Lv_22 Rv_22 Bl_22 Br_22 Bs_22 Bt_22 Ov_22 Bo_22 Tv_22 Bw_22
    clear hb
    have hdl : dpV 4 xl := dpV_up 3 xl Lv_23.out.dp
    have hda : dpV 4 xa := A_23.out.dp
    have hdb : dpV 4 xb := B_23.out.dp
    obtain ⟨DD, hDD⟩ : ∃ DD, DD = cmpVa 4 xb xl := ⟨_, rfl⟩
    obtain ⟨EE, hEE⟩ : ∃ EE, EE = cmpVa 4 xa xl := ⟨_, rfl⟩
    have HDD : Hid (cmpVa 4 xb xl = DD) := hDD.symm
    have HEE : Hid (cmpVa 4 xa xl = EE) := hEE.symm
    have htr : C ≤ 0 → DD ≤ 0 → ¬ 0 < EE := fun h1 h2 => by have h3 := (ord_val 4).le hda hdb hdl (by rw [HC.out]; exact h1) (by rw [HDD.out]; exact h2); rw [HEE.out] at h3; omega
    have HTR : Hid (C ≤ 0 → DD ≤ 0 → ¬ 0 < EE) := htr
    clear hDD hEE htr hdl hda hdb wC
    have CB : Hid (∀ w', Below w14.heap.size w14 w' → Calls Tryz.prog 6 #[.agg #[.int .i64 skb, .int .i64 snb, .string stb, .slice pkb nkb ckb], .agg #[.int .i64 skl, .int .i64 snl, .string stl, .slice pkl nkl ckl]] w' fun e w'' => e = .returned (.int .i64 DD) ∧ Below w'.heap.size w' w'') := fun w' hw => by
      have h := implCmp_all 4 w' _ _ xb xl ⟨_, rfl, B_23.out.mono (SameOn.of_below hw) (fun _ h => h)⟩ ⟨_, rfl, (Lv_23.out.mono (SameOn.of_below hw) (fun _ h => h)).deeper (by decide)⟩
      rw [HDD.out] at h
      exact h
    have CA : Hid (∀ w', Below w14.heap.size w14 w' → Calls Tryz.prog 6 #[.agg #[.int .i64 ska, .int .i64 sna, .string sta, .slice pka nka cka], .agg #[.int .i64 skl, .int .i64 snl, .string stl, .slice pkl nkl ckl]] w' fun e w'' => e = .returned (.int .i64 EE) ∧ Below w'.heap.size w' w'') := fun w' hw => by
      have h := implCmp_all 4 w' _ _ xa xl ⟨_, rfl, A_23.out.mono (SameOn.of_below hw) (fun _ h => h)⟩ ⟨_, rfl, (Lv_23.out.mono (SameOn.of_below hw) (fun _ h => h)).deeper (by decide)⟩
      rw [HEE.out] at h
      exact h
    clear CS CI S1 SE S2 S3 V1 V2 T1 T2
    by_cases hc0 : C ≤ 0
    · skip
      have zBb0 := Bb_23.out.cell 0 _ rfl
      have zBb1 := Bb_23.out.cell 1 _ rfl
      have zBb2 := Bb_23.out.cell 2 _ rfl
      have zBb3 := Bb_23.out.cell 3 _ rfl
      have zBl0 := Bl_23.out.cell 0 _ rfl
      have zBl1 := Bl_23.out.cell 1 _ rfl
      have zBl2 := Bl_23.out.cell 2 _ rfl
      have zBl3 := Bl_23.out.cell 3 _ rfl
      go_wp2_with fail
      clear zBb0 zBb1 zBb2 zBb3 zBl0 zBl1 zBl2 zBl3
      refine (CB.out _ (Below.refl _ _)).mono ?_
      rintro e w15 ⟨rfl, hb⟩
      have E_24 : Hid (Below w.heap.size w w15) := E_23.out.trans (hb.mono E_23.out.size)
      have K_24 : Hid (KeysAt w15) := K_23.out.below hb
      have P_24 : Hid (PowAt w15) := powAt_below P_23.out hb
      have R_24 : Hid (Rows w15 All 1 HByte (.slice sp xs.length cap) xs) := Rows.mono R_23.out (SameOn.of_below hb) (fun _ h => h) (fun _ _ _ h => h)
      have A_24 : Hid (HVa w15 All 4 [.int .i64 ska, .int .i64 sna, .string sta, .slice pka nka cka] xa) := A_23.out.mono (SameOn.of_below hb) (fun _ h => h)
      have B_24 : Hid (HVa w15 All 4 [.int .i64 skb, .int .i64 snb, .string stb, .slice pkb nkb ckb] xb) := B_23.out.mono (SameOn.of_below hb) (fun _ h => h)
      have Ba_24 : Hid (Blk w15 (w1.heap.size) #[.int .i64 ska, .int .i64 sna, .string sta, .slice pka nka cka] 26) := Ba_23.out.next hb
      have Bb_24 : Hid (Blk w15 (w1.heap.size + 1) #[.int .i64 skb, .int .i64 snb, .string stb, .slice pkb nkb ckb] 26) := Bb_23.out.next hb
      have Q_24 : Hid (HEx w15 All 3 [.int .i64 k, .int .i64 m, .string t, .string s, .slice p1 n1 c1, .slice none 0 0] y) := HEx.mono (SameOn.of_below hb) (fun _ h => h) Q_23.out
      have V_24 : Hid (HVa w15 All 3 [.int .i64 skv, .int .i64 snv, .string stv, .slice pkv nkv nkv] xv) := V_23.out.mono (SameOn.of_below hb) (fun _ h => h)
      have N_24 : Hid (Rows w15 All 5 (HBd w15 All 3) u env) := Rows.mono N_23.out (SameOn.of_below hb) (fun _ h => h) (fun _ _ _ h => h.mono (SameOn.of_below hb) (fun _ h => h))
      have Bp_24 : Hid (Blk w15 (w3.heap.size) #[.int .i64 k, .int .i64 m, .string t, .string s, .slice p1 n1 c1, .slice none 0 0] 33) := Bp_23.out.next hb
      have Bv_24 : Hid (Blk w15 (w3.heap.size + 1) #[.int .i64 skv, .int .i64 snv, .string stv, .slice pkv nkv nkv] 26) := Bv_23.out.next hb
      have O_24 : Hid (Rows w15 All 5 (HBd w15 All 3) ev1 (MR.getD [])) := Rows.mono O_23.out (SameOn.of_below hb) (fun _ h => h) (fun _ _ _ h => h.mono (SameOn.of_below hb) (fun _ h => h))
      have O2_24 : Hid (Rows w15 All 5 (HBd w15 All 3) ev2 (MR.getD [])) := Rows.mono O2_23.out (SameOn.of_below hb) (fun _ h => h) (fun _ _ _ h => h.mono (SameOn.of_below hb) (fun _ h => h))
      have N2_24 : Hid (Rows w15 All 5 (HBd w15 All 2) u2 env2) := Rows.mono N2_23.out (SameOn.of_below hb) (fun _ h => h) (fun _ _ _ h => h.mono (SameOn.of_below hb) (fun _ h => h))
      have X_24 : Hid (HVa w15 All 3 [.int .i64 skx, .int .i64 snx, .string stx, .slice pkx nkx ckx] (lookR nm env2).1) := X_23.out.mono (SameOn.of_below hb) (fun _ h => h)
      have Bx_24 : Hid (Blk w15 (w7.heap.size) #[.int .i64 skx, .int .i64 snx, .string stx, .slice pkx nkx ckx] 26) := Bx_23.out.next hb
      have Y_24 : Hid (HVa w15 All 3 [.int .i64 sky, .int .i64 sny, .string sty, .slice pky nky cky] (lookR nm env2).1) := Y_23.out.mono (SameOn.of_below hb) (fun _ h => h)
      have By_24 : Hid (Blk w15 (w8.heap.size) #[.int .i64 sky, .int .i64 sny, .string sty, .slice pky nky cky] 26) := By_23.out.next hb
      have Lv_24 : Hid (HVa w15 All 3 [.int .i64 skl, .int .i64 snl, .string stl, .slice pkl nkl ckl] xl) := Lv_23.out.mono (SameOn.of_below hb) (fun _ h => h)
      have Rv_24 : Hid (HVa w15 All 3 [.int .i64 skr, .int .i64 snr, .string str, .slice pkr nkr ckr] xr) := Rv_23.out.mono (SameOn.of_below hb) (fun _ h => h)
      have Bl_24 : Hid (Blk w15 (w9.heap.size) #[.int .i64 skl, .int .i64 snl, .string stl, .slice pkl nkl ckl] 26) := Bl_23.out.next hb
      have Br_24 : Hid (Blk w15 (w9.heap.size + 1) #[.int .i64 skr, .int .i64 snr, .string str, .slice pkr nkr ckr] 26) := Br_23.out.next hb
      have Bs_24 : Hid (Blk w15 (w10.heap.size) #[.int .i64 RK.1.1, .int .i64 RK.1.2.1, .string RK.1.2.2, .slice none 0 0] 26) := Bs_23.out.next hb
      have Bt_24 : Hid (Blk w15 (w11.heap.size) #[.int .i64 RK.1.1, .int .i64 RK.1.2.1, .string RK.1.2.2, .slice none 0 0] 26) := Bt_23.out.next hb
      have Ov_24 : Hid (HVa w15 All dO [.int .i64 sko, .int .i64 sno, .string sto, .slice pko nko cko] xo) := Ov_23.out.mono (SameOn.of_below hb) (fun _ h => h)
      have Bo_24 : Hid (Blk w15 (w12.heap.size) #[.int .i64 sko, .int .i64 sno, .string sto, .slice pko nko cko] 26) := Bo_23.out.next hb
      have Tv_24 : Hid (HVa w15 All 4 [.int .i64 skt, .int .i64 snt, .string stt, .slice pkt nkt nkt] xt) := Tv_23.out.mono (SameOn.of_below hb) (fun _ h => h)
      have Bw_24 : Hid (Blk w15 (w13.heap.size) #[.int .i64 skt, .int .i64 snt, .string stt, .slice pkt nkt nkt] 26) := Bw_23.out.next hb
      clear E_23 K_23 P_23 R_23 A_23 B_23 Ba_23 Bb_23 Q_23 V_23 N_23 Bp_23 Bv_23 O_23 O2_23 N2_23 X_23 Bx_23 Y_23 By_23 Lv_23 Rv_23 Bl_23 Br_23 Bs_23 Bt_23 Ov_23 Bo_23 Tv_23 Bw_23
      have B15 : Hid (Below w14.heap.size w14 w15) := hb
      clear hb
      by_cases hd0 : DD ≤ 0
      · skip
        have he0 := HTR.out hc0 hd0
        have zBa0 := Ba_24.out.cell 0 _ rfl
        have zBa1 := Ba_24.out.cell 1 _ rfl
        have zBa2 := Ba_24.out.cell 2 _ rfl
        have zBa3 := Ba_24.out.cell 3 _ rfl
        have zBl0 := Bl_24.out.cell 0 _ rfl
        have zBl1 := Bl_24.out.cell 1 _ rfl
        have zBl2 := Bl_24.out.cell 2 _ rfl
        have zBl3 := Bl_24.out.cell 3 _ rfl
        go_wp2_with fail
        clear zBa0 zBa1 zBa2 zBa3 zBl0 zBl1 zBl2 zBl3
        refine (CA.out _ B15.out).mono ?_
        rintro e w16 ⟨rfl, hb⟩
        have E_25 : Hid (Below w.heap.size w w16) := E_24.out.trans (hb.mono E_24.out.size)
        have K_25 : Hid (KeysAt w16) := K_24.out.below hb
        have P_25 : Hid (PowAt w16) := powAt_below P_24.out hb
        have R_25 : Hid (Rows w16 All 1 HByte (.slice sp xs.length cap) xs) := Rows.mono R_24.out (SameOn.of_below hb) (fun _ h => h) (fun _ _ _ h => h)
        have A_25 : Hid (HVa w16 All 4 [.int .i64 ska, .int .i64 sna, .string sta, .slice pka nka cka] xa) := A_24.out.mono (SameOn.of_below hb) (fun _ h => h)
        have B_25 : Hid (HVa w16 All 4 [.int .i64 skb, .int .i64 snb, .string stb, .slice pkb nkb ckb] xb) := B_24.out.mono (SameOn.of_below hb) (fun _ h => h)
        have Ba_25 : Hid (Blk w16 (w1.heap.size) #[.int .i64 ska, .int .i64 sna, .string sta, .slice pka nka cka] 26) := Ba_24.out.next hb
        have Bb_25 : Hid (Blk w16 (w1.heap.size + 1) #[.int .i64 skb, .int .i64 snb, .string stb, .slice pkb nkb ckb] 26) := Bb_24.out.next hb
        have Q_25 : Hid (HEx w16 All 3 [.int .i64 k, .int .i64 m, .string t, .string s, .slice p1 n1 c1, .slice none 0 0] y) := HEx.mono (SameOn.of_below hb) (fun _ h => h) Q_24.out
        have V_25 : Hid (HVa w16 All 3 [.int .i64 skv, .int .i64 snv, .string stv, .slice pkv nkv nkv] xv) := V_24.out.mono (SameOn.of_below hb) (fun _ h => h)
        have N_25 : Hid (Rows w16 All 5 (HBd w16 All 3) u env) := Rows.mono N_24.out (SameOn.of_below hb) (fun _ h => h) (fun _ _ _ h => h.mono (SameOn.of_below hb) (fun _ h => h))
        have Bp_25 : Hid (Blk w16 (w3.heap.size) #[.int .i64 k, .int .i64 m, .string t, .string s, .slice p1 n1 c1, .slice none 0 0] 33) := Bp_24.out.next hb
        have Bv_25 : Hid (Blk w16 (w3.heap.size + 1) #[.int .i64 skv, .int .i64 snv, .string stv, .slice pkv nkv nkv] 26) := Bv_24.out.next hb
        have O_25 : Hid (Rows w16 All 5 (HBd w16 All 3) ev1 (MR.getD [])) := Rows.mono O_24.out (SameOn.of_below hb) (fun _ h => h) (fun _ _ _ h => h.mono (SameOn.of_below hb) (fun _ h => h))
        have O2_25 : Hid (Rows w16 All 5 (HBd w16 All 3) ev2 (MR.getD [])) := Rows.mono O2_24.out (SameOn.of_below hb) (fun _ h => h) (fun _ _ _ h => h.mono (SameOn.of_below hb) (fun _ h => h))
        have N2_25 : Hid (Rows w16 All 5 (HBd w16 All 2) u2 env2) := Rows.mono N2_24.out (SameOn.of_below hb) (fun _ h => h) (fun _ _ _ h => h.mono (SameOn.of_below hb) (fun _ h => h))
        have X_25 : Hid (HVa w16 All 3 [.int .i64 skx, .int .i64 snx, .string stx, .slice pkx nkx ckx] (lookR nm env2).1) := X_24.out.mono (SameOn.of_below hb) (fun _ h => h)
        have Bx_25 : Hid (Blk w16 (w7.heap.size) #[.int .i64 skx, .int .i64 snx, .string stx, .slice pkx nkx ckx] 26) := Bx_24.out.next hb
        have Y_25 : Hid (HVa w16 All 3 [.int .i64 sky, .int .i64 sny, .string sty, .slice pky nky cky] (lookR nm env2).1) := Y_24.out.mono (SameOn.of_below hb) (fun _ h => h)
        have By_25 : Hid (Blk w16 (w8.heap.size) #[.int .i64 sky, .int .i64 sny, .string sty, .slice pky nky cky] 26) := By_24.out.next hb
        have Lv_25 : Hid (HVa w16 All 3 [.int .i64 skl, .int .i64 snl, .string stl, .slice pkl nkl ckl] xl) := Lv_24.out.mono (SameOn.of_below hb) (fun _ h => h)
        have Rv_25 : Hid (HVa w16 All 3 [.int .i64 skr, .int .i64 snr, .string str, .slice pkr nkr ckr] xr) := Rv_24.out.mono (SameOn.of_below hb) (fun _ h => h)
        have Bl_25 : Hid (Blk w16 (w9.heap.size) #[.int .i64 skl, .int .i64 snl, .string stl, .slice pkl nkl ckl] 26) := Bl_24.out.next hb
        have Br_25 : Hid (Blk w16 (w9.heap.size + 1) #[.int .i64 skr, .int .i64 snr, .string str, .slice pkr nkr ckr] 26) := Br_24.out.next hb
        have Bs_25 : Hid (Blk w16 (w10.heap.size) #[.int .i64 RK.1.1, .int .i64 RK.1.2.1, .string RK.1.2.2, .slice none 0 0] 26) := Bs_24.out.next hb
        have Bt_25 : Hid (Blk w16 (w11.heap.size) #[.int .i64 RK.1.1, .int .i64 RK.1.2.1, .string RK.1.2.2, .slice none 0 0] 26) := Bt_24.out.next hb
        have Ov_25 : Hid (HVa w16 All dO [.int .i64 sko, .int .i64 sno, .string sto, .slice pko nko cko] xo) := Ov_24.out.mono (SameOn.of_below hb) (fun _ h => h)
        have Bo_25 : Hid (Blk w16 (w12.heap.size) #[.int .i64 sko, .int .i64 sno, .string sto, .slice pko nko cko] 26) := Bo_24.out.next hb
        have Tv_25 : Hid (HVa w16 All 4 [.int .i64 skt, .int .i64 snt, .string stt, .slice pkt nkt nkt] xt) := Tv_24.out.mono (SameOn.of_below hb) (fun _ h => h)
        have Bw_25 : Hid (Blk w16 (w13.heap.size) #[.int .i64 skt, .int .i64 snt, .string stt, .slice pkt nkt nkt] 26) := Bw_24.out.next hb
        clear E_24 K_24 P_24 R_24 A_24 B_24 Ba_24 Bb_24 Q_24 V_24 N_24 Bp_24 Bv_24 O_24 O2_24 N2_24 X_24 Bx_24 Y_24 By_24 Lv_24 Rv_24 Bl_24 Br_24 Bs_24 Bt_24 Ov_24 Bo_24 Tv_24 Bw_24
        clear hb
        cases MR with
        | none =>
          obtain ⟨po, co, ho, -⟩ := id O_25.out
          have ho : ev1 = .slice po 0 co := ho
          subst ho
          have E9 : Hid _ := E_25.out
          go_wp2_with fail
          go_ret
          exact ⟨rfl, E9.out⟩
        | some out =>
          obtain ⟨po, co, ho, -⟩ := id O_25.out
          have ho : ev1 = .slice po out.length co := ho
          subst ho
          obtain ⟨pu, cu, hu, -⟩ := id N_25.out
          subst hu
          have HID : Hid (matchM 3 3 y xv out = some out ∧ env.length ≤ out.length) := matchM_idem HMR.out
          have HL2 : Hid (out.length + ndE 3 y ≤ 100000) := by have := matchM_len 3 3 y xv env out HMR.out; have := HM.out.2.1; show _ ≤ _; omega
          have HW2 : Hid (∀ out2, matchM 3 3 y xv out = some out2 → ∀ b ∈ out2, wtVa 3 b.val ≤ 1048576) := fun out2 h2 => by rw [HID.out.1] at h2; cases h2; exact HM.out.2.2 out HMR.out
          have hle : (env.length : Int) ≤ (out.length : Int) := by have := HID.out.2; omega
          have zBp0 := Bp_25.out.cell 0 _ rfl
          have zBp1 := Bp_25.out.cell 1 _ rfl
          have zBp2 := Bp_25.out.cell 2 _ rfl
          have zBp3 := Bp_25.out.cell 3 _ rfl
          have zBp4 := Bp_25.out.cell 4 _ rfl
          have zBp5 := Bp_25.out.cell 5 _ rfl
          have zBv0 := Bv_25.out.cell 0 _ rfl
          have zBv1 := Bv_25.out.cell 1 _ rfl
          have zBv2 := Bv_25.out.cell 2 _ rfl
          have zBv3 := Bv_25.out.cell 3 _ rfl
          go_wp2_with fail
          clear zBp0 zBp1 zBp2 zBp3 zBp4 zBp5 zBv0 zBv1 zBv2 zBv3
          refine (implMatch_any 3 3 _ _ y _ xv _ out Q_25.out V_25.out HM.out.1 O_25.out HL2.out HW2.out).mono ?_
          rintro e w17 ⟨⟨ev3, rfl, ho3⟩, hb⟩
          have E_26 : Hid (Below w.heap.size w w17) := E_25.out.trans (hb.mono E_25.out.size)
          have K_26 : Hid (KeysAt w17) := K_25.out.below hb
          have P_26 : Hid (PowAt w17) := powAt_below P_25.out hb
          have R_26 : Hid (Rows w17 All 1 HByte (.slice sp xs.length cap) xs) := Rows.mono R_25.out (SameOn.of_below hb) (fun _ h => h) (fun _ _ _ h => h)
          have A_26 : Hid (HVa w17 All 4 [.int .i64 ska, .int .i64 sna, .string sta, .slice pka nka cka] xa) := A_25.out.mono (SameOn.of_below hb) (fun _ h => h)
          have B_26 : Hid (HVa w17 All 4 [.int .i64 skb, .int .i64 snb, .string stb, .slice pkb nkb ckb] xb) := B_25.out.mono (SameOn.of_below hb) (fun _ h => h)
          have Ba_26 : Hid (Blk w17 (w1.heap.size) #[.int .i64 ska, .int .i64 sna, .string sta, .slice pka nka cka] 26) := Ba_25.out.next hb
          have Bb_26 : Hid (Blk w17 (w1.heap.size + 1) #[.int .i64 skb, .int .i64 snb, .string stb, .slice pkb nkb ckb] 26) := Bb_25.out.next hb
          have Q_26 : Hid (HEx w17 All 3 [.int .i64 k, .int .i64 m, .string t, .string s, .slice p1 n1 c1, .slice none 0 0] y) := HEx.mono (SameOn.of_below hb) (fun _ h => h) Q_25.out
          have V_26 : Hid (HVa w17 All 3 [.int .i64 skv, .int .i64 snv, .string stv, .slice pkv nkv nkv] xv) := V_25.out.mono (SameOn.of_below hb) (fun _ h => h)
          have Bp_26 : Hid (Blk w17 (w3.heap.size) #[.int .i64 k, .int .i64 m, .string t, .string s, .slice p1 n1 c1, .slice none 0 0] 33) := Bp_25.out.next hb
          have Bv_26 : Hid (Blk w17 (w3.heap.size + 1) #[.int .i64 skv, .int .i64 snv, .string stv, .slice pkv nkv nkv] 26) := Bv_25.out.next hb
          have N2_26 : Hid (Rows w17 All 5 (HBd w17 All 2) u2 env2) := Rows.mono N2_25.out (SameOn.of_below hb) (fun _ h => h) (fun _ _ _ h => h.mono (SameOn.of_below hb) (fun _ h => h))
          have X_26 : Hid (HVa w17 All 3 [.int .i64 skx, .int .i64 snx, .string stx, .slice pkx nkx ckx] (lookR nm env2).1) := X_25.out.mono (SameOn.of_below hb) (fun _ h => h)
          have Bx_26 : Hid (Blk w17 (w7.heap.size) #[.int .i64 skx, .int .i64 snx, .string stx, .slice pkx nkx ckx] 26) := Bx_25.out.next hb
          have Y_26 : Hid (HVa w17 All 3 [.int .i64 sky, .int .i64 sny, .string sty, .slice pky nky cky] (lookR nm env2).1) := Y_25.out.mono (SameOn.of_below hb) (fun _ h => h)
          have By_26 : Hid (Blk w17 (w8.heap.size) #[.int .i64 sky, .int .i64 sny, .string sty, .slice pky nky cky] 26) := By_25.out.next hb
          have Lv_26 : Hid (HVa w17 All 3 [.int .i64 skl, .int .i64 snl, .string stl, .slice pkl nkl ckl] xl) := Lv_25.out.mono (SameOn.of_below hb) (fun _ h => h)
          have Rv_26 : Hid (HVa w17 All 3 [.int .i64 skr, .int .i64 snr, .string str, .slice pkr nkr ckr] xr) := Rv_25.out.mono (SameOn.of_below hb) (fun _ h => h)
          have Bl_26 : Hid (Blk w17 (w9.heap.size) #[.int .i64 skl, .int .i64 snl, .string stl, .slice pkl nkl ckl] 26) := Bl_25.out.next hb
          have Br_26 : Hid (Blk w17 (w9.heap.size + 1) #[.int .i64 skr, .int .i64 snr, .string str, .slice pkr nkr ckr] 26) := Br_25.out.next hb
          have Bs_26 : Hid (Blk w17 (w10.heap.size) #[.int .i64 RK.1.1, .int .i64 RK.1.2.1, .string RK.1.2.2, .slice none 0 0] 26) := Bs_25.out.next hb
          have Bt_26 : Hid (Blk w17 (w11.heap.size) #[.int .i64 RK.1.1, .int .i64 RK.1.2.1, .string RK.1.2.2, .slice none 0 0] 26) := Bt_25.out.next hb
          have Ov_26 : Hid (HVa w17 All dO [.int .i64 sko, .int .i64 sno, .string sto, .slice pko nko cko] xo) := Ov_25.out.mono (SameOn.of_below hb) (fun _ h => h)
          have Bo_26 : Hid (Blk w17 (w12.heap.size) #[.int .i64 sko, .int .i64 sno, .string sto, .slice pko nko cko] 26) := Bo_25.out.next hb
          have Tv_26 : Hid (HVa w17 All 4 [.int .i64 skt, .int .i64 snt, .string stt, .slice pkt nkt nkt] xt) := Tv_25.out.mono (SameOn.of_below hb) (fun _ h => h)
          have Bw_26 : Hid (Blk w17 (w13.heap.size) #[.int .i64 skt, .int .i64 snt, .string stt, .slice pkt nkt nkt] 26) := Bw_25.out.next hb
          have O_26 : Hid (Rows w17 All 5 (HBd w17 All 3) (.slice po out.length co) out) := Rows.mono O_25.out (SameOn.of_below hb) (fun _ h => h) (fun _ _ _ h => h.mono (SameOn.of_below hb) (fun _ h => h))
          clear E_25 K_25 P_25 R_25 A_25 B_25 Ba_25 Bb_25 Q_25 V_25 Bp_25 Bv_25 N2_25 X_25 Bx_25 Y_25 By_25 Lv_25 Rv_25 Bl_25 Br_25 Bs_25 Bt_25 Ov_25 Bo_25 Tv_25 Bw_25 O_25
          rw [HID.out.1] at ho3 ⊢
          have O3_26 : Hid (Rows w17 All 5 (HBd w17 All 3) ev3 out) := ho3
          clear hb ho3
          dsimp only [Option.isSome]
          have SE3 : Hid (Calls Tryz.prog 20 #[ev3, .slice po out.length co] w17 fun e w' => e = .returned (.bool true) ∧ Below w17.heap.size w17 w') := by
            have h := sameEnv_law 3 w17 _ _ out out O3_26.out O_26.out
            rw [sameB_true rfl] at h
            exact h
          go_wp2_with fail
          refine SE3.out.mono ?_
          rintro e w18 ⟨rfl, hb⟩
          have E9 : Hid (Below w.heap.size w w18) := E_26.out.trans (hb.mono E_26.out.size)
          clear hb
          go_wp2_with fail
          go_ret
          exact ⟨by simp, E9.out⟩
      · skip
        cases MR with
        | none =>
          obtain ⟨po, co, ho, -⟩ := id O_24.out
          have ho : ev1 = .slice po 0 co := ho
          subst ho
          have E9 : Hid _ := E_24.out
          go_wp2_with fail
          go_ret
          exact ⟨rfl, E9.out⟩
        | some out =>
          obtain ⟨po, co, ho, -⟩ := id O_24.out
          have ho : ev1 = .slice po out.length co := ho
          subst ho
          obtain ⟨pu, cu, hu, -⟩ := id N_24.out
          subst hu
          have HID : Hid (matchM 3 3 y xv out = some out ∧ env.length ≤ out.length) := matchM_idem HMR.out
          have HL2 : Hid (out.length + ndE 3 y ≤ 100000) := by have := matchM_len 3 3 y xv env out HMR.out; have := HM.out.2.1; show _ ≤ _; omega
          have HW2 : Hid (∀ out2, matchM 3 3 y xv out = some out2 → ∀ b ∈ out2, wtVa 3 b.val ≤ 1048576) := fun out2 h2 => by rw [HID.out.1] at h2; cases h2; exact HM.out.2.2 out HMR.out
          have hle : (env.length : Int) ≤ (out.length : Int) := by have := HID.out.2; omega
          have zBp0 := Bp_24.out.cell 0 _ rfl
          have zBp1 := Bp_24.out.cell 1 _ rfl
          have zBp2 := Bp_24.out.cell 2 _ rfl
          have zBp3 := Bp_24.out.cell 3 _ rfl
          have zBp4 := Bp_24.out.cell 4 _ rfl
          have zBp5 := Bp_24.out.cell 5 _ rfl
          have zBv0 := Bv_24.out.cell 0 _ rfl
          have zBv1 := Bv_24.out.cell 1 _ rfl
          have zBv2 := Bv_24.out.cell 2 _ rfl
          have zBv3 := Bv_24.out.cell 3 _ rfl
          go_wp2_with fail
          clear zBp0 zBp1 zBp2 zBp3 zBp4 zBp5 zBv0 zBv1 zBv2 zBv3
          refine (implMatch_any 3 3 _ _ y _ xv _ out Q_24.out V_24.out HM.out.1 O_24.out HL2.out HW2.out).mono ?_
          rintro e w17 ⟨⟨ev3, rfl, ho3⟩, hb⟩
          have E_25 : Hid (Below w.heap.size w w17) := E_24.out.trans (hb.mono E_24.out.size)
          have K_25 : Hid (KeysAt w17) := K_24.out.below hb
          have P_25 : Hid (PowAt w17) := powAt_below P_24.out hb
          have R_25 : Hid (Rows w17 All 1 HByte (.slice sp xs.length cap) xs) := Rows.mono R_24.out (SameOn.of_below hb) (fun _ h => h) (fun _ _ _ h => h)
          have A_25 : Hid (HVa w17 All 4 [.int .i64 ska, .int .i64 sna, .string sta, .slice pka nka cka] xa) := A_24.out.mono (SameOn.of_below hb) (fun _ h => h)
          have B_25 : Hid (HVa w17 All 4 [.int .i64 skb, .int .i64 snb, .string stb, .slice pkb nkb ckb] xb) := B_24.out.mono (SameOn.of_below hb) (fun _ h => h)
          have Ba_25 : Hid (Blk w17 (w1.heap.size) #[.int .i64 ska, .int .i64 sna, .string sta, .slice pka nka cka] 26) := Ba_24.out.next hb
          have Bb_25 : Hid (Blk w17 (w1.heap.size + 1) #[.int .i64 skb, .int .i64 snb, .string stb, .slice pkb nkb ckb] 26) := Bb_24.out.next hb
          have Q_25 : Hid (HEx w17 All 3 [.int .i64 k, .int .i64 m, .string t, .string s, .slice p1 n1 c1, .slice none 0 0] y) := HEx.mono (SameOn.of_below hb) (fun _ h => h) Q_24.out
          have V_25 : Hid (HVa w17 All 3 [.int .i64 skv, .int .i64 snv, .string stv, .slice pkv nkv nkv] xv) := V_24.out.mono (SameOn.of_below hb) (fun _ h => h)
          have Bp_25 : Hid (Blk w17 (w3.heap.size) #[.int .i64 k, .int .i64 m, .string t, .string s, .slice p1 n1 c1, .slice none 0 0] 33) := Bp_24.out.next hb
          have Bv_25 : Hid (Blk w17 (w3.heap.size + 1) #[.int .i64 skv, .int .i64 snv, .string stv, .slice pkv nkv nkv] 26) := Bv_24.out.next hb
          have N2_25 : Hid (Rows w17 All 5 (HBd w17 All 2) u2 env2) := Rows.mono N2_24.out (SameOn.of_below hb) (fun _ h => h) (fun _ _ _ h => h.mono (SameOn.of_below hb) (fun _ h => h))
          have X_25 : Hid (HVa w17 All 3 [.int .i64 skx, .int .i64 snx, .string stx, .slice pkx nkx ckx] (lookR nm env2).1) := X_24.out.mono (SameOn.of_below hb) (fun _ h => h)
          have Bx_25 : Hid (Blk w17 (w7.heap.size) #[.int .i64 skx, .int .i64 snx, .string stx, .slice pkx nkx ckx] 26) := Bx_24.out.next hb
          have Y_25 : Hid (HVa w17 All 3 [.int .i64 sky, .int .i64 sny, .string sty, .slice pky nky cky] (lookR nm env2).1) := Y_24.out.mono (SameOn.of_below hb) (fun _ h => h)
          have By_25 : Hid (Blk w17 (w8.heap.size) #[.int .i64 sky, .int .i64 sny, .string sty, .slice pky nky cky] 26) := By_24.out.next hb
          have Lv_25 : Hid (HVa w17 All 3 [.int .i64 skl, .int .i64 snl, .string stl, .slice pkl nkl ckl] xl) := Lv_24.out.mono (SameOn.of_below hb) (fun _ h => h)
          have Rv_25 : Hid (HVa w17 All 3 [.int .i64 skr, .int .i64 snr, .string str, .slice pkr nkr ckr] xr) := Rv_24.out.mono (SameOn.of_below hb) (fun _ h => h)
          have Bl_25 : Hid (Blk w17 (w9.heap.size) #[.int .i64 skl, .int .i64 snl, .string stl, .slice pkl nkl ckl] 26) := Bl_24.out.next hb
          have Br_25 : Hid (Blk w17 (w9.heap.size + 1) #[.int .i64 skr, .int .i64 snr, .string str, .slice pkr nkr ckr] 26) := Br_24.out.next hb
          have Bs_25 : Hid (Blk w17 (w10.heap.size) #[.int .i64 RK.1.1, .int .i64 RK.1.2.1, .string RK.1.2.2, .slice none 0 0] 26) := Bs_24.out.next hb
          have Bt_25 : Hid (Blk w17 (w11.heap.size) #[.int .i64 RK.1.1, .int .i64 RK.1.2.1, .string RK.1.2.2, .slice none 0 0] 26) := Bt_24.out.next hb
          have Ov_25 : Hid (HVa w17 All dO [.int .i64 sko, .int .i64 sno, .string sto, .slice pko nko cko] xo) := Ov_24.out.mono (SameOn.of_below hb) (fun _ h => h)
          have Bo_25 : Hid (Blk w17 (w12.heap.size) #[.int .i64 sko, .int .i64 sno, .string sto, .slice pko nko cko] 26) := Bo_24.out.next hb
          have Tv_25 : Hid (HVa w17 All 4 [.int .i64 skt, .int .i64 snt, .string stt, .slice pkt nkt nkt] xt) := Tv_24.out.mono (SameOn.of_below hb) (fun _ h => h)
          have Bw_25 : Hid (Blk w17 (w13.heap.size) #[.int .i64 skt, .int .i64 snt, .string stt, .slice pkt nkt nkt] 26) := Bw_24.out.next hb
          have O_25 : Hid (Rows w17 All 5 (HBd w17 All 3) (.slice po out.length co) out) := Rows.mono O_24.out (SameOn.of_below hb) (fun _ h => h) (fun _ _ _ h => h.mono (SameOn.of_below hb) (fun _ h => h))
          clear E_24 K_24 P_24 R_24 A_24 B_24 Ba_24 Bb_24 Q_24 V_24 Bp_24 Bv_24 N2_24 X_24 Bx_24 Y_24 By_24 Lv_24 Rv_24 Bl_24 Br_24 Bs_24 Bt_24 Ov_24 Bo_24 Tv_24 Bw_24 O_24
          rw [HID.out.1] at ho3 ⊢
          have O3_25 : Hid (Rows w17 All 5 (HBd w17 All 3) ev3 out) := ho3
          clear hb ho3
          dsimp only [Option.isSome]
          have SE3 : Hid (Calls Tryz.prog 20 #[ev3, .slice po out.length co] w17 fun e w' => e = .returned (.bool true) ∧ Below w17.heap.size w17 w') := by
            have h := sameEnv_law 3 w17 _ _ out out O3_25.out O_25.out
            rw [sameB_true rfl] at h
            exact h
          go_wp2_with fail
          refine SE3.out.mono ?_
          rintro e w18 ⟨rfl, hb⟩
          have E9 : Hid (Below w.heap.size w w18) := E_25.out.trans (hb.mono E_25.out.size)
          clear hb
          go_wp2_with fail
          go_ret
          exact ⟨by simp, E9.out⟩
    · skip
      cases MR with
      | none =>
        obtain ⟨po, co, ho, -⟩ := id O_23.out
        have ho : ev1 = .slice po 0 co := ho
        subst ho
        have E9 : Hid _ := E_23.out
        go_wp2_with fail
        go_ret
        exact ⟨rfl, E9.out⟩
      | some out =>
        obtain ⟨po, co, ho, -⟩ := id O_23.out
        have ho : ev1 = .slice po out.length co := ho
        subst ho
        obtain ⟨pu, cu, hu, -⟩ := id N_23.out
        subst hu
        have HID : Hid (matchM 3 3 y xv out = some out ∧ env.length ≤ out.length) := matchM_idem HMR.out
        have HL2 : Hid (out.length + ndE 3 y ≤ 100000) := by have := matchM_len 3 3 y xv env out HMR.out; have := HM.out.2.1; show _ ≤ _; omega
        have HW2 : Hid (∀ out2, matchM 3 3 y xv out = some out2 → ∀ b ∈ out2, wtVa 3 b.val ≤ 1048576) := fun out2 h2 => by rw [HID.out.1] at h2; cases h2; exact HM.out.2.2 out HMR.out
        have hle : (env.length : Int) ≤ (out.length : Int) := by have := HID.out.2; omega
        have zBp0 := Bp_23.out.cell 0 _ rfl
        have zBp1 := Bp_23.out.cell 1 _ rfl
        have zBp2 := Bp_23.out.cell 2 _ rfl
        have zBp3 := Bp_23.out.cell 3 _ rfl
        have zBp4 := Bp_23.out.cell 4 _ rfl
        have zBp5 := Bp_23.out.cell 5 _ rfl
        have zBv0 := Bv_23.out.cell 0 _ rfl
        have zBv1 := Bv_23.out.cell 1 _ rfl
        have zBv2 := Bv_23.out.cell 2 _ rfl
        have zBv3 := Bv_23.out.cell 3 _ rfl
        go_wp2_with fail
        clear zBp0 zBp1 zBp2 zBp3 zBp4 zBp5 zBv0 zBv1 zBv2 zBv3
        refine (implMatch_any 3 3 _ _ y _ xv _ out Q_23.out V_23.out HM.out.1 O_23.out HL2.out HW2.out).mono ?_
        rintro e w17 ⟨⟨ev3, rfl, ho3⟩, hb⟩
        have E_24 : Hid (Below w.heap.size w w17) := E_23.out.trans (hb.mono E_23.out.size)
        have K_24 : Hid (KeysAt w17) := K_23.out.below hb
        have P_24 : Hid (PowAt w17) := powAt_below P_23.out hb
        have R_24 : Hid (Rows w17 All 1 HByte (.slice sp xs.length cap) xs) := Rows.mono R_23.out (SameOn.of_below hb) (fun _ h => h) (fun _ _ _ h => h)
        have A_24 : Hid (HVa w17 All 4 [.int .i64 ska, .int .i64 sna, .string sta, .slice pka nka cka] xa) := A_23.out.mono (SameOn.of_below hb) (fun _ h => h)
        have B_24 : Hid (HVa w17 All 4 [.int .i64 skb, .int .i64 snb, .string stb, .slice pkb nkb ckb] xb) := B_23.out.mono (SameOn.of_below hb) (fun _ h => h)
        have Ba_24 : Hid (Blk w17 (w1.heap.size) #[.int .i64 ska, .int .i64 sna, .string sta, .slice pka nka cka] 26) := Ba_23.out.next hb
        have Bb_24 : Hid (Blk w17 (w1.heap.size + 1) #[.int .i64 skb, .int .i64 snb, .string stb, .slice pkb nkb ckb] 26) := Bb_23.out.next hb
        have Q_24 : Hid (HEx w17 All 3 [.int .i64 k, .int .i64 m, .string t, .string s, .slice p1 n1 c1, .slice none 0 0] y) := HEx.mono (SameOn.of_below hb) (fun _ h => h) Q_23.out
        have V_24 : Hid (HVa w17 All 3 [.int .i64 skv, .int .i64 snv, .string stv, .slice pkv nkv nkv] xv) := V_23.out.mono (SameOn.of_below hb) (fun _ h => h)
        have Bp_24 : Hid (Blk w17 (w3.heap.size) #[.int .i64 k, .int .i64 m, .string t, .string s, .slice p1 n1 c1, .slice none 0 0] 33) := Bp_23.out.next hb
        have Bv_24 : Hid (Blk w17 (w3.heap.size + 1) #[.int .i64 skv, .int .i64 snv, .string stv, .slice pkv nkv nkv] 26) := Bv_23.out.next hb
        have N2_24 : Hid (Rows w17 All 5 (HBd w17 All 2) u2 env2) := Rows.mono N2_23.out (SameOn.of_below hb) (fun _ h => h) (fun _ _ _ h => h.mono (SameOn.of_below hb) (fun _ h => h))
        have X_24 : Hid (HVa w17 All 3 [.int .i64 skx, .int .i64 snx, .string stx, .slice pkx nkx ckx] (lookR nm env2).1) := X_23.out.mono (SameOn.of_below hb) (fun _ h => h)
        have Bx_24 : Hid (Blk w17 (w7.heap.size) #[.int .i64 skx, .int .i64 snx, .string stx, .slice pkx nkx ckx] 26) := Bx_23.out.next hb
        have Y_24 : Hid (HVa w17 All 3 [.int .i64 sky, .int .i64 sny, .string sty, .slice pky nky cky] (lookR nm env2).1) := Y_23.out.mono (SameOn.of_below hb) (fun _ h => h)
        have By_24 : Hid (Blk w17 (w8.heap.size) #[.int .i64 sky, .int .i64 sny, .string sty, .slice pky nky cky] 26) := By_23.out.next hb
        have Lv_24 : Hid (HVa w17 All 3 [.int .i64 skl, .int .i64 snl, .string stl, .slice pkl nkl ckl] xl) := Lv_23.out.mono (SameOn.of_below hb) (fun _ h => h)
        have Rv_24 : Hid (HVa w17 All 3 [.int .i64 skr, .int .i64 snr, .string str, .slice pkr nkr ckr] xr) := Rv_23.out.mono (SameOn.of_below hb) (fun _ h => h)
        have Bl_24 : Hid (Blk w17 (w9.heap.size) #[.int .i64 skl, .int .i64 snl, .string stl, .slice pkl nkl ckl] 26) := Bl_23.out.next hb
        have Br_24 : Hid (Blk w17 (w9.heap.size + 1) #[.int .i64 skr, .int .i64 snr, .string str, .slice pkr nkr ckr] 26) := Br_23.out.next hb
        have Bs_24 : Hid (Blk w17 (w10.heap.size) #[.int .i64 RK.1.1, .int .i64 RK.1.2.1, .string RK.1.2.2, .slice none 0 0] 26) := Bs_23.out.next hb
        have Bt_24 : Hid (Blk w17 (w11.heap.size) #[.int .i64 RK.1.1, .int .i64 RK.1.2.1, .string RK.1.2.2, .slice none 0 0] 26) := Bt_23.out.next hb
        have Ov_24 : Hid (HVa w17 All dO [.int .i64 sko, .int .i64 sno, .string sto, .slice pko nko cko] xo) := Ov_23.out.mono (SameOn.of_below hb) (fun _ h => h)
        have Bo_24 : Hid (Blk w17 (w12.heap.size) #[.int .i64 sko, .int .i64 sno, .string sto, .slice pko nko cko] 26) := Bo_23.out.next hb
        have Tv_24 : Hid (HVa w17 All 4 [.int .i64 skt, .int .i64 snt, .string stt, .slice pkt nkt nkt] xt) := Tv_23.out.mono (SameOn.of_below hb) (fun _ h => h)
        have Bw_24 : Hid (Blk w17 (w13.heap.size) #[.int .i64 skt, .int .i64 snt, .string stt, .slice pkt nkt nkt] 26) := Bw_23.out.next hb
        have O_24 : Hid (Rows w17 All 5 (HBd w17 All 3) (.slice po out.length co) out) := Rows.mono O_23.out (SameOn.of_below hb) (fun _ h => h) (fun _ _ _ h => h.mono (SameOn.of_below hb) (fun _ h => h))
        clear E_23 K_23 P_23 R_23 A_23 B_23 Ba_23 Bb_23 Q_23 V_23 Bp_23 Bv_23 N2_23 X_23 Bx_23 Y_23 By_23 Lv_23 Rv_23 Bl_23 Br_23 Bs_23 Bt_23 Ov_23 Bo_23 Tv_23 Bw_23 O_23
        rw [HID.out.1] at ho3 ⊢
        have O3_24 : Hid (Rows w17 All 5 (HBd w17 All 3) ev3 out) := ho3
        clear hb ho3
        dsimp only [Option.isSome]
        have SE3 : Hid (Calls Tryz.prog 20 #[ev3, .slice po out.length co] w17 fun e w' => e = .returned (.bool true) ∧ Below w17.heap.size w17 w') := by
          have h := sameEnv_law 3 w17 _ _ out out O3_24.out O_24.out
          rw [sameB_true rfl] at h
          exact h
        go_wp2_with fail
        refine SE3.out.mono ?_
        rintro e w18 ⟨rfl, hb⟩
        have E9 : Hid (Below w.heap.size w w18) := E_24.out.trans (hb.mono E_24.out.size)
        clear hb
        go_wp2_with fail
        go_ret
        exact ⟨by simp, E9.out⟩
end Go.Proofs.YtmnghlkkfkpjhaaGreatDoor
