/-
  The order of values: the program's CompareVal, by contract.
-/
import Derived.Test.YtcjipfdancbkgaaCmpVal
namespace Go.Proofs.Ytcjipfdancbkgaa
open Go.ChangeShapes Go.WideShapes Go.ChangeAt Go.RowKit
set_option linter.unusedVariables false

theorem isNaN_any (a : Int) (w : World) : Calls Try.prog 23 #[.int .i64 a] w fun e w' => e = .returned (.bool false) ∧ w' = w := by
  go_enter Try.func23, Try.ntmps23
  go_wp2
  go_ret
  exact ⟨rfl, rfl⟩

theorem cmpInt_any (a b : Int) (w : World) : Calls Try.prog 20 #[.int .i64 a, .int .i64 b] w fun e w' => e = .returned (.int .i64 (cmpI a b)) ∧ w' = w := by
  by_cases h1 : a < b
  · have HS : Hid (cmpI a b = -1) := cmpI_lt h1
    go_enter Try.func20, Try.ntmps20
    go_wp2_with (go_at_call 23; go_must (refine (isNaN_any _ _).mono ?_; rintro e w' ⟨rfl, rfl⟩))
    go_ret
    exact ⟨by rw [HS.out]; rfl, rfl⟩
  by_cases h2 : b < a
  · have HS : Hid (cmpI a b = 1) := cmpI_gt h2
    go_enter Try.func20, Try.ntmps20
    go_wp2_with (go_at_call 23; go_must (refine (isNaN_any _ _).mono ?_; rintro e w' ⟨rfl, rfl⟩))
    go_ret
    exact ⟨by rw [HS.out]; rfl, rfl⟩
  obtain rfl : a = b := by omega
  have HS : Hid (cmpI a a = 0) := cmpI_self a
  go_enter Try.func20, Try.ntmps20
  go_wp2_with (go_at_call 23; go_must (refine (isNaN_any _ _).mono ?_; rintro e w' ⟨rfl, rfl⟩))
  go_ret
  exact ⟨by rw [HS.out]; rfl, rfl⟩

set_option maxRecDepth 100000 in
theorem compareString_any (a b : ByteArray) (w : World) :
    Calls Try.prog 24 #[.string a, .string b] w fun e w' => e = .returned (.int .i64 (cmpS a b)) ∧ w' = w := by
  go_enter Try.func24, Try.ntmps24
  go_wp2
  rw [run_callFunc_extern Try.func25 (by kernel_rfl) (by kernel_rfl) (by kernel_rfl) (e := Extern.BytealgCompare.compare) (by kernel_rfl), Lib.run_compareString]
  simp only [Result.andThen]
  rw [Oper.upon_value]
  go_wp2
  go_ret
  exact ⟨rfl, rfl⟩

theorem stringsCompare_any (a b : ByteArray) (w : World) :
    Calls Try.prog 21 #[.string a, .string b] w fun e w' => e = .returned (.int .i64 (cmpS a b)) ∧ w' = w := by
  go_enter Try.func21, Try.ntmps21
  go_wp2_with (go_at_call 24; go_must (refine (compareString_any _ _ _).mono ?_; rintro e w' ⟨rfl, rfl⟩))
  go_ret
  exact ⟨rfl, rfl⟩

/-- The first of three that is not 0. -/
def or3 (a b c : Int) : Int := if a = 0 then (if b = 0 then c else b) else a

theorem cmpOr_any (a b c : Int) (g : Nat) (w : World) (h0 : w.cell? ⟨g, 0, none⟩ = some (.int .i64 a)) (h1 : w.cell? ⟨g, 1, none⟩ = some (.int .i64 b)) (h2 : w.cell? ⟨g, 2, none⟩ = some (.int .i64 c)) :
    Calls Try.prog 19 #[.slice (some ⟨g, 0, none⟩) 3 3] w fun e w' => e = .returned (.int .i64 (or3 a b c)) ∧ w' = w := by
  go_enter Try.func19, Try.ntmps19
  go_wp2
  go_loopw [8] (fun iv wr => ∃ k : Nat, k ≤ 3 ∧ iv = .int .i64 k ∧ (1 ≤ k → a = 0) ∧ (2 ≤ k → b = 0) ∧ (3 ≤ k → c = 0) ∧ wr = w) (fun iv _ => 3 - (intOf iv).toNat)
  case atStart => exact ⟨0, by omega, rfl, fun h => by omega, fun h => by omega, fun h => by omega, rfl⟩
  case round =>
    obtain ⟨k, hk, rfl, e0, e1, e2, rfl⟩ := hrel
    match k, hk with
    | 0, _ =>
      by_cases hz : a = 0
      · go_wp2
        exact ⟨⟨1, by omega, by go_num, fun _ => hz, fun h => by omega, fun h => by omega, (by first | rfl | trivial)⟩, by simp [intOf]⟩
      · have HS : Hid (or3 a b c = a) := if_neg hz
        go_wp2
        go_ret
        exact ⟨by rw [HS.out]; rfl, rfl⟩
    | 1, _ =>
      have z0 := e0 (by omega)
      by_cases hz : b = 0
      · go_wp2
        exact ⟨⟨2, by omega, by go_num, fun _ => z0, fun _ => hz, fun h => by omega, (by first | rfl | trivial)⟩, by simp [intOf]⟩
      · have HS : Hid (or3 a b c = b) := by show _ = _; unfold or3; rw [if_pos z0, if_neg hz]
        go_wp2
        go_ret
        exact ⟨by rw [HS.out]; rfl, rfl⟩
    | 2, _ =>
      have z0 := e0 (by omega)
      have z1 := e1 (by omega)
      by_cases hz : c = 0
      · go_wp2
        exact ⟨⟨3, by omega, by go_num, fun _ => z0, fun _ => z1, fun _ => hz, (by first | rfl | trivial)⟩, by simp [intOf]⟩
      · have HS : Hid (or3 a b c = c) := by show _ = _; unfold or3; rw [if_pos z0, if_pos z1]
        go_wp2
        go_ret
        exact ⟨by rw [HS.out]; rfl, rfl⟩
    | 3, _ =>
      have HS : Hid (or3 a b c = 0) := by show _ = _; unfold or3; rw [if_pos (e0 (by omega)), if_pos (e1 (by omega)), e2 (by omega)]
      go_wp2
      go_ret
      exact ⟨by rw [HS.out]; rfl, rfl⟩
    | k + 4, hk => omega

/-- A function of two rows and of a function that compares their elements. -/
def OrdF {α : Type} (F G : FuncId) (H : World → Value → α → Prop) (f : α → α → Int) : Prop :=
  ∀ (w : World) (v1 v2 : Value) (x y : α), H w v1 x → H w v2 y → Calls Try.prog F #[v1, v2, .func (.func G) #[] #[]] w fun e w' => e = .returned (.int .i64 (f x y)) ∧ Below w.heap.size w w'

set_option maxHeartbeats 8000000 in
theorem cmpFunc_of {d : Nat} (hE : OrdC 18 (fun w v e => ∃ cs, v = .agg cs.toArray ∧ HVa w All d cs e) (cmpVa d)) :
    OrdF 22 18 (fun w v es => Rows w All 4 (HVa w All d) v es) (cmpL (cmpVa d)) := by
  intro w v1 v2 es fs h1 h2
  obtain ⟨p, cap, rfl, hcl, hcm, hx⟩ := h1
  obtain ⟨q, cap', rfl, hcl', hcm', hy⟩ := h2
  have HB0 : es.length ≤ 9223372036854775807 := by unfold maxLen at hcm; omega
  have HB1 : fs.length ≤ 9223372036854775807 := by unfold maxLen at hcm'; omega
  generalize hm : fs.length = m at *
  have HM : Hid (fs.length = m) := hm
  generalize hn : es.length = n at *
  have HN : Hid (es.length = n) := hn
  have HX : Hid (es ≠ [] → ∃ g off, p = some ⟨g, off, none⟩ ∧ All g ∧ g < w.heap.size ∧ ∀ i x, es[i]? = some x → ∃ cs, cs.length = 4 ∧ (∀ j, j < 4 → w.cell? ⟨g, off + i * 4 + j, none⟩ = cs[j]?) ∧ HVa w All d cs x) := hx
  have HY : Hid (fs ≠ [] → ∃ g off, q = some ⟨g, off, none⟩ ∧ All g ∧ g < w.heap.size ∧ ∀ i x, fs[i]? = some x → ∃ cs, cs.length = 4 ∧ (∀ j, j < 4 → w.cell? ⟨g, off + i * 4 + j, none⟩ = cs[j]?) ∧ HVa w All d cs x) := hy
  clear hm hn hx hy
  go_enter Try.func22, Try.ntmps22
  go_wp2
  go_loopw [13] (fun iv wr => ∃ k : Nat, k ≤ n ∧ k ≤ m ∧ iv = .int .i64 k ∧ Hid (cmpL (cmpVa d) es fs = cmpL (cmpVa d) (es.drop k) (fs.drop k)) ∧ Below w.heap.size w wr) (fun iv _ => n - (intOf iv).toNat)
  case atStart => exact ⟨0, Nat.zero_le _, Nat.zero_le _, rfl, rfl, Below.refl _ _⟩
  case round =>
    obtain ⟨k, hk, hk', rfl, hsame, hb⟩ := hrel
    have HB : Hid (Below w.heap.size w wr) := hb
    by_cases hlt : k < n
    · obtain ⟨x, hxk⟩ : ∃ x, es[k]? = some x := ⟨es[k]'(by rw [HN.out]; exact hlt), List.getElem?_eq_getElem _⟩
      obtain ⟨g, off, rfl, _, hgl, hat⟩ := HX.out (by intro h; rw [h] at hxk; simp at hxk)
      obtain ⟨cs, hcl6, hcs, r1⟩ := hat k x hxk
      have E1 : ∀ w', SameOn All wr w' → HVa w' All d cs x := fun w' hw => r1.mono (SameOn.trans (SameOn.of_below hb) hw) (fun _ h => h)
      obtain ⟨sk, sn, st, p1, n1, q1, rfl⟩ := r1.shape
      have a0 := hcs 0 (by omega)
      have a1 := hcs 1 (by omega)
      have a2 := hcs 2 (by omega)
      have a3 := hcs 3 (by omega)
      rw [← hb.cell (p := ⟨g, _, none⟩) hgl] at a0 a1 a2 a3
      simp at a0 a1 a2 a3
      have hgw : g < wr.heap.size := Nat.lt_of_lt_of_le hgl HB.out.size
      have hki : (k : Int) < (n : Int) := by omega
      have hk0 : (0 : Int) ≤ (k : Int) := by omega
      by_cases hlt' : k < m
      · obtain ⟨y, hyk⟩ : ∃ y, fs[k]? = some y := ⟨fs[k]'(by rw [HM.out]; exact hlt'), List.getElem?_eq_getElem _⟩
        obtain ⟨g', off', rfl, _, hgl', hat'⟩ := HY.out (by intro h; rw [h] at hyk; simp at hyk)
        obtain ⟨cs', hcl6', hcs', r2⟩ := hat' k y hyk
        have E2 : ∀ w', SameOn All wr w' → HVa w' All d cs' y := fun w' hw => r2.mono (SameOn.trans (SameOn.of_below hb) hw) (fun _ h => h)
        obtain ⟨sk', sn', st', p1', n1', q1', rfl⟩ := r2.shape
        have b0 := hcs' 0 (by omega)
        have b1 := hcs' 1 (by omega)
        have b2 := hcs' 2 (by omega)
        have b3 := hcs' 3 (by omega)
        rw [← hb.cell (p := ⟨g', _, none⟩) hgl'] at b0 b1 b2 b3
        simp at b0 b1 b2 b3
        have hgw' : g' < wr.heap.size := Nat.lt_of_lt_of_le hgl' HB.out.size
        have hkm : (k : Int) < (m : Int) := by omega
        clear hb hcs hat hcl6 hcs' hat' hcl6' r1 r2
        have hal : Below wr.heap.size wr ((wr.alloc (.cells #[.int .i64 sk, .int .i64 sn, .string st, .slice p1 n1 q1] 31)).alloc (.cells #[.int .i64 sk', .int .i64 sn', .string st', .slice p1' n1' q1'] 31)) := ((Below.refl _ _).alloc (Nat.le_refl _) _).alloc (by simp) _
        have HA : Hid (Below wr.heap.size wr ((wr.alloc (.cells #[.int .i64 sk, .int .i64 sn, .string st, .slice p1 n1 q1] 31)).alloc (.cells #[.int .i64 sk', .int .i64 sn', .string st', .slice p1' n1' q1'] 31))) := hal
        clear hal
        have HST : Hid (cmpL (cmpVa d) (es.drop k) (fs.drop k) = if cmpVa d x y = 0 then cmpL (cmpVa d) (es.drop (k + 1)) (fs.drop (k + 1)) else cmpVa d x y) := cmpL_step (f := cmpVa d) hxk hyk
        generalize hcv : cmpVa d x y = cv at *
        have HCV : Hid (cmpVa d x y = cv) := hcv
        clear hcv
        by_cases hz : cv = 0
        · go_wp2_with (first | (go_at_call 18; refine (hE _ _ _ x y ⟨_, rfl, E1 _ (SameOn.of_below HA.out)⟩ ⟨_, rfl, E2 _ (SameOn.of_below HA.out)⟩).mono ?_; rintro e w1 ⟨rfl, hb1⟩; rw [HCV.out]; have HB1 : Hid _ := hb1; clear hb1))
          have hbe : Below w.heap.size w w1 := (HB.out.trans (HA.out.mono HB.out.size)).trans (HB1.out.mono (HB.out.trans (HA.out.mono HB.out.size)).size)
          exact ⟨⟨k + 1, by omega, by omega, by go_num, (by show _ = _; rw [hsame.out, HST.out, if_pos hz]), hbe⟩, by simp [intOf]; omega⟩
        · have HS : Hid (cmpL (cmpVa d) es fs = cv) := by show _ = _; rw [hsame.out, HST.out, if_neg hz]
          go_wp2_with (first | (go_at_call 18; refine (hE _ _ _ x y ⟨_, rfl, E1 _ (SameOn.of_below HA.out)⟩ ⟨_, rfl, E2 _ (SameOn.of_below HA.out)⟩).mono ?_; rintro e w1 ⟨rfl, hb1⟩; rw [HCV.out]; have HB1 : Hid _ := hb1; clear hb1))
          go_ret
          have hbe : Below w.heap.size w w1 := (HB.out.trans (HA.out.mono HB.out.size)).trans (HB1.out.mono (HB.out.trans (HA.out.mono HB.out.size)).size)
          exact ⟨by rw [HS.out]; rfl, hbe⟩
      · have HS : Hid (cmpL (cmpVa d) es fs = 1) := by show _ = _; rw [hsame.out]; exact cmpL_endr (by rw [HN.out]; exact hlt) (by rw [HM.out]; omega)
        clear hb hcs hat hcl6 r1
        go_wp2
        go_ret
        exact ⟨by rw [HS.out]; rfl, HB.out.trans (((Below.refl _ _).alloc (Nat.le_refl _) _).mono HB.out.size)⟩
    · by_cases hlt' : k < m
      · have HS : Hid (cmpL (cmpVa d) es fs = -1) := by show _ = _; rw [hsame.out]; exact cmpL_endl (by rw [HN.out]; omega) (by rw [HM.out]; omega)
        clear hb
        go_wp2
        go_ret
        exact ⟨by rw [HS.out]; rfl, HB.out⟩
      · have HS : Hid (cmpL (cmpVa d) es fs = 0) := by show _ = _; rw [hsame.out]; exact cmpL_endb (by rw [HN.out]; omega) (by rw [HM.out]; omega)
        clear hb
        go_wp2
        go_ret
        exact ⟨by rw [HS.out]; rfl, HB.out⟩

theorem cmpVa_or {d : Nat} {kx ky nx ny : Int} {tx ty : ByteArray} {xs ys : List Va} (h : or3 (cmpI kx ky) (cmpI nx ny) (cmpS tx ty) ≠ 0) : cmpVa (d + 1) (.mk kx nx tx xs) (.mk ky ny ty ys) = or3 (cmpI kx ky) (cmpI nx ny) (cmpS tx ty) := by
  show (if cmpI kx ky = 0 then (if cmpI nx ny = 0 then (if cmpS tx ty = 0 then cmpL (cmpVa d) xs ys else cmpS tx ty) else cmpI nx ny) else cmpI kx ky) = _
  unfold or3 at h ⊢
  by_cases h1 : cmpI kx ky = 0
  · rw [if_pos h1] at h ⊢
    rw [if_pos h1]
    by_cases h2 : cmpI nx ny = 0
    · rw [if_pos h2] at h ⊢
      rw [if_pos h2, if_neg h]
    · rw [if_neg h2, if_neg h2]
  · rw [if_neg h1, if_neg h1]
theorem cmpVa_or0 {d : Nat} {kx ky nx ny : Int} {tx ty : ByteArray} {xs ys : List Va} (h : or3 (cmpI kx ky) (cmpI nx ny) (cmpS tx ty) = 0) : cmpVa (d + 1) (.mk kx nx tx xs) (.mk ky ny ty ys) = cmpL (cmpVa d) xs ys := by
  show (if cmpI kx ky = 0 then (if cmpI nx ny = 0 then (if cmpS tx ty = 0 then cmpL (cmpVa d) xs ys else cmpS tx ty) else cmpI nx ny) else cmpI kx ky) = _
  unfold or3 at h
  by_cases h1 : cmpI kx ky = 0
  · rw [if_pos h1] at h
    by_cases h2 : cmpI nx ny = 0
    · rw [if_pos h2] at h
      rw [if_pos h1, if_pos h2, if_pos h]
    · rw [if_neg h2] at h; exact absurd h h2
  · rw [if_neg h1] at h; exact absurd h h1

set_option maxHeartbeats 8000000 in
theorem implCmp_of {d : Nat} (hF : OrdF 22 18 (fun w v es => Rows w All 4 (HVa w All d) v es) (cmpL (cmpVa d))) :
    OrdC 18 (fun w v e => ∃ cs, v = .agg cs.toArray ∧ HVa w All (d + 1) cs e) (cmpVa (d + 1)) := by
  intro w v1 v2 x y i1 i2
  obtain ⟨cs, rfl, kv, rfl, _, _, _, f0⟩ := i1
  obtain ⟨cs, rfl, kv', rfl, _, _, _, f0'⟩ := i2
  obtain ⟨kx, nx, tx, es⟩ := x
  obtain ⟨ky, ny, ty, fs⟩ := y
  simp only [Va.kind, Va.n, Va.text, Va.kids] at *
  have g0 : ∀ w', SameOn All w w' → Rows w' All 4 (HVa w' All d) kv es := fun w' hw => f0.mono hw (fun _ h => h) (fun _ _ _ => HVa.mono hw (fun _ h => h))
  have g0' : ∀ w', SameOn All w w' → Rows w' All 4 (HVa w' All d) kv' fs := fun w' hw => f0'.mono hw (fun _ h => h) (fun _ _ _ => HVa.mono hw (fun _ h => h))
  clear f0 f0'
  obtain ⟨W2, hW2⟩ : ∃ W2, W2 = (w.alloc (.cells #[.int .i64 kx, .int .i64 nx, .string tx, kv] 31)).alloc (.cells #[.int .i64 ky, .int .i64 ny, .string ty, kv'] 31) := ⟨_, rfl⟩
  have bA : Hid (Blk W2 w.heap.size #[.int .i64 kx, .int .i64 nx, .string tx, kv] 31) := by show Blk _ _ _ _; rw [hW2]; exact Blk.new.alloc
  have bB : Hid (Blk W2 (w.heap.size + 1) #[.int .i64 ky, .int .i64 ny, .string ty, kv'] 31) := by
    show Blk _ _ _ _
    rw [hW2]
    have := Blk.new (w := w.alloc (.cells #[.int .i64 kx, .int .i64 nx, .string tx, kv] 31)) (cs := #[.int .i64 ky, .int .i64 ny, .string ty, kv']) (t := 31)
    rwa [alloc_hs] at this
  have HAL : Hid (Below w.heap.size w W2) := by show Below _ _ _; rw [hW2]; exact ((Below.refl _ _).alloc (Nat.le_refl _) _).alloc (by simp) _
  have HW2 : Hid (W2 = (w.alloc (.cells #[.int .i64 kx, .int .i64 nx, .string tx, kv] 31)).alloc (.cells #[.int .i64 ky, .int .i64 ny, .string ty, kv'] 31)) := hW2
  clear hW2
  have a0 := bA.out.cell 0 _ rfl
  have a1 := bA.out.cell 1 _ rfl
  have a2 := bA.out.cell 2 _ rfl
  have a3 := bA.out.cell 3 _ rfl
  have b0 := bB.out.cell 0 _ rfl
  have b1 := bB.out.cell 1 _ rfl
  have b2 := bB.out.cell 2 _ rfl
  have b3 := bB.out.cell 3 _ rfl
  generalize ho : or3 (cmpI kx ky) (cmpI nx ny) (cmpS tx ty) = o
  have HO : Hid (or3 (cmpI kx ky) (cmpI nx ny) (cmpS tx ty) = o) := ho
  by_cases hz : o = 0
  · have HS : Hid (cmpVa (d + 1) (.mk kx nx tx es) (.mk ky ny ty fs) = cmpL (cmpVa d) es fs) := cmpVa_or0 (ho.trans hz)
    clear ho
    go_enter Try.func18, Try.ntmps18
    go_wp2_with fail
    rw [← HW2.out]
    go_region_held3 (fun w' => w'.cell? ⟨w.heap.size, 0, none⟩ = some (.int .i64 kx) ∧ w'.cell? ⟨w.heap.size, 1, none⟩ = some (.int .i64 nx) ∧ w'.cell? ⟨w.heap.size, 2, none⟩ = some (.string tx) ∧ w'.cell? ⟨w.heap.size + 1, 0, none⟩ = some (.int .i64 ky) ∧ w'.cell? ⟨w.heap.size + 1, 1, none⟩ = some (.int .i64 ny) ∧ w'.cell? ⟨w.heap.size + 1, 2, none⟩ = some (.string ty))
      (first | go_keep)
      (first
        | (go_at_call 20; refine (cmpInt_any _ _ _).mono ?_; rintro e w' ⟨rfl, rfl⟩)
        | (go_at_call 21; refine (stringsCompare_any _ _ _).mono ?_; rintro e w' ⟨rfl, rfl⟩)
        | (go_at_call 19; refine (cmpOr_any (cmpI kx ky) (cmpI nx ny) (cmpS tx ty) _ _ (by exact cell_new _ _ _ 0 _ rfl) (by exact cell_new _ _ _ 1 _ rfl) (by exact cell_new _ _ _ 2 _ rfl)).mono ?_; rintro e w' ⟨rfl, rfl⟩; rw [HO.out]))
    go_split_ands
    have K3 : Below W2.heap.size W2 ((W2.alloc (.cells #[.int .i64 (cmpI kx ky), .int .i64 (cmpI nx ny), .int .i64 (cmpS tx ty)] 3)).drew) := ((Below.refl _ _).alloc (Nat.le_refl _) _).drew
    generalize ((W2.alloc (.cells #[.int .i64 (cmpI kx ky), .int .i64 (cmpI nx ny), .int .i64 (cmpS tx ty)] 3)).drew) = W3 at *
    have HB3 : Hid (Below w.heap.size w W3) := HAL.out.trans (K3.mono HAL.out.size)
    have c3 := (bA.out.next K3).cell 3 _ rfl
    have e3 := (bB.out.next K3).cell 3 _ rfl
    clear K3 a0 a1 a2 a3 b0 b1 b2 b3
    subst hz
    go_wp2_with (first | (go_at_call 22; refine (hF _ _ _ es fs (g0 _ (SameOn.of_below HB3.out)) (g0' _ (SameOn.of_below HB3.out))).mono ?_; rintro e w4 ⟨rfl, hb4⟩; have HB4 : Hid (Below W3.heap.size W3 w4) := hb4; clear hb4))
    go_ret
    exact ⟨by rw [HS.out]; rfl, HB3.out.trans (HB4.out.mono HB3.out.size)⟩
  · have HS : Hid (cmpVa (d + 1) (.mk kx nx tx es) (.mk ky ny ty fs) = o) := by show _ = _; rw [cmpVa_or (by rw [ho]; exact hz), ho]
    clear ho
    go_enter Try.func18, Try.ntmps18
    go_wp2_with fail
    rw [← HW2.out]
    go_region_held3 (fun w' => w'.cell? ⟨w.heap.size, 0, none⟩ = some (.int .i64 kx) ∧ w'.cell? ⟨w.heap.size, 1, none⟩ = some (.int .i64 nx) ∧ w'.cell? ⟨w.heap.size, 2, none⟩ = some (.string tx) ∧ w'.cell? ⟨w.heap.size + 1, 0, none⟩ = some (.int .i64 ky) ∧ w'.cell? ⟨w.heap.size + 1, 1, none⟩ = some (.int .i64 ny) ∧ w'.cell? ⟨w.heap.size + 1, 2, none⟩ = some (.string ty))
      (first | go_keep)
      (first
        | (go_at_call 20; refine (cmpInt_any _ _ _).mono ?_; rintro e w' ⟨rfl, rfl⟩)
        | (go_at_call 21; refine (stringsCompare_any _ _ _).mono ?_; rintro e w' ⟨rfl, rfl⟩)
        | (go_at_call 19; refine (cmpOr_any (cmpI kx ky) (cmpI nx ny) (cmpS tx ty) _ _ (by exact cell_new _ _ _ 0 _ rfl) (by exact cell_new _ _ _ 1 _ rfl) (by exact cell_new _ _ _ 2 _ rfl)).mono ?_; rintro e w' ⟨rfl, rfl⟩; rw [HO.out]))
    go_split_ands
    have K3 : Below W2.heap.size W2 ((W2.alloc (.cells #[.int .i64 (cmpI kx ky), .int .i64 (cmpI nx ny), .int .i64 (cmpS tx ty)] 3)).drew) := ((Below.refl _ _).alloc (Nat.le_refl _) _).drew
    generalize ((W2.alloc (.cells #[.int .i64 (cmpI kx ky), .int .i64 (cmpI nx ny), .int .i64 (cmpS tx ty)] 3)).drew) = W3 at *
    have HB3 : Hid (Below w.heap.size w W3) := HAL.out.trans (K3.mono HAL.out.size)
    clear K3 a0 a1 a2 a3 b0 b1 b2 b3
    go_wp2
    go_ret
    exact ⟨by rw [HS.out]; rfl, HB3.out⟩

/-- THE PROGRAM's CompareVal. -/
theorem implCmp_all : ∀ d, OrdC 18 (fun w v e => ∃ cs, v = .agg cs.toArray ∧ HVa w All d cs e) (cmpVa d)
  | 0 => fun w v v' x y ⟨_, _, h⟩ _ => h.elim
  | d + 1 => implCmp_of (cmpFunc_of (implCmp_all d))
end Go.Proofs.Ytcjipfdancbkgaa
