/-
  The order of values: the specification's CompareVal, by contract.
-/
import Derived.Test.YtcjipfdancbkgaaValTree
import Derived.Lib.Bytealg
import Derived.Laws.Cover1
namespace Go.Proofs.Ytcjipfdancbkgaa
open Go.ChangeShapes Go.WideShapes Go.ChangeAt Go.RowKit
set_option linter.unusedVariables false

def cmpI (a b : Int) : Int := if a < b then -1 else if b < a then 1 else 0
def cmpS (a b : ByteArray) : Int := Lib.compareBytes a.data.toList b.data.toList
def cmpL {α : Type} (f : α → α → Int) : List α → List α → Int
  | [], [] => 0
  | [], _ :: _ => -1
  | _ :: _, [] => 1
  | x :: xs, y :: ys => if f x y = 0 then cmpL f xs ys else f x y
def cmpVa : Nat → Va → Va → Int
  | 0, _, _ => 0
  | d + 1, a, b => if cmpI a.kind b.kind = 0 then (if cmpI a.n b.n = 0 then (if cmpS a.text b.text = 0 then cmpL (cmpVa d) a.kids b.kids else cmpS a.text b.text) else cmpI a.n b.n) else cmpI a.kind b.kind

theorem cmpI_lt {a b : Int} (h : a < b) : cmpI a b = -1 := if_pos h
theorem cmpI_gt {a b : Int} (h : b < a) : cmpI a b = 1 := by unfold cmpI; rw [if_neg (by omega), if_pos h]
theorem cmpI_self (a : Int) : cmpI a a = 0 := by unfold cmpI; rw [if_neg (by omega), if_neg (by omega)]

theorem compare_lt : ∀ {a b : List UInt8}, Op.bytesLess a b = true → Lib.compareBytes a b = -1
  | [], [], h => by simp [Op.bytesLess] at h
  | _ :: _, [], h => by simp [Op.bytesLess] at h
  | [], _ :: _, _ => rfl
  | x :: a, y :: b, h => by
    simp only [Op.bytesLess, Bool.or_eq_true, decide_eq_true_eq, Bool.and_eq_true, beq_iff_eq] at h
    unfold Lib.compareBytes
    rcases h with h | ⟨rfl, h⟩
    · rw [if_pos h]
    · rw [if_neg (UInt8.lt_irrefl _), if_neg (UInt8.lt_irrefl _)]; exact compare_lt h
theorem compare_self : ∀ (a : List UInt8), Lib.compareBytes a a = 0
  | [] => rfl
  | x :: a => by unfold Lib.compareBytes; rw [if_neg (UInt8.lt_irrefl _), if_neg (UInt8.lt_irrefl _)]; exact compare_self a
theorem compare_gt : ∀ {a b : List UInt8}, Op.bytesLess a b = false → a ≠ b → Lib.compareBytes a b = 1
  | [], [], _, h => absurd rfl h
  | _ :: _, [], _, _ => rfl
  | [], _ :: _, h, _ => by simp [Op.bytesLess] at h
  | x :: a, y :: b, h, hne => by
    simp only [Op.bytesLess, Bool.or_eq_false_iff, decide_eq_false_iff_not, Bool.and_eq_false_iff, beq_eq_false_iff_ne] at h
    unfold Lib.compareBytes
    rw [if_neg h.1]
    by_cases hxy : x = y
    · subst hxy
      rw [if_neg (UInt8.lt_irrefl _)]
      rcases h.2 with h2 | h2
      · exact absurd rfl h2
      · exact compare_gt h2 (fun e => hne (by rw [e]))
    · have : y < x := by
        rw [UInt8.lt_iff_toNat_lt] at h ⊢
        have : x.toNat ≠ y.toNat := fun e => hxy (UInt8.toNat_inj.1 e)
        omega
      rw [if_pos this]
theorem cmpS_lt {a b : ByteArray} (h : Op.bytesLess a.toList b.toList = true) : cmpS a b = -1 := by
  unfold cmpS; rw [ByteArray.toList_eq, ByteArray.toList_eq] at h; exact compare_lt h
theorem cmpS_gt {a b : ByteArray} (h : Op.bytesLess a.toList b.toList = false) (hne : a ≠ b) : cmpS a b = 1 := by
  unfold cmpS; rw [ByteArray.toList_eq, ByteArray.toList_eq] at h; exact compare_gt h (fun e => hne (bytes_inj e))
theorem cmpS_self (a : ByteArray) : cmpS a a = 0 := compare_self _
theorem bytesLess_self : ∀ (a : List UInt8), Op.bytesLess a a = false
  | [] => rfl
  | x :: a => by simp [Op.bytesLess, bytesLess_self a]

theorem cmpL_step {α : Type} {f : α → α → Int} {xs ys : List α} {k : Nat} {x y : α} (hx : xs[k]? = some x) (hy : ys[k]? = some y) :
    cmpL f (xs.drop k) (ys.drop k) = if f x y = 0 then cmpL f (xs.drop (k + 1)) (ys.drop (k + 1)) else f x y := by
  obtain ⟨h1, rfl⟩ := List.getElem?_eq_some_iff.1 hx
  obtain ⟨h2, rfl⟩ := List.getElem?_eq_some_iff.1 hy
  rw [List.drop_eq_getElem_cons h1, List.drop_eq_getElem_cons h2]
  rfl
theorem cmpL_endl {α : Type} {f : α → α → Int} {xs ys : List α} {k : Nat} (h1 : xs.length ≤ k) (h2 : k < ys.length) : cmpL f (xs.drop k) (ys.drop k) = -1 := by
  rw [List.drop_of_length_le h1, List.drop_eq_getElem_cons h2]; rfl
theorem cmpL_endr {α : Type} {f : α → α → Int} {xs ys : List α} {k : Nat} (h1 : k < xs.length) (h2 : ys.length ≤ k) : cmpL f (xs.drop k) (ys.drop k) = 1 := by
  rw [List.drop_of_length_le h2, List.drop_eq_getElem_cons h1]; rfl
theorem cmpL_endb {α : Type} {f : α → α → Int} {xs ys : List α} {k : Nat} (h1 : xs.length ≤ k) (h2 : ys.length ≤ k) : cmpL f (xs.drop k) (ys.drop k) = 0 := by
  rw [List.drop_of_length_le h2, List.drop_of_length_le h1]; rfl

/-- A function of two values that answers a number. -/
def OrdC {α : Type} (F : FuncId) (H : World → Value → α → Prop) (f : α → α → Int) : Prop :=
  ∀ (w : World) (v1 v2 : Value) (x y : α), H w v1 x → H w v2 y → Calls Try.prog F #[v1, v2] w fun e w' => e = .returned (.int .i64 (f x y)) ∧ Below w.heap.size w w'

theorem cmpVa_k1 {d : Nat} {kx ky nx ny : Int} {tx ty : ByteArray} {xs ys : List Va} (h : kx < ky) : cmpVa (d + 1) (.mk kx nx tx xs) (.mk ky ny ty ys) = -1 := by
  simp only [cmpVa, Va.kind, Va.n, Va.text, Va.kids, cmpI_lt h]; rfl
theorem cmpVa_k2 {d : Nat} {kx ky nx ny : Int} {tx ty : ByteArray} {xs ys : List Va} (h : ky < kx) : cmpVa (d + 1) (.mk kx nx tx xs) (.mk ky ny ty ys) = 1 := by
  simp only [cmpVa, Va.kind, Va.n, Va.text, Va.kids, cmpI_gt h]; rfl
theorem cmpVa_n1 {d : Nat} {kx nx ny : Int} {tx ty : ByteArray} {xs ys : List Va} (h : nx < ny) : cmpVa (d + 1) (.mk kx nx tx xs) (.mk kx ny ty ys) = -1 := by
  simp only [cmpVa, Va.kind, Va.n, Va.text, Va.kids, cmpI_lt h, cmpI_self]; rfl
theorem cmpVa_n2 {d : Nat} {kx nx ny : Int} {tx ty : ByteArray} {xs ys : List Va} (h : ny < nx) : cmpVa (d + 1) (.mk kx nx tx xs) (.mk kx ny ty ys) = 1 := by
  simp only [cmpVa, Va.kind, Va.n, Va.text, Va.kids, cmpI_gt h, cmpI_self]; rfl
theorem cmpVa_t1 {d : Nat} {kx nx : Int} {tx ty : ByteArray} {xs ys : List Va} (h : Op.bytesLess tx.toList ty.toList = true) : cmpVa (d + 1) (.mk kx nx tx xs) (.mk kx nx ty ys) = -1 := by
  simp only [cmpVa, Va.kind, Va.n, Va.text, Va.kids, cmpI_self, cmpS_lt h]; rfl
theorem cmpVa_t2 {d : Nat} {kx nx : Int} {tx ty : ByteArray} {xs ys : List Va} (h : Op.bytesLess tx.toList ty.toList = false) (hne : tx ≠ ty) : cmpVa (d + 1) (.mk kx nx tx xs) (.mk kx nx ty ys) = 1 := by
  simp only [cmpVa, Va.kind, Va.n, Va.text, Va.kids, cmpI_self, cmpS_gt h hne]; rfl
theorem cmpVa_l {d : Nat} {kx nx : Int} {tx : ByteArray} {xs ys : List Va} : cmpVa (d + 1) (.mk kx nx tx xs) (.mk kx nx tx ys) = cmpL (cmpVa d) xs ys := by
  simp only [cmpVa, Va.kind, Va.n, Va.text, Va.kids, cmpI_self, cmpS_self, if_true]

set_option maxHeartbeats 8000000 in
theorem specCmp_of {d : Nat} (hE : OrdC 11 (fun w v e => ∃ cs, v = .agg cs.toArray ∧ HVa w All d cs e) (cmpVa d)) :
    OrdC 11 (fun w v e => ∃ cs, v = .agg cs.toArray ∧ HVa w All (d + 1) cs e) (cmpVa (d + 1)) := by
  intro w v1 v2 x y i1 i2
  obtain ⟨cs, rfl, kv, rfl, _, _, _, f0⟩ := i1
  obtain ⟨cs, rfl, kv', rfl, _, _, _, f0'⟩ := i2
  obtain ⟨kx, nx, tx, es⟩ := x
  obtain ⟨ky, ny, ty, fs⟩ := y
  simp only [Va.kind, Va.n, Va.text, Va.kids] at *
  obtain ⟨p, cap, rfl, hcl, hcm, hx⟩ := f0
  obtain ⟨q, cap', rfl, hcl', hcm', hy⟩ := f0'
  have HB0 : es.length ≤ 9223372036854775807 := by unfold maxLen at hcm; omega
  have HB1 : fs.length ≤ 9223372036854775807 := by unfold maxLen at hcm'; omega
  generalize hm : fs.length = m at *
  have HM : Hid (fs.length = m) := hm
  generalize hn : es.length = n at *
  have HN : Hid (es.length = n) := hn
  have HX : Hid (es ≠ [] → ∃ g off, p = some ⟨g, off, none⟩ ∧ All g ∧ g < w.heap.size ∧ ∀ i x, es[i]? = some x → ∃ cs, cs.length = 4 ∧ (∀ j, j < 4 → w.cell? ⟨g, off + i * 4 + j, none⟩ = cs[j]?) ∧ HVa w All d cs x) := hx
  have HY : Hid (fs ≠ [] → ∃ g off, q = some ⟨g, off, none⟩ ∧ All g ∧ g < w.heap.size ∧ ∀ i x, fs[i]? = some x → ∃ cs, cs.length = 4 ∧ (∀ j, j < 4 → w.cell? ⟨g, off + i * 4 + j, none⟩ = cs[j]?) ∧ HVa w All d cs x) := hy
  clear hm hn hx hy
  by_cases k1 : kx < ky
  · have HS : Hid (cmpVa (d + 1) (.mk kx nx tx es) (.mk ky ny ty fs) = -1) := cmpVa_k1 k1
    go_enter Try.func11, Try.ntmps11
    go_wp2
    go_ret
    exact ⟨by rw [HS.out]; rfl, ((Below.refl _ _).alloc (Nat.le_refl _) _).alloc (by simp) _⟩
  by_cases k2 : ky < kx
  · have HS : Hid (cmpVa (d + 1) (.mk kx nx tx es) (.mk ky ny ty fs) = 1) := cmpVa_k2 k2
    go_enter Try.func11, Try.ntmps11
    go_wp2
    go_ret
    exact ⟨by rw [HS.out]; rfl, ((Below.refl _ _).alloc (Nat.le_refl _) _).alloc (by simp) _⟩
  obtain rfl : kx = ky := by omega
  by_cases n1 : nx < ny
  · have HS : Hid (cmpVa (d + 1) (.mk kx nx tx es) (.mk kx ny ty fs) = -1) := cmpVa_n1 n1
    go_enter Try.func11, Try.ntmps11
    go_wp2
    go_ret
    exact ⟨by rw [HS.out]; rfl, ((Below.refl _ _).alloc (Nat.le_refl _) _).alloc (by simp) _⟩
  by_cases n2 : ny < nx
  · have HS : Hid (cmpVa (d + 1) (.mk kx nx tx es) (.mk kx ny ty fs) = 1) := cmpVa_n2 n2
    go_enter Try.func11, Try.ntmps11
    go_wp2
    go_ret
    exact ⟨by rw [HS.out]; rfl, ((Below.refl _ _).alloc (Nat.le_refl _) _).alloc (by simp) _⟩
  obtain rfl : nx = ny := by omega
  by_cases t1 : Op.bytesLess tx.toList ty.toList = true
  · have HS : Hid (cmpVa (d + 1) (.mk kx nx tx es) (.mk kx nx ty fs) = -1) := cmpVa_t1 t1
    go_enter Try.func11, Try.ntmps11
    go_wp2
    go_ret
    exact ⟨by rw [HS.out]; rfl, ((Below.refl _ _).alloc (Nat.le_refl _) _).alloc (by simp) _⟩
  replace t1 : Op.bytesLess tx.toList ty.toList = false := by simpa using t1
  by_cases t2 : tx = ty
  · subst t2
    have HL : Hid (cmpVa (d + 1) (.mk kx nx tx es) (.mk kx nx tx fs) = cmpL (cmpVa d) es fs) := cmpVa_l
    obtain ⟨W2, hW2⟩ : ∃ W2, W2 = (w.alloc (.cells #[.int .i64 kx, .int .i64 nx, .string tx, .slice p n cap] 31)).alloc (.cells #[.int .i64 kx, .int .i64 nx, .string tx, .slice q m cap'] 31) := ⟨_, rfl⟩
    have bA : Hid (Blk W2 w.heap.size #[.int .i64 kx, .int .i64 nx, .string tx, .slice p n cap] 31) := by show Blk _ _ _ _; rw [hW2]; exact Blk.new.alloc
    have bB : Hid (Blk W2 (w.heap.size + 1) #[.int .i64 kx, .int .i64 nx, .string tx, .slice q m cap'] 31) := by
      show Blk _ _ _ _
      rw [hW2]
      have := Blk.new (w := w.alloc (.cells #[.int .i64 kx, .int .i64 nx, .string tx, .slice p n cap] 31)) (cs := #[.int .i64 kx, .int .i64 nx, .string tx, .slice q m cap']) (t := 31)
      rwa [alloc_hs] at this
    have HAL : Hid (Below w.heap.size w W2) := by show Below _ _ _; rw [hW2]; exact ((Below.refl _ _).alloc (Nat.le_refl _) _).alloc (by simp) _
    have HW2 : Hid (W2 = (w.alloc (.cells #[.int .i64 kx, .int .i64 nx, .string tx, .slice p n cap] 31)).alloc (.cells #[.int .i64 kx, .int .i64 nx, .string tx, .slice q m cap'] 31)) := hW2
    clear hW2
    go_enter Try.func11, Try.ntmps11
    go_wp2
    rw [← HW2.out]
    go_loopw [5] (fun iv wr => ∃ k : Nat, k ≤ n ∧ k ≤ m ∧ iv = .int .i64 k ∧ Hid (cmpL (cmpVa d) es fs = cmpL (cmpVa d) (es.drop k) (fs.drop k)) ∧ Hid (SameOn All W2 wr) ∧ Below w.heap.size w wr) (fun iv _ => n - (intOf iv).toNat)
    case atStart => exact ⟨0, Nat.zero_le _, Nat.zero_le _, rfl, rfl, ⟨Nat.le_refl _, fun _ _ _ => rfl⟩, HAL.out⟩
    case round =>
      obtain ⟨k, hk, hk', rfl, hsame, hso, hb⟩ := hrel
      have HB : Hid (Below w.heap.size w wr) := hb
      have b1 := bA.out.same_on hso.out
      have b2 := bB.out.same_on hso.out
      have xa := b1.cell 3 _ rfl
      have xb := b2.cell 3 _ rfl
      have hzA := b1.lt
      have hzB := b2.lt
      clear b1 b2
      by_cases hlt : k < n
      · by_cases hlt' : k < m
        · obtain ⟨x, hxk⟩ : ∃ x, es[k]? = some x := ⟨es[k]'(by rw [HN.out]; exact hlt), List.getElem?_eq_getElem _⟩
          obtain ⟨y, hyk⟩ : ∃ y, fs[k]? = some y := ⟨fs[k]'(by rw [HM.out]; exact hlt'), List.getElem?_eq_getElem _⟩
          obtain ⟨g, off, rfl, _, hgl, hat⟩ := HX.out (by intro h; rw [h] at hxk; simp at hxk)
          obtain ⟨g', off', rfl, _, hgl', hat'⟩ := HY.out (by intro h; rw [h] at hyk; simp at hyk)
          obtain ⟨cs, hcl6, hcs, r1⟩ := hat k x hxk
          obtain ⟨cs', hcl6', hcs', r2⟩ := hat' k y hyk
          have E1 : ∀ w', SameOn All wr w' → HVa w' All d cs x := fun w' hw => r1.mono (SameOn.trans (SameOn.of_below hb) hw) (fun _ h => h)
          have E2 : ∀ w', SameOn All wr w' → HVa w' All d cs' y := fun w' hw => r2.mono (SameOn.trans (SameOn.of_below hb) hw) (fun _ h => h)
          obtain ⟨c0, c1, c2, c3, rfl⟩ := len4 hcl6
          obtain ⟨d0, d1, d2, d3, rfl⟩ := len4 hcl6'
          have a0 := hcs 0 (by omega)
          have a1 := hcs 1 (by omega)
          have a2 := hcs 2 (by omega)
          have a3 := hcs 3 (by omega)
          have b0 := hcs' 0 (by omega)
          have b1 := hcs' 1 (by omega)
          have b2 := hcs' 2 (by omega)
          have b3 := hcs' 3 (by omega)
          rw [← hb.cell (p := ⟨g, _, none⟩) hgl] at a0 a1 a2 a3
          rw [← hb.cell (p := ⟨g', _, none⟩) hgl'] at b0 b1 b2 b3
          simp at a0 a1 a2 a3 b0 b1 b2 b3
          have hgw : g < wr.heap.size := Nat.lt_of_lt_of_le hgl HB.out.size
          have hgw' : g' < wr.heap.size := Nat.lt_of_lt_of_le hgl' HB.out.size
          clear hb hcs hat hcl6 hcs' hat' hcl6' r1 r2
          have hki : (k : Int) < (n : Int) := by omega
          have hkm : (k : Int) < (m : Int) := by omega
          have hk0 : (0 : Int) ≤ (k : Int) := by omega
          have qxa : ∀ m' : Wd (fun w' => SameOn All wr w' ∧ Below w.heap.size w w'), m'.val.cell? ⟨w.heap.size, 3, none⟩ = some (.slice (some ⟨g, off, none⟩) n cap) := fun m' => (World.cell?_of_block (m'.ok.1.2 w.heap.size trivial hzA)).trans xa
          have qxb : ∀ m' : Wd (fun w' => SameOn All wr w' ∧ Below w.heap.size w w'), m'.val.cell? ⟨w.heap.size + 1, 3, none⟩ = some (.slice (some ⟨g', off', none⟩) m cap') := fun m' => (World.cell?_of_block (m'.ok.1.2 (w.heap.size + 1) trivial hzB)).trans xb
          have qa0 : ∀ m' : Wd (fun w' => SameOn All wr w' ∧ Below w.heap.size w w'), m'.val.cell? ⟨g, off + k * 4, none⟩ = some c0 := fun m' => (World.cell?_of_block (m'.ok.1.2 g trivial hgw)).trans a0
          have qa1 : ∀ m' : Wd (fun w' => SameOn All wr w' ∧ Below w.heap.size w w'), m'.val.cell? ⟨g, off + k * 4 + 1, none⟩ = some c1 := fun m' => (World.cell?_of_block (m'.ok.1.2 g trivial hgw)).trans a1
          have qa2 : ∀ m' : Wd (fun w' => SameOn All wr w' ∧ Below w.heap.size w w'), m'.val.cell? ⟨g, off + k * 4 + 2, none⟩ = some c2 := fun m' => (World.cell?_of_block (m'.ok.1.2 g trivial hgw)).trans a2
          have qa3 : ∀ m' : Wd (fun w' => SameOn All wr w' ∧ Below w.heap.size w w'), m'.val.cell? ⟨g, off + k * 4 + 3, none⟩ = some c3 := fun m' => (World.cell?_of_block (m'.ok.1.2 g trivial hgw)).trans a3
          have qb0 : ∀ m' : Wd (fun w' => SameOn All wr w' ∧ Below w.heap.size w w'), m'.val.cell? ⟨g', off' + k * 4, none⟩ = some d0 := fun m' => (World.cell?_of_block (m'.ok.1.2 g' trivial hgw')).trans b0
          have qb1 : ∀ m' : Wd (fun w' => SameOn All wr w' ∧ Below w.heap.size w w'), m'.val.cell? ⟨g', off' + k * 4 + 1, none⟩ = some d1 := fun m' => (World.cell?_of_block (m'.ok.1.2 g' trivial hgw')).trans b1
          have qb2 : ∀ m' : Wd (fun w' => SameOn All wr w' ∧ Below w.heap.size w w'), m'.val.cell? ⟨g', off' + k * 4 + 2, none⟩ = some d2 := fun m' => (World.cell?_of_block (m'.ok.1.2 g' trivial hgw')).trans b2
          have qb3 : ∀ m' : Wd (fun w' => SameOn All wr w' ∧ Below w.heap.size w w'), m'.val.cell? ⟨g', off' + k * 4 + 3, none⟩ = some d3 := fun m' => (World.cell?_of_block (m'.ok.1.2 g' trivial hgw')).trans b3
          have hst := cmpL_step (f := cmpVa d) hxk hyk
          have HST : Hid (cmpL (cmpVa d) (es.drop k) (fs.drop k) = if cmpVa d x y = 0 then cmpL (cmpVa d) (es.drop (k + 1)) (fs.drop (k + 1)) else cmpVa d x y) := hst
          clear hst
          generalize hcv : cmpVa d x y = cv at *
          have HCV : Hid (cmpVa d x y = cv) := hcv
          clear hcv
          by_cases hz : cv = 0
          · go_wp2
            have hCne : Nonempty (Wd (fun w' => SameOn All wr w' ∧ Below w.heap.size w w')) := ⟨⟨wr.drew, ⟨⟨Nat.le_refl _, fun _ _ _ => rfl⟩, HB.out.drew⟩⟩⟩
            refine wp_region_class (fun w' => SameOn All wr w' ∧ Below w.heap.size w w') (by kernel_rfl) (by kernel_rfl) ⟨⟨Nat.le_refl _, fun _ _ _ => rfl⟩, HB.out.drew⟩ ?_
            repeat (go_big_quiet_step (first | (rename_i m'; go_at_call 11; refine (hE _ _ _ x y ⟨_, rfl, E1 _ m'.ok.1⟩ ⟨_, rfl, E2 _ m'.ok.1⟩).mono ?_; rintro e w1 ⟨rfl, hb1⟩; exact ⟨by rw [HCV.out], ⟨⟨w1, ⟨(SameOn.trans m'.ok.1 (SameOn.of_below hb1)), m'.ok.2.trans (hb1.mono m'.ok.2.size)⟩⟩, rfl⟩⟩)))
            refine wpQuiet_nil ?_
            rintro _ ⟨mq, rfl⟩
            have hbe := mq.ok.2
            have hse := mq.ok.1
            generalize mq.val = wq at hbe hse ⊢
            go_wp2
            exact ⟨⟨k + 1, by omega, by omega, by go_num, (by show _ = _; rw [hsame.out, HST.out, if_pos hz]), hso.out.trans hse, hbe⟩, by simp [intOf]; omega⟩
          · have HS : Hid (cmpVa (d + 1) (.mk kx nx tx es) (.mk kx nx tx fs) = cv) := by show _ = _; rw [HL.out, hsame.out, HST.out, if_neg hz]
            go_wp2
            have hCne : Nonempty (Wd (fun w' => SameOn All wr w' ∧ Below w.heap.size w w')) := ⟨⟨wr.drew, ⟨⟨Nat.le_refl _, fun _ _ _ => rfl⟩, HB.out.drew⟩⟩⟩
            refine wp_region_class (fun w' => SameOn All wr w' ∧ Below w.heap.size w w') (by kernel_rfl) (by kernel_rfl) ⟨⟨Nat.le_refl _, fun _ _ _ => rfl⟩, HB.out.drew⟩ ?_
            repeat (go_big_quiet_step (first | (rename_i m'; go_at_call 11; refine (hE _ _ _ x y ⟨_, rfl, E1 _ m'.ok.1⟩ ⟨_, rfl, E2 _ m'.ok.1⟩).mono ?_; rintro e w1 ⟨rfl, hb1⟩; exact ⟨by rw [HCV.out], ⟨⟨w1, ⟨(SameOn.trans m'.ok.1 (SameOn.of_below hb1)), m'.ok.2.trans (hb1.mono m'.ok.2.size)⟩⟩, rfl⟩⟩)))
            refine wpQuiet_nil ?_
            rintro _ ⟨mq, rfl⟩
            have hbe := mq.ok.2
            have hse := mq.ok.1
            generalize mq.val = wq at hbe hse ⊢
            go_wp2
            go_ret
            exact ⟨by rw [HS.out]; rfl, hbe⟩
        · have HS : Hid (cmpVa (d + 1) (.mk kx nx tx es) (.mk kx nx tx fs) = 1) := by show _ = _; rw [HL.out, hsame.out]; exact cmpL_endr (by rw [HN.out]; exact hlt) (by rw [HM.out]; omega)
          clear hb
          go_wp2
          go_ret
          exact ⟨by rw [HS.out]; rfl, HB.out⟩
      · by_cases hlt' : k < m
        · have HS : Hid (cmpVa (d + 1) (.mk kx nx tx es) (.mk kx nx tx fs) = -1) := by show _ = _; rw [HL.out, hsame.out]; exact cmpL_endl (by rw [HN.out]; omega) (by rw [HM.out]; omega)
          clear hb
          go_wp2
          go_ret
          exact ⟨by rw [HS.out]; rfl, HB.out⟩
        · have HS : Hid (cmpVa (d + 1) (.mk kx nx tx es) (.mk kx nx tx fs) = 0) := by show _ = _; rw [HL.out, hsame.out]; exact cmpL_endb (by rw [HN.out]; omega) (by rw [HM.out]; omega)
          clear hb
          go_wp2
          go_ret
          exact ⟨by rw [HS.out]; rfl, HB.out⟩
  · have HS : Hid (cmpVa (d + 1) (.mk kx nx tx es) (.mk kx nx ty fs) = 1) := cmpVa_t2 t1 t2
    have hq1 := str_ne t2
    have hq2 := str_neB t2
    go_enter Try.func11, Try.ntmps11
    go_wp2
    go_ret
    exact ⟨by rw [HS.out]; rfl, ((Below.refl _ _).alloc (Nat.le_refl _) _).alloc (by simp) _⟩

/-- THE SPECIFICATION's CompareVal. -/
theorem specCmp_all : ∀ d, OrdC 11 (fun w v e => ∃ cs, v = .agg cs.toArray ∧ HVa w All d cs e) (cmpVa d)
  | 0 => fun w v v' x y ⟨_, _, h⟩ _ => h.elim
  | d + 1 => specCmp_of (specCmp_all d)
end Go.Proofs.Ytcjipfdancbkgaa
