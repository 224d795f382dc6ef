/-
  Texts of the proof, packed: CmpVal, ValOrd, ValWt, Own, OVaDef.
-/
import Derived.Test.YtmnghlkkfkpjhaaGreatDoorPackA
import Derived.Lib.Bytealg
import Derived.Laws.Cover1
/-
  The order of values: the specification's CompareVal, by contract.
-/
namespace Go.Proofs.YtmnghlkkfkpjhaaGreatDoor
open Go.ChangeShapes Go.WideShapes Go.ChangeAt Go.RowKit
set_option linter.unusedVariables false

def cmpI (a b : Int) : Int := if a < b then -1 else if b < a then 1 else 0
def cmpS (a b : ByteArray) : Int := Lib.compareBytes a.data.toList b.data.toList
def cmpL {α : Type} (f : α → α → Int) : List α → List α → Int
  | [], [] => 0
  | [], _ :: _ => -1
  | _ :: _, [] => 1
  | x :: xs, y :: ys => if f x y = 0 then cmpL f xs ys else f x y
def cmpVa : Nat → Va → Va → Int
  | 0, _, _ => 0
  | d + 1, a, b => if cmpI a.kind b.kind = 0 then (if cmpI a.n b.n = 0 then (if cmpS a.text b.text = 0 then cmpL (cmpVa d) a.kids b.kids else cmpS a.text b.text) else cmpI a.n b.n) else cmpI a.kind b.kind

theorem cmpI_lt {a b : Int} (h : a < b) : cmpI a b = -1 := if_pos h
theorem cmpI_gt {a b : Int} (h : b < a) : cmpI a b = 1 := by unfold cmpI; rw [if_neg (by omega), if_pos h]
theorem cmpI_self (a : Int) : cmpI a a = 0 := by unfold cmpI; rw [if_neg (by omega), if_neg (by omega)]

theorem compare_lt : ∀ {a b : List UInt8}, Op.bytesLess a b = true → Lib.compareBytes a b = -1
  | [], [], h => by simp [Op.bytesLess] at h
  | _ :: _, [], h => by simp [Op.bytesLess] at h
  | [], _ :: _, _ => rfl
  | x :: a, y :: b, h => by
    simp only [Op.bytesLess, Bool.or_eq_true, decide_eq_true_eq, Bool.and_eq_true, beq_iff_eq] at h
    unfold Lib.compareBytes
    rcases h with h | ⟨rfl, h⟩
    · rw [if_pos h]
    · rw [if_neg (UInt8.lt_irrefl _), if_neg (UInt8.lt_irrefl _)]; exact compare_lt h
theorem compare_self : ∀ (a : List UInt8), Lib.compareBytes a a = 0
  | [] => rfl
  | x :: a => by unfold Lib.compareBytes; rw [if_neg (UInt8.lt_irrefl _), if_neg (UInt8.lt_irrefl _)]; exact compare_self a
theorem compare_gt : ∀ {a b : List UInt8}, Op.bytesLess a b = false → a ≠ b → Lib.compareBytes a b = 1
  | [], [], _, h => absurd rfl h
  | _ :: _, [], _, _ => rfl
  | [], _ :: _, h, _ => by simp [Op.bytesLess] at h
  | x :: a, y :: b, h, hne => by
    simp only [Op.bytesLess, Bool.or_eq_false_iff, decide_eq_false_iff_not, Bool.and_eq_false_iff, beq_eq_false_iff_ne] at h
    unfold Lib.compareBytes
    rw [if_neg h.1]
    by_cases hxy : x = y
    · subst hxy
      rw [if_neg (UInt8.lt_irrefl _)]
      rcases h.2 with h2 | h2
      · exact absurd rfl h2
      · exact compare_gt h2 (fun e => hne (by rw [e]))
    · have : y < x := by
        rw [UInt8.lt_iff_toNat_lt] at h ⊢
        have : x.toNat ≠ y.toNat := fun e => hxy (UInt8.toNat_inj.1 e)
        omega
      rw [if_pos this]
theorem cmpS_lt {a b : ByteArray} (h : Op.bytesLess a.toList b.toList = true) : cmpS a b = -1 := by
  unfold cmpS; rw [ByteArray.toList_eq, ByteArray.toList_eq] at h; exact compare_lt h
theorem cmpS_gt {a b : ByteArray} (h : Op.bytesLess a.toList b.toList = false) (hne : a ≠ b) : cmpS a b = 1 := by
  unfold cmpS; rw [ByteArray.toList_eq, ByteArray.toList_eq] at h; exact compare_gt h (fun e => hne (bytes_inj e))
theorem cmpS_self (a : ByteArray) : cmpS a a = 0 := compare_self _
theorem bytesLess_self : ∀ (a : List UInt8), Op.bytesLess a a = false
  | [] => rfl
  | x :: a => by simp [Op.bytesLess, bytesLess_self a]

theorem cmpL_step {α : Type} {f : α → α → Int} {xs ys : List α} {k : Nat} {x y : α} (hx : xs[k]? = some x) (hy : ys[k]? = some y) :
    cmpL f (xs.drop k) (ys.drop k) = if f x y = 0 then cmpL f (xs.drop (k + 1)) (ys.drop (k + 1)) else f x y := by
  obtain ⟨h1, rfl⟩ := List.getElem?_eq_some_iff.1 hx
  obtain ⟨h2, rfl⟩ := List.getElem?_eq_some_iff.1 hy
  rw [List.drop_eq_getElem_cons h1, List.drop_eq_getElem_cons h2]
  rfl
theorem cmpL_endl {α : Type} {f : α → α → Int} {xs ys : List α} {k : Nat} (h1 : xs.length ≤ k) (h2 : k < ys.length) : cmpL f (xs.drop k) (ys.drop k) = -1 := by
  rw [List.drop_of_length_le h1, List.drop_eq_getElem_cons h2]; rfl
theorem cmpL_endr {α : Type} {f : α → α → Int} {xs ys : List α} {k : Nat} (h1 : k < xs.length) (h2 : ys.length ≤ k) : cmpL f (xs.drop k) (ys.drop k) = 1 := by
  rw [List.drop_of_length_le h2, List.drop_eq_getElem_cons h1]; rfl
theorem cmpL_endb {α : Type} {f : α → α → Int} {xs ys : List α} {k : Nat} (h1 : xs.length ≤ k) (h2 : ys.length ≤ k) : cmpL f (xs.drop k) (ys.drop k) = 0 := by
  rw [List.drop_of_length_le h2, List.drop_of_length_le h1]; rfl

/-- A function of two values that answers a number. -/
def OrdC {α : Type} (F : FuncId) (H : World → Value → α → Prop) (f : α → α → Int) : Prop :=
  ∀ (w : World) (v1 v2 : Value) (x y : α), H w v1 x → H w v2 y → Calls Tryz.prog F #[v1, v2] w fun e w' => e = .returned (.int .i64 (f x y)) ∧ Below w.heap.size w w'

theorem cmpVa_k1 {d : Nat} {kx ky nx ny : Int} {tx ty : ByteArray} {xs ys : List Va} (h : kx < ky) : cmpVa (d + 1) (.mk kx nx tx xs) (.mk ky ny ty ys) = -1 := by
  simp only [cmpVa, Va.kind, Va.n, Va.text, Va.kids, cmpI_lt h]; rfl
theorem cmpVa_k2 {d : Nat} {kx ky nx ny : Int} {tx ty : ByteArray} {xs ys : List Va} (h : ky < kx) : cmpVa (d + 1) (.mk kx nx tx xs) (.mk ky ny ty ys) = 1 := by
  simp only [cmpVa, Va.kind, Va.n, Va.text, Va.kids, cmpI_gt h]; rfl
theorem cmpVa_n1 {d : Nat} {kx nx ny : Int} {tx ty : ByteArray} {xs ys : List Va} (h : nx < ny) : cmpVa (d + 1) (.mk kx nx tx xs) (.mk kx ny ty ys) = -1 := by
  simp only [cmpVa, Va.kind, Va.n, Va.text, Va.kids, cmpI_lt h, cmpI_self]; rfl
theorem cmpVa_n2 {d : Nat} {kx nx ny : Int} {tx ty : ByteArray} {xs ys : List Va} (h : ny < nx) : cmpVa (d + 1) (.mk kx nx tx xs) (.mk kx ny ty ys) = 1 := by
  simp only [cmpVa, Va.kind, Va.n, Va.text, Va.kids, cmpI_gt h, cmpI_self]; rfl
theorem cmpVa_t1 {d : Nat} {kx nx : Int} {tx ty : ByteArray} {xs ys : List Va} (h : Op.bytesLess tx.toList ty.toList = true) : cmpVa (d + 1) (.mk kx nx tx xs) (.mk kx nx ty ys) = -1 := by
  simp only [cmpVa, Va.kind, Va.n, Va.text, Va.kids, cmpI_self, cmpS_lt h]; rfl
theorem cmpVa_t2 {d : Nat} {kx nx : Int} {tx ty : ByteArray} {xs ys : List Va} (h : Op.bytesLess tx.toList ty.toList = false) (hne : tx ≠ ty) : cmpVa (d + 1) (.mk kx nx tx xs) (.mk kx nx ty ys) = 1 := by
  simp only [cmpVa, Va.kind, Va.n, Va.text, Va.kids, cmpI_self, cmpS_gt h hne]; rfl
theorem cmpVa_l {d : Nat} {kx nx : Int} {tx : ByteArray} {xs ys : List Va} : cmpVa (d + 1) (.mk kx nx tx xs) (.mk kx nx tx ys) = cmpL (cmpVa d) xs ys := by
  simp only [cmpVa, Va.kind, Va.n, Va.text, Va.kids, cmpI_self, cmpS_self, if_true]

set_option maxHeartbeats 8000000 in
theorem specCmp_of {d : Nat} (hE : OrdC 18 (fun w v e => ∃ cs, v = .agg cs.toArray ∧ HVa w All d cs e) (cmpVa d)) :
    OrdC 18 (fun w v e => ∃ cs, v = .agg cs.toArray ∧ HVa w All (d + 1) cs e) (cmpVa (d + 1)) := by
  intro w v1 v2 x y i1 i2
  obtain ⟨cs, rfl, kv, rfl, _, _, _, f0⟩ := i1
  obtain ⟨cs, rfl, kv', rfl, _, _, _, f0'⟩ := i2
  obtain ⟨kx, nx, tx, es⟩ := x
  obtain ⟨ky, ny, ty, fs⟩ := y
  simp only [Va.kind, Va.n, Va.text, Va.kids] at *
  obtain ⟨p, cap, rfl, hcl, hcm, hx⟩ := f0
  obtain ⟨q, cap', rfl, hcl', hcm', hy⟩ := f0'
  have HB0 : es.length ≤ 9223372036854775807 := by unfold maxLen at hcm; omega
  have HB1 : fs.length ≤ 9223372036854775807 := by unfold maxLen at hcm'; omega
  generalize hm : fs.length = m at *
  have HM : Hid (fs.length = m) := hm
  generalize hn : es.length = n at *
  have HN : Hid (es.length = n) := hn
  have HX : Hid (es ≠ [] → ∃ g off, p = some ⟨g, off, none⟩ ∧ All g ∧ g < w.heap.size ∧ ∀ i x, es[i]? = some x → ∃ cs, cs.length = 4 ∧ (∀ j, j < 4 → w.cell? ⟨g, off + i * 4 + j, none⟩ = cs[j]?) ∧ HVa w All d cs x) := hx
  have HY : Hid (fs ≠ [] → ∃ g off, q = some ⟨g, off, none⟩ ∧ All g ∧ g < w.heap.size ∧ ∀ i x, fs[i]? = some x → ∃ cs, cs.length = 4 ∧ (∀ j, j < 4 → w.cell? ⟨g, off + i * 4 + j, none⟩ = cs[j]?) ∧ HVa w All d cs x) := hy
  clear hm hn hx hy
  by_cases k1 : kx < ky
  · have HS : Hid (cmpVa (d + 1) (.mk kx nx tx es) (.mk ky ny ty fs) = -1) := cmpVa_k1 k1
    go_enter Tryz.func18, Tryz.ntmps18
    go_wp2
    go_ret
    exact ⟨by rw [HS.out]; rfl, ((Below.refl _ _).alloc (Nat.le_refl _) _).alloc (by simp) _⟩
  by_cases k2 : ky < kx
  · have HS : Hid (cmpVa (d + 1) (.mk kx nx tx es) (.mk ky ny ty fs) = 1) := cmpVa_k2 k2
    go_enter Tryz.func18, Tryz.ntmps18
    go_wp2
    go_ret
    exact ⟨by rw [HS.out]; rfl, ((Below.refl _ _).alloc (Nat.le_refl _) _).alloc (by simp) _⟩
  obtain rfl : kx = ky := by omega
  by_cases n1 : nx < ny
  · have HS : Hid (cmpVa (d + 1) (.mk kx nx tx es) (.mk kx ny ty fs) = -1) := cmpVa_n1 n1
    go_enter Tryz.func18, Tryz.ntmps18
    go_wp2
    go_ret
    exact ⟨by rw [HS.out]; rfl, ((Below.refl _ _).alloc (Nat.le_refl _) _).alloc (by simp) _⟩
  by_cases n2 : ny < nx
  · have HS : Hid (cmpVa (d + 1) (.mk kx nx tx es) (.mk kx ny ty fs) = 1) := cmpVa_n2 n2
    go_enter Tryz.func18, Tryz.ntmps18
    go_wp2
    go_ret
    exact ⟨by rw [HS.out]; rfl, ((Below.refl _ _).alloc (Nat.le_refl _) _).alloc (by simp) _⟩
  obtain rfl : nx = ny := by omega
  by_cases t1 : Op.bytesLess tx.toList ty.toList = true
  · have HS : Hid (cmpVa (d + 1) (.mk kx nx tx es) (.mk kx nx ty fs) = -1) := cmpVa_t1 t1
    go_enter Tryz.func18, Tryz.ntmps18
    go_wp2
    go_ret
    exact ⟨by rw [HS.out]; rfl, ((Below.refl _ _).alloc (Nat.le_refl _) _).alloc (by simp) _⟩
  replace t1 : Op.bytesLess tx.toList ty.toList = false := by simpa using t1
  by_cases t2 : tx = ty
  · subst t2
    have HL : Hid (cmpVa (d + 1) (.mk kx nx tx es) (.mk kx nx tx fs) = cmpL (cmpVa d) es fs) := cmpVa_l
    obtain ⟨W2, hW2⟩ : ∃ W2, W2 = (w.alloc (.cells #[.int .i64 kx, .int .i64 nx, .string tx, .slice p n cap] 26)).alloc (.cells #[.int .i64 kx, .int .i64 nx, .string tx, .slice q m cap'] 26) := ⟨_, rfl⟩
    have bA : Hid (Blk W2 w.heap.size #[.int .i64 kx, .int .i64 nx, .string tx, .slice p n cap] 26) := by show Blk _ _ _ _; rw [hW2]; exact Blk.new.alloc
    have bB : Hid (Blk W2 (w.heap.size + 1) #[.int .i64 kx, .int .i64 nx, .string tx, .slice q m cap'] 26) := by
      show Blk _ _ _ _
      rw [hW2]
      have := Blk.new (w := w.alloc (.cells #[.int .i64 kx, .int .i64 nx, .string tx, .slice p n cap] 26)) (cs := #[.int .i64 kx, .int .i64 nx, .string tx, .slice q m cap']) (t := 26)
      rwa [alloc_hs] at this
    have HAL : Hid (Below w.heap.size w W2) := by show Below _ _ _; rw [hW2]; exact ((Below.refl _ _).alloc (Nat.le_refl _) _).alloc (by simp) _
    have HW2 : Hid (W2 = (w.alloc (.cells #[.int .i64 kx, .int .i64 nx, .string tx, .slice p n cap] 26)).alloc (.cells #[.int .i64 kx, .int .i64 nx, .string tx, .slice q m cap'] 26)) := hW2
    clear hW2
    go_enter Tryz.func18, Tryz.ntmps18
    go_wp2
    rw [← HW2.out]
    go_loopw [5] (fun iv wr => ∃ k : Nat, k ≤ n ∧ k ≤ m ∧ iv = .int .i64 k ∧ Hid (cmpL (cmpVa d) es fs = cmpL (cmpVa d) (es.drop k) (fs.drop k)) ∧ Hid (SameOn All W2 wr) ∧ Below w.heap.size w wr) (fun iv _ => n - (intOf iv).toNat)
    case atStart => exact ⟨0, Nat.zero_le _, Nat.zero_le _, rfl, rfl, ⟨Nat.le_refl _, fun _ _ _ => rfl⟩, HAL.out⟩
    case round =>
      obtain ⟨k, hk, hk', rfl, hsame, hso, hb⟩ := hrel
      have HB : Hid (Below w.heap.size w wr) := hb
      have b1 := bA.out.same_on hso.out
      have b2 := bB.out.same_on hso.out
      have xa := b1.cell 3 _ rfl
      have xb := b2.cell 3 _ rfl
      have hzA := b1.lt
      have hzB := b2.lt
      clear b1 b2
      by_cases hlt : k < n
      · by_cases hlt' : k < m
        · obtain ⟨x, hxk⟩ : ∃ x, es[k]? = some x := ⟨es[k]'(by rw [HN.out]; exact hlt), List.getElem?_eq_getElem _⟩
          obtain ⟨y, hyk⟩ : ∃ y, fs[k]? = some y := ⟨fs[k]'(by rw [HM.out]; exact hlt'), List.getElem?_eq_getElem _⟩
          obtain ⟨g, off, rfl, _, hgl, hat⟩ := HX.out (by intro h; rw [h] at hxk; simp at hxk)
          obtain ⟨g', off', rfl, _, hgl', hat'⟩ := HY.out (by intro h; rw [h] at hyk; simp at hyk)
          obtain ⟨cs, hcl6, hcs, r1⟩ := hat k x hxk
          obtain ⟨cs', hcl6', hcs', r2⟩ := hat' k y hyk
          have E1 : ∀ w', SameOn All wr w' → HVa w' All d cs x := fun w' hw => r1.mono (SameOn.trans (SameOn.of_below hb) hw) (fun _ h => h)
          have E2 : ∀ w', SameOn All wr w' → HVa w' All d cs' y := fun w' hw => r2.mono (SameOn.trans (SameOn.of_below hb) hw) (fun _ h => h)
          obtain ⟨c0, c1, c2, c3, rfl⟩ := len4 hcl6
          obtain ⟨d0, d1, d2, d3, rfl⟩ := len4 hcl6'
          have a0 := hcs 0 (by omega)
          have a1 := hcs 1 (by omega)
          have a2 := hcs 2 (by omega)
          have a3 := hcs 3 (by omega)
          have b0 := hcs' 0 (by omega)
          have b1 := hcs' 1 (by omega)
          have b2 := hcs' 2 (by omega)
          have b3 := hcs' 3 (by omega)
          rw [← hb.cell (p := ⟨g, _, none⟩) hgl] at a0 a1 a2 a3
          rw [← hb.cell (p := ⟨g', _, none⟩) hgl'] at b0 b1 b2 b3
          simp at a0 a1 a2 a3 b0 b1 b2 b3
          have hgw : g < wr.heap.size := Nat.lt_of_lt_of_le hgl HB.out.size
          have hgw' : g' < wr.heap.size := Nat.lt_of_lt_of_le hgl' HB.out.size
          clear hb hcs hat hcl6 hcs' hat' hcl6' r1 r2
          have hki : (k : Int) < (n : Int) := by omega
          have hkm : (k : Int) < (m : Int) := by omega
          have hk0 : (0 : Int) ≤ (k : Int) := by omega
          have qxa : ∀ m' : Wd (fun w' => SameOn All wr w' ∧ Below w.heap.size w w'), m'.val.cell? ⟨w.heap.size, 3, none⟩ = some (.slice (some ⟨g, off, none⟩) n cap) := fun m' => (World.cell?_of_block (m'.ok.1.2 w.heap.size trivial hzA)).trans xa
          have qxb : ∀ m' : Wd (fun w' => SameOn All wr w' ∧ Below w.heap.size w w'), m'.val.cell? ⟨w.heap.size + 1, 3, none⟩ = some (.slice (some ⟨g', off', none⟩) m cap') := fun m' => (World.cell?_of_block (m'.ok.1.2 (w.heap.size + 1) trivial hzB)).trans xb
          have qa0 : ∀ m' : Wd (fun w' => SameOn All wr w' ∧ Below w.heap.size w w'), m'.val.cell? ⟨g, off + k * 4, none⟩ = some c0 := fun m' => (World.cell?_of_block (m'.ok.1.2 g trivial hgw)).trans a0
          have qa1 : ∀ m' : Wd (fun w' => SameOn All wr w' ∧ Below w.heap.size w w'), m'.val.cell? ⟨g, off + k * 4 + 1, none⟩ = some c1 := fun m' => (World.cell?_of_block (m'.ok.1.2 g trivial hgw)).trans a1
          have qa2 : ∀ m' : Wd (fun w' => SameOn All wr w' ∧ Below w.heap.size w w'), m'.val.cell? ⟨g, off + k * 4 + 2, none⟩ = some c2 := fun m' => (World.cell?_of_block (m'.ok.1.2 g trivial hgw)).trans a2
          have qa3 : ∀ m' : Wd (fun w' => SameOn All wr w' ∧ Below w.heap.size w w'), m'.val.cell? ⟨g, off + k * 4 + 3, none⟩ = some c3 := fun m' => (World.cell?_of_block (m'.ok.1.2 g trivial hgw)).trans a3
          have qb0 : ∀ m' : Wd (fun w' => SameOn All wr w' ∧ Below w.heap.size w w'), m'.val.cell? ⟨g', off' + k * 4, none⟩ = some d0 := fun m' => (World.cell?_of_block (m'.ok.1.2 g' trivial hgw')).trans b0
          have qb1 : ∀ m' : Wd (fun w' => SameOn All wr w' ∧ Below w.heap.size w w'), m'.val.cell? ⟨g', off' + k * 4 + 1, none⟩ = some d1 := fun m' => (World.cell?_of_block (m'.ok.1.2 g' trivial hgw')).trans b1
          have qb2 : ∀ m' : Wd (fun w' => SameOn All wr w' ∧ Below w.heap.size w w'), m'.val.cell? ⟨g', off' + k * 4 + 2, none⟩ = some d2 := fun m' => (World.cell?_of_block (m'.ok.1.2 g' trivial hgw')).trans b2
          have qb3 : ∀ m' : Wd (fun w' => SameOn All wr w' ∧ Below w.heap.size w w'), m'.val.cell? ⟨g', off' + k * 4 + 3, none⟩ = some d3 := fun m' => (World.cell?_of_block (m'.ok.1.2 g' trivial hgw')).trans b3
          have hst := cmpL_step (f := cmpVa d) hxk hyk
          have HST : Hid (cmpL (cmpVa d) (es.drop k) (fs.drop k) = if cmpVa d x y = 0 then cmpL (cmpVa d) (es.drop (k + 1)) (fs.drop (k + 1)) else cmpVa d x y) := hst
          clear hst
          generalize hcv : cmpVa d x y = cv at *
          have HCV : Hid (cmpVa d x y = cv) := hcv
          clear hcv
          by_cases hz : cv = 0
          · go_wp2
            have hCne : Nonempty (Wd (fun w' => SameOn All wr w' ∧ Below w.heap.size w w')) := ⟨⟨wr.drew, ⟨⟨Nat.le_refl _, fun _ _ _ => rfl⟩, HB.out.drew⟩⟩⟩
            refine wp_region_class (fun w' => SameOn All wr w' ∧ Below w.heap.size w w') (by kernel_rfl) (by kernel_rfl) ⟨⟨Nat.le_refl _, fun _ _ _ => rfl⟩, HB.out.drew⟩ ?_
            repeat (go_big_quiet_step (first | (rename_i m'; go_at_call 18; refine (hE _ _ _ x y ⟨_, rfl, E1 _ m'.ok.1⟩ ⟨_, rfl, E2 _ m'.ok.1⟩).mono ?_; rintro e w1 ⟨rfl, hb1⟩; exact ⟨by rw [HCV.out], ⟨⟨w1, ⟨(SameOn.trans m'.ok.1 (SameOn.of_below hb1)), m'.ok.2.trans (hb1.mono m'.ok.2.size)⟩⟩, rfl⟩⟩)))
            refine wpQuiet_nil ?_
            rintro _ ⟨mq, rfl⟩
            have hbe := mq.ok.2
            have hse := mq.ok.1
            generalize mq.val = wq at hbe hse ⊢
            go_wp2
            exact ⟨⟨k + 1, by omega, by omega, by go_num, (by show _ = _; rw [hsame.out, HST.out, if_pos hz]), hso.out.trans hse, hbe⟩, by simp [intOf]; omega⟩
          · have HS : Hid (cmpVa (d + 1) (.mk kx nx tx es) (.mk kx nx tx fs) = cv) := by show _ = _; rw [HL.out, hsame.out, HST.out, if_neg hz]
            go_wp2
            have hCne : Nonempty (Wd (fun w' => SameOn All wr w' ∧ Below w.heap.size w w')) := ⟨⟨wr.drew, ⟨⟨Nat.le_refl _, fun _ _ _ => rfl⟩, HB.out.drew⟩⟩⟩
            refine wp_region_class (fun w' => SameOn All wr w' ∧ Below w.heap.size w w') (by kernel_rfl) (by kernel_rfl) ⟨⟨Nat.le_refl _, fun _ _ _ => rfl⟩, HB.out.drew⟩ ?_
            repeat (go_big_quiet_step (first | (rename_i m'; go_at_call 18; refine (hE _ _ _ x y ⟨_, rfl, E1 _ m'.ok.1⟩ ⟨_, rfl, E2 _ m'.ok.1⟩).mono ?_; rintro e w1 ⟨rfl, hb1⟩; exact ⟨by rw [HCV.out], ⟨⟨w1, ⟨(SameOn.trans m'.ok.1 (SameOn.of_below hb1)), m'.ok.2.trans (hb1.mono m'.ok.2.size)⟩⟩, rfl⟩⟩)))
            refine wpQuiet_nil ?_
            rintro _ ⟨mq, rfl⟩
            have hbe := mq.ok.2
            have hse := mq.ok.1
            generalize mq.val = wq at hbe hse ⊢
            go_wp2
            go_ret
            exact ⟨by rw [HS.out]; rfl, hbe⟩
        · have HS : Hid (cmpVa (d + 1) (.mk kx nx tx es) (.mk kx nx tx fs) = 1) := by show _ = _; rw [HL.out, hsame.out]; exact cmpL_endr (by rw [HN.out]; exact hlt) (by rw [HM.out]; omega)
          clear hb
          go_wp2
          go_ret
          exact ⟨by rw [HS.out]; rfl, HB.out⟩
      · by_cases hlt' : k < m
        · have HS : Hid (cmpVa (d + 1) (.mk kx nx tx es) (.mk kx nx tx fs) = -1) := by show _ = _; rw [HL.out, hsame.out]; exact cmpL_endl (by rw [HN.out]; omega) (by rw [HM.out]; omega)
          clear hb
          go_wp2
          go_ret
          exact ⟨by rw [HS.out]; rfl, HB.out⟩
        · have HS : Hid (cmpVa (d + 1) (.mk kx nx tx es) (.mk kx nx tx fs) = 0) := by show _ = _; rw [HL.out, hsame.out]; exact cmpL_endb (by rw [HN.out]; omega) (by rw [HM.out]; omega)
          clear hb
          go_wp2
          go_ret
          exact ⟨by rw [HS.out]; rfl, HB.out⟩
  · have HS : Hid (cmpVa (d + 1) (.mk kx nx tx es) (.mk kx nx ty fs) = 1) := cmpVa_t2 t1 t2
    have hq1 := str_ne t2
    have hq2 := str_neB t2
    go_enter Tryz.func18, Tryz.ntmps18
    go_wp2
    go_ret
    exact ⟨by rw [HS.out]; rfl, ((Below.refl _ _).alloc (Nat.le_refl _) _).alloc (by simp) _⟩

/-- THE SPECIFICATION's CompareVal. -/
theorem specCmp_all : ∀ d, OrdC 18 (fun w v e => ∃ cs, v = .agg cs.toArray ∧ HVa w All d cs e) (cmpVa d)
  | 0 => fun w v v' x y ⟨_, _, h⟩ _ => h.elim
  | d + 1 => specCmp_of (specCmp_all d)
end Go.Proofs.YtmnghlkkfkpjhaaGreatDoor
/-
  The order of values is one: two that compare as 0 are one tree, it turns about, and it goes on.
-/
namespace Go.Proofs.YtmnghlkkfkpjhaaGreatDoor
open Go.ChangeShapes Go.WideShapes Go.ChangeAt Go.RowKit
set_option linter.unusedVariables false

structure Ord3 {α : Type} (P : α → Prop) (f : α → α → Int) : Prop where
  eq : ∀ a b, P a → P b → (f a b = 0 ↔ a = b)
  anti : ∀ a b, P a → P b → f b a = - f a b
  tr : ∀ a b c, P a → P b → P c → f a b < 0 → f b c < 0 → f a c < 0

theorem Ord3.le {α : Type} {P : α → Prop} {f : α → α → Int} (h : Ord3 P f) {a b c : α} (ha : P a) (hb : P b) (hc : P c) (h1 : f a b ≤ 0) (h2 : f b c ≤ 0) : f a c ≤ 0 := by
  by_cases e1 : f a b = 0
  · rw [(h.eq a b ha hb).1 e1]; exact h2
  · by_cases e2 : f b c = 0
    · rw [← (h.eq b c hb hc).1 e2]; exact h1
    · have := h.tr a b c ha hb hc (by omega) (by omega)
      omega

theorem ord_list {α : Type} {P : α → Prop} {f : α → α → Int} (h : Ord3 P f) : Ord3 (fun l : List α => ∀ x ∈ l, P x) (cmpL f) where
  eq := by
    intro a
    induction a with
    | nil => intro b _ _; cases b with
      | nil => simp [cmpL]
      | cons y b => simp [cmpL]
    | cons x a ih => intro b ha hb; cases b with
      | nil => simp [cmpL]
      | cons y b =>
        have hx := h.eq x y (ha x List.mem_cons_self) (hb y List.mem_cons_self)
        have hi := ih b (fun z hz => ha z (List.mem_cons_of_mem _ hz)) (fun z hz => hb z (List.mem_cons_of_mem _ hz))
        show (if f x y = 0 then cmpL f a b else f x y) = 0 ↔ _
        rw [List.cons.injEq]
        split
        · rename_i h0
          rw [hi]; simp [hx.1 h0]
        · rename_i h0
          constructor
          · intro e; exact absurd e h0
          · intro e; exact absurd (hx.2 e.1) h0
  anti := by
    intro a
    induction a with
    | nil => intro b _ _; cases b <;> simp [cmpL]
    | cons x a ih => intro b ha hb; cases b with
      | nil => simp [cmpL]
      | cons y b =>
        have hx := h.anti x y (ha x List.mem_cons_self) (hb y List.mem_cons_self)
        have hi := ih b (fun z hz => ha z (List.mem_cons_of_mem _ hz)) (fun z hz => hb z (List.mem_cons_of_mem _ hz))
        show (if f y x = 0 then cmpL f b a else f y x) = -(if f x y = 0 then cmpL f a b else f x y)
        rw [hx, hi]
        by_cases h0 : f x y = 0
        · rw [if_pos (by omega), if_pos h0]
        · rw [if_neg (by omega), if_neg h0]
  tr := by
    intro a
    induction a with
    | nil => intro b c _ _ _ h1 h2; cases b with
      | nil => simp [cmpL] at h1
      | cons y b => cases c with
        | nil => simp [cmpL] at h2
        | cons z c => simp [cmpL]
    | cons x a ih => intro b c ha hb hc h1 h2; cases b with
      | nil => simp [cmpL] at h1
      | cons y b => cases c with
        | nil => simp [cmpL] at h2
        | cons z c =>
          have px := ha x List.mem_cons_self
          have py := hb y List.mem_cons_self
          have pz := hc z List.mem_cons_self
          have k1 : (if f x y = 0 then cmpL f a b else f x y) < 0 := h1
          have k2 : (if f y z = 0 then cmpL f b c else f y z) < 0 := h2
          show (if f x z = 0 then cmpL f a c else f x z) < 0
          by_cases e1 : f x y = 0
          · rw [if_pos e1] at k1
            have := (h.eq x y px py).1 e1
            subst this
            by_cases e2 : f x z = 0
            · rw [if_pos e2] at k2 ⊢
              exact ih b c (fun z hz => ha z (List.mem_cons_of_mem _ hz)) (fun z hz => hb z (List.mem_cons_of_mem _ hz)) (fun z hz => hc z (List.mem_cons_of_mem _ hz)) k1 k2
            · rw [if_neg e2] at k2 ⊢; exact k2
          · rw [if_neg e1] at k1
            by_cases e2 : f y z = 0
            · have := (h.eq y z py pz).1 e2
              subst this
              rw [if_neg e1]; exact k1
            · rw [if_neg e2] at k2
              have := h.tr x y z px py pz k1 k2
              rw [if_neg (by omega)]; exact this

theorem ord_pair {α β : Type} {P : α → Prop} {Q : β → Prop} {f : α → α → Int} {g : β → β → Int} (h : Ord3 P f) (k : Ord3 Q g) :
    Ord3 (fun p : α × β => P p.1 ∧ Q p.2) (fun p q => if f p.1 q.1 = 0 then g p.2 q.2 else f p.1 q.1) where
  eq := by
    rintro ⟨a, b⟩ ⟨c, d⟩ ⟨ha, hb⟩ ⟨hc, hd⟩
    have h1 := h.eq a c ha hc
    have h2 := k.eq b d hb hd
    show (if f a c = 0 then g b d else f a c) = 0 ↔ _
    rw [Prod.mk.injEq]
    split
    · rename_i e; rw [h2]; simp [h1.1 e]
    · rename_i e
      constructor
      · intro e'; exact absurd e' e
      · intro e'; exact absurd (h1.2 e'.1) e
  anti := by
    rintro ⟨a, b⟩ ⟨c, d⟩ ⟨ha, hb⟩ ⟨hc, hd⟩
    have h1 := h.anti a c ha hc
    have h2 := k.anti b d hb hd
    show (if f c a = 0 then g d b else f c a) = -(if f a c = 0 then g b d else f a c)
    rw [h1, h2]
    by_cases e : f a c = 0
    · rw [if_pos (by omega), if_pos e]
    · rw [if_neg (by omega), if_neg e]
  tr := by
    rintro ⟨a, b⟩ ⟨c, d⟩ ⟨u, v⟩ ⟨ha, hb⟩ ⟨hc, hd⟩ ⟨hu, hv⟩ h1 h2
    have k1 : (if f a c = 0 then g b d else f a c) < 0 := h1
    have k2 : (if f c u = 0 then g d v else f c u) < 0 := h2
    show (if f a u = 0 then g b v else f a u) < 0
    by_cases e1 : f a c = 0
    · rw [if_pos e1] at k1
      have := (h.eq a c ha hc).1 e1
      subst this
      by_cases e2 : f a u = 0
      · rw [if_pos e2] at k2 ⊢
        exact k.tr b d v hb hd hv k1 k2
      · rw [if_neg e2] at k2 ⊢; exact k2
    · rw [if_neg e1] at k1
      by_cases e2 : f c u = 0
      · have := (h.eq c u hc hu).1 e2
        subst this
        rw [if_neg e1]; exact k1
      · rw [if_neg e2] at k2
        have := h.tr a c u ha hc hu k1 k2
        rw [if_neg (by omega)]; exact this

theorem ord_int : Ord3 (fun _ : Int => True) cmpI where
  eq := by intro a b _ _; unfold cmpI; split <;> (try split) <;> constructor <;> intro h <;> omega
  anti := by intro a b _ _; unfold cmpI; split <;> split <;> (try split) <;> omega
  tr := by
    intro a b c _ _ _ h1 h2
    unfold cmpI at *
    split at h1
    · split at h2
      · rw [if_pos (by omega)]; omega
      · split at h2 <;> omega
    · split at h1 <;> omega
theorem ord_byte : Ord3 (fun _ : UInt8 => True) (fun a b => cmpI a.toNat b.toNat) where
  eq := by
    intro a b _ _
    rw [ord_int.eq _ _ trivial trivial]
    constructor
    · intro h; exact UInt8.toNat_inj.1 (by omega)
    · intro h; rw [h]
  anti := fun a b _ _ => ord_int.anti _ _ trivial trivial
  tr := fun a b c _ _ _ => ord_int.tr _ _ _ trivial trivial trivial
theorem bytes_cmpL : ∀ (a b : List UInt8), Lib.compareBytes a b = cmpL (fun a b : UInt8 => cmpI a.toNat b.toNat) a b
  | [], [] => rfl
  | [], _ :: _ => rfl
  | _ :: _, [] => rfl
  | x :: a, y :: b => by
    have ih := bytes_cmpL a b
    unfold Lib.compareBytes
    show _ = if cmpI x.toNat y.toNat = 0 then cmpL _ a b else cmpI x.toNat y.toNat
    rw [ih]
    by_cases h1 : x < y
    · rw [if_pos h1, cmpI_lt (by rw [UInt8.lt_iff_toNat_lt] at h1; omega)]; rfl
    · rw [if_neg h1]
      by_cases h2 : y < x
      · rw [if_pos h2, cmpI_gt (by rw [UInt8.lt_iff_toNat_lt] at h2; omega)]; rfl
      · rw [if_neg h2]
        have : x.toNat = y.toNat := by rw [UInt8.lt_iff_toNat_lt] at h1 h2; omega
        rw [this, cmpI_self, if_pos rfl]
theorem ord_text : Ord3 (fun _ : ByteArray => True) cmpS where
  eq := by
    intro a b _ _
    unfold cmpS
    rw [bytes_cmpL, (ord_list ord_byte).eq _ _ (fun _ _ => trivial) (fun _ _ => trivial)]
    constructor
    · intro h; exact bytes_inj h
    · intro h; rw [h]
  anti := by
    intro a b _ _
    unfold cmpS
    rw [bytes_cmpL, bytes_cmpL]
    exact (ord_list ord_byte).anti _ _ (fun _ _ => trivial) (fun _ _ => trivial)
  tr := by
    intro a b c _ _ _
    unfold cmpS
    rw [bytes_cmpL, bytes_cmpL, bytes_cmpL]
    exact (ord_list ord_byte).tr _ _ _ (fun _ _ => trivial) (fun _ _ => trivial) (fun _ _ => trivial)

/-- A value at most d deep. -/
def dpV : Nat → Va → Prop
  | 0, _ => False
  | d + 1, x => ∀ y ∈ x.kids, dpV d y
theorem HVa.dp {w : World} {S : Nat → Prop} : ∀ {d : Nat} {cs : List Value} {x : Va}, HVa w S d cs x → dpV d x
  | 0, _, _, h => h
  | d + 1, cs, x, h => by
    obtain ⟨kv, rfl, _, _, _, p, cap, _, _, _, hr⟩ := h
    intro y hy
    obtain ⟨i, hi⟩ := List.mem_iff_getElem?.1 hy
    obtain ⟨g, off, _, _, _, hat⟩ := hr (by intro e; rw [e] at hi; simp at hi)
    obtain ⟨cs, _, _, hv⟩ := hat i y hi
    exact hv.dp

def keyV (x : Va) : Int × Int × ByteArray × List Va := (x.kind, x.n, x.text, x.kids)
theorem keyV_inj {a b : Va} : keyV a = keyV b ↔ a = b := by
  unfold keyV
  rw [Va.eq_iff]
  simp only [Prod.mk.injEq]
theorem ord_val : ∀ d, Ord3 (dpV d) (cmpVa d)
  | 0 => ⟨fun _ _ h => h.elim, fun _ _ h => h.elim, fun _ _ _ h => h.elim⟩
  | d + 1 => by
    have k := ord_pair ord_int (ord_pair ord_int (ord_pair ord_text (ord_list (ord_val d))))
    have hP : ∀ x, dpV (d + 1) x → (True ∧ True ∧ True ∧ ∀ y ∈ x.kids, dpV d y) := fun x h => ⟨trivial, trivial, trivial, h⟩
    exact ⟨fun a b ha hb => (k.eq (keyV a) (keyV b) (hP a ha) (hP b hb)).trans keyV_inj,
      fun a b ha hb => k.anti (keyV a) (keyV b) (hP a ha) (hP b hb),
      fun a b c ha hb hc => k.tr (keyV a) (keyV b) (keyV c) (hP a ha) (hP b hb) (hP c hc)⟩
end Go.Proofs.YtmnghlkkfkpjhaaGreatDoor
/-
  How great values and names that are bound are.
-/
namespace Go.Proofs.YtmnghlkkfkpjhaaGreatDoor
open Go.ChangeShapes Go.WideShapes Go.ChangeAt Go.RowKit
set_option linter.unusedVariables false

def wtVa : Nat → Va → Nat
  | 0, _ => 0
  | d + 1, e => e.text.size + wtS (wtVa d) e.kids
def wtBd (d : Nat) (b : Bd) : Nat := b.name.size + wtVa d b.val
end Go.Proofs.YtmnghlkkfkpjhaaGreatDoor
/-
  Trees that own their memory: each row lies in a block of its own, and no two blocks are one. What is written into such a tree turns nothing else, and is there afterwards.
-/
namespace Go.Proofs.YtmnghlkkfkpjhaaGreatDoor
open Go.ChangeShapes Go.WideShapes Go.ChangeAt Go.RowKit
set_option linter.unusedVariables false

/-- Whatever lies in blocks of fp lies in w' as it does in w. -/
def KeepOn (fp : List Nat) (w w' : World) : Prop := ∀ a ∈ fp, w'.heap[a]? = w.heap[a]?

theorem KeepOn.sub {fp fp' : List Nat} {w w' : World} (h : KeepOn fp w w') (hs : ∀ a ∈ fp', a ∈ fp) : KeepOn fp' w w' := fun a ha => h a (hs a ha)
theorem KeepOn.below {fp : List Nat} {w w' : World} {N : Nat} (h : Below N w w') (hs : ∀ a ∈ fp, a < N) : KeepOn fp w w' := fun a ha => h.block a (hs a ha)

/-- Nothing has turned but what lies in blocks of fp; memory may have grown. -/
structure Off (fp : List Nat) (w w' : World) : Prop where
  os : w'.os = w.os
  tape : w'.tape = w.tape
  output : w'.output = w.output
  size : w.heap.size ≤ w'.heap.size
  block : ∀ a, a < w.heap.size → a ∉ fp → w'.heap[a]? = w.heap[a]?

theorem Off.refl (fp : List Nat) (w : World) : Off fp w w := ⟨rfl, rfl, rfl, Nat.le_refl _, fun _ _ _ => rfl⟩
theorem Off.trans {fp : List Nat} {a b c : World} (h : Off fp a b) (k : Off fp b c) : Off fp a c :=
  ⟨k.os.trans h.os, k.tape.trans h.tape, k.output.trans h.output, Nat.le_trans h.size k.size, fun g hg hf => (k.block g (Nat.lt_of_lt_of_le hg h.size) hf).trans (h.block g hg hf)⟩
theorem Off.sub {fp fp' : List Nat} {a b : World} (h : Off fp a b) (hs : ∀ g ∈ fp, g ∈ fp') : Off fp' a b :=
  ⟨h.os, h.tape, h.output, h.size, fun g hg hf => h.block g hg (fun hm => hf (hs g hm))⟩
theorem Off.of_below {fp : List Nat} {a b : World} (h : Below a.heap.size a b) : Off fp a b := ⟨h.os, h.tape, h.output, h.size, fun g hg _ => h.block g hg⟩
theorem Off.of_grown {fp : List Nat} {a b : World} {g : Nat} (h : a.grownBy b (some g)) (hg : g ∈ fp) : Off fp a b :=
  ⟨h.os, h.tape, h.output, h.size, fun j hj hf => h.block j hj (by simp; intro e; exact hf (e ▸ hg))⟩
theorem Off.below {fp : List Nat} {a b : World} {N : Nat} (h : Off fp a b) (hs : ∀ g ∈ fp, N ≤ g) (hN : N ≤ a.heap.size) : Below N a b :=
  ⟨h.os, h.tape, h.output, h.size, fun j hj => h.block j (Nat.lt_of_lt_of_le hj hN) (fun hm => by have := hs j hm; omega)⟩
theorem Off.keep {fp f : List Nat} {a b : World} (h : Off fp a b) (hs : ∀ g ∈ f, g < a.heap.size ∧ g ∉ fp) : KeepOn f a b := fun g hg => h.block g (hs g hg).1 (hs g hg).2

theorem Off.under {fp : List Nat} {w A B : World} {N : Nat} (h : Off fp w A) (hN : w.heap.size ≤ N) (hb : Below N A B) : Off fp w B :=
  ⟨hb.os.trans h.os, hb.tape.trans h.tape, hb.output.trans h.output, Nat.le_trans h.size hb.size, fun g hg hf => (hb.block g (by omega)).trans (h.block g hg hf)⟩
/-- v is a slice in a block of its own; its elements, of c cells each, are R's xs; fp: all blocks. -/
def ORows {α : Type} (w : World) (e : TypeId) (c : Nat) (R : List Value → α → List Nat → Prop) (v : Value) (xs : List α) (fp : List Nat) : Prop :=
  (xs = [] ∧ fp = [] ∧ ∃ p cap, v = .slice p 0 cap ∧ cap ≤ maxLen) ∨
    (xs ≠ [] ∧ ∃ (cells : List Value) (g cap : Nat) (fps : List (List Nat)), w.ownsRow 0 e c v xs.length cells ∧ v = .slice (some ⟨g, 0, none⟩) xs.length cap ∧ fps.length = xs.length ∧ fp = g :: fps.flatten ∧
      ∀ (i : Nat) x f, xs[i]? = some x → fps[i]? = some f → ∃ cs : List Value, cs.length = c ∧ (∀ j, j < c → cells[i * c + j]? = cs[j]?) ∧ R cs x f)

theorem owns_block {w w' : World} {e : TypeId} {c g n cap : Nat} {v : Value} {cells : List Value} (h : w.ownsRow 0 e c v n cells) (hv : v = .slice (some ⟨g, 0, none⟩) n cap) (hk : w'.heap[g]? = w.heap[g]?) : w'.ownsRow 0 e c v n cells := by
  refine ⟨h.1, ?_⟩
  rcases h.2 with hn | ⟨g', cap', cur, hv', hb, hg, hr⟩
  · exact .inl hn
  · have : g' = g := by rw [hv] at hv'; simp at hv'; exact hv'.1.symm
    subst this
    exact .inr ⟨g', cap', cur, hv', hb, hk.trans hg, hr⟩
theorem owns_lt {w : World} {e : TypeId} {c g n cap : Nat} {v : Value} {cells : List Value} (h : w.ownsRow 0 e c v n cells) (hv : v = .slice (some ⟨g, 0, none⟩) n cap) : g < w.heap.size := by
  rcases h.2 with hn | ⟨g', cap', cur, hv', hb, hg, hr⟩
  · rw [hn.1] at hv; cases hv
  · have : g' = g := by rw [hv] at hv'; simp at hv'; exact hv'.1.symm
    subst this
    exact (Array.getElem?_eq_some_iff.1 hg).1
theorem ORows.shape {α : Type} {w : World} {e : TypeId} {c : Nat} {R : List Value → α → List Nat → Prop} {v : Value} {xs : List α} {fp : List Nat} (h : ORows w e c R v xs fp) : ∃ p cap, v = .slice p xs.length cap ∧ xs.length ≤ cap ∧ cap ≤ maxLen := by
  rcases h with ⟨rfl, _, p, cap, hv, hc⟩ | ⟨_, cells, g, cap, fps, ho, hv, _⟩
  · exact ⟨p, cap, hv, Nat.zero_le _, hc⟩
  · rcases ho.2 with hn | ⟨g', cap', cur, hv', hb, hg, hr⟩
    · rw [hn.1] at hv; cases hv
    · exact ⟨_, _, hv', hr.1, hr.2.1⟩

theorem ORows.rows {α : Type} {w : World} {e : TypeId} {c : Nat} {R : List Value → α → List Nat → Prop} {R' : List Value → α → Prop} {S : Nat → Prop} {v : Value} {xs : List α} {fp : List Nat} (h : ORows w e c R v xs fp) (hS : ∀ a ∈ fp, S a)
    (hR : ∀ cs x f, x ∈ xs → (∀ a ∈ f, a ∈ fp) → R cs x f → R' cs x) : Rows w S c R' v xs := by
  obtain ⟨p, cap, hv, h1, h2⟩ := h.shape
  refine ⟨p, cap, hv, h1, h2, fun hne => ?_⟩
  rcases h with h | ⟨_, cells, g, cap', fps, ho, hv', hl, rfl, hat⟩
  · exact absurd h.1 hne
  have hp : p = some ⟨g, 0, none⟩ := by rw [hv] at hv'; simp at hv'; exact hv'.1
  refine ⟨g, 0, hp, hS g (by simp), owns_lt ho hv', fun i x hi => ?_⟩
  have hil : i < xs.length := (List.getElem?_eq_some_iff.1 hi).1
  obtain ⟨f, hf⟩ : ∃ f, fps[i]? = some f := ⟨fps[i]'(by rw [hl]; exact hil), List.getElem?_eq_getElem _⟩
  obtain ⟨cs, hcl, hcs, hr⟩ := hat i x f hi hf
  refine ⟨cs, hcl, fun j hj => ?_, hR cs x f (List.mem_of_getElem? hi) (fun a ha => ?_) hr⟩
  · rw [← hcs j hj, Nat.zero_add]
    rw [hv'] at ho
    refine ho.cellAt (i * c + j) ?_
    have : i * c + c ≤ xs.length * c := by rw [← Nat.succ_mul]; exact Nat.mul_le_mul_right c hil
    omega
  · exact List.mem_cons_of_mem _ (List.mem_flatten.2 ⟨f, List.mem_of_getElem? hf, ha⟩)

theorem ORows.keep {α : Type} {w w' : World} {e : TypeId} {c : Nat} {R R' : List Value → α → List Nat → Prop} {v : Value} {xs : List α} {fp : List Nat} (h : ORows w e c R v xs fp) (hk : KeepOn fp w w')
    (hR : ∀ cs x f, x ∈ xs → (∀ a ∈ f, a ∈ fp) → R cs x f → R' cs x f) : ORows w' e c R' v xs fp := by
  rcases h with h | ⟨hne, cells, g, cap', fps, ho, hv', hl, rfl, hat⟩
  · exact .inl h
  refine .inr ⟨hne, cells, g, cap', fps, owns_block ho hv' (hk g (by simp)), hv', hl, rfl, fun i x f hi hf => ?_⟩
  obtain ⟨cs, hcl, hcs, hr⟩ := hat i x f hi hf
  exact ⟨cs, hcl, hcs, hR cs x f (List.mem_of_getElem? hi) (fun a ha => List.mem_cons_of_mem _ (List.mem_flatten.2 ⟨f, List.mem_of_getElem? hf, ha⟩)) hr⟩

theorem ORows.lt {α : Type} {w : World} {e : TypeId} {c : Nat} {R : List Value → α → List Nat → Prop} {v : Value} {xs : List α} {fp : List Nat} (h : ORows w e c R v xs fp) (hR : ∀ cs x f, R cs x f → ∀ a ∈ f, a < w.heap.size) : ∀ a ∈ fp, a < w.heap.size := by
  rcases h with ⟨_, rfl, _⟩ | ⟨hne, cells, g, cap', fps, ho, hv', hl, rfl, hat⟩
  · intro a ha; simp at ha
  · intro a ha
    rcases List.mem_cons.1 ha with rfl | ha
    · exact owns_lt ho hv'
    · obtain ⟨f, hf, ha⟩ := List.mem_flatten.1 ha
      obtain ⟨i, hi, rfl⟩ := List.mem_iff_getElem.1 hf
      obtain ⟨cs, _, _, hr⟩ := hat i (xs[i]'(by rw [← hl]; exact hi)) _ (List.getElem?_eq_getElem _) (List.getElem?_eq_getElem hi)
      exact hR _ _ _ hr a ha

/-- One element of a row is turned, its part of the blocks with it. -/
theorem ORows.set {α : Type} {w' : World} {e : TypeId} {c : Nat} {R R' : List Value → α → List Nat → Prop} {v : Value} {xs : List α} {cells cells' : List Value} {g cap : Nat} {fps : List (List Nat)} {i : Nat} {x' : α} {f : List Nat}
    (hne : xs ≠ []) (ho : w'.ownsRow 0 e c v xs.length cells') (hv : v = .slice (some ⟨g, 0, none⟩) xs.length cap) (hl : fps.length = xs.length)
    (hat : ∀ (i : Nat) x f, xs[i]? = some x → fps[i]? = some f → ∃ cs : List Value, cs.length = c ∧ (∀ j, j < c → cells[i * c + j]? = cs[j]?) ∧ R cs x f) (hf : fps[i]? = some f)
    (hother : ∀ m, (m < i * c ∨ i * c + c ≤ m) → cells'[m]? = cells[m]?) (cs' : List Value) (hcl : cs'.length = c) (hcs : ∀ j, j < c → cells'[i * c + j]? = cs'[j]?) (hr : R' cs' x' f)
    (hk : ∀ (j : Nat) y f' cs, j ≠ i → fps[j]? = some f' → R cs y f' → R' cs y f') : ORows w' e c R' v (xs.set i x') (g :: fps.flatten) := by
  refine .inr ⟨fun h => hne (by cases xs with | nil => rfl | cons a l => cases i <;> simp at h), cells', g, cap, fps, by rw [List.length_set]; exact ho, by rw [List.length_set]; exact hv, by rw [List.length_set]; exact hl, rfl, fun j y f' hj hf' => ?_⟩
  by_cases hji : j = i
  · subst hji
    have hjl : j < xs.length := by rw [← hl]; exact (List.getElem?_eq_some_iff.1 hf).1
    rw [List.getElem?_set_self hjl] at hj
    obtain rfl := Option.some.inj hj
    obtain rfl := Option.some.inj (hf.symm.trans hf')
    exact ⟨cs', hcl, hcs, hr⟩
  · rw [List.getElem?_set_ne (fun h => hji h.symm)] at hj
    obtain ⟨cs, h1, h2, h3⟩ := hat j y f' hj hf'
    refine ⟨cs, h1, fun q hq => ?_, hk j y f' cs hji hf' h3⟩
    rw [hother _ ?_]
    · exact h2 q hq
    · rcases Nat.lt_or_gt_of_ne hji with h | h
      · left; have : j * c + c ≤ i * c := by rw [← Nat.succ_mul]; exact Nat.mul_le_mul_right c h
        omega
      · right; have : i * c + c ≤ j * c := by rw [← Nat.succ_mul]; exact Nat.mul_le_mul_right c h
        omega

/-- The parts of a list of blocks without a repetition. -/
theorem nodup_parts {g : Nat} {fps : List (List Nat)} (h : (g :: fps.flatten).Nodup) :
    (∀ f ∈ fps, g ∉ f ∧ f.Nodup) ∧ ∀ (i j : Nat) f f', i ≠ j → fps[i]? = some f → fps[j]? = some f' → ∀ a ∈ f, a ∉ f' := by
  rw [List.nodup_cons] at h
  obtain ⟨hg, hp⟩ := h
  obtain ⟨h1, h2⟩ := List.pairwise_flatten.1 hp
  refine ⟨fun f hf => ⟨fun hm => hg (List.mem_flatten.2 ⟨f, hf, hm⟩), h1 f hf⟩, fun i j f f' hij hi hj a ha ha' => ?_⟩
  rw [List.pairwise_iff_getElem] at h2
  obtain ⟨hi1, rfl⟩ := List.getElem?_eq_some_iff.1 hi
  obtain ⟨hj1, rfl⟩ := List.getElem?_eq_some_iff.1 hj
  rcases Nat.lt_or_gt_of_ne hij with hlt | hlt
  · exact h2 i j hi1 hj1 hlt a ha a ha' rfl
  · exact h2 j i hj1 hi1 hlt a ha' a ha rfl

/-- A list whose first i are those of ys, the rest of xs. -/
def mix {α : Type} (i : Nat) (ys xs : List α) : List α := ys.take i ++ xs.drop i
theorem mix_zero {α : Type} (ys xs : List α) : mix 0 ys xs = xs := by simp [mix]
theorem mix_all {α : Type} {ys xs : List α} {i : Nat} (hl : ys.length = xs.length) (h : xs.length ≤ i) : mix i ys xs = ys := by
  unfold mix; rw [List.take_of_length_le (by omega), List.drop_of_length_le h, List.append_nil]
theorem mix_length {α : Type} {ys xs : List α} {i : Nat} (hl : ys.length = xs.length) : (mix i ys xs).length = xs.length := by
  unfold mix; rw [List.length_append, List.length_take, List.length_drop]; omega
theorem mix_at {α : Type} {ys xs : List α} {i : Nat} (hl : ys.length = xs.length) (hi : i < xs.length) : (mix i ys xs)[i]? = xs[i]? := by
  unfold mix
  rw [List.getElem?_append_right (by rw [List.length_take]; omega), List.length_take, List.getElem?_drop]
  congr 1; omega
theorem mix_succ {α : Type} {ys xs : List α} {i : Nat} {y : α} (hl : ys.length = xs.length) (hy : ys[i]? = some y) : (mix i ys xs).set i y = mix (i + 1) ys xs := by
  have hi : i < ys.length := (List.getElem?_eq_some_iff.1 hy).1
  unfold mix
  rw [List.set_append_right (h := by rw [List.length_take]; omega), List.length_take, Nat.min_eq_left (by omega), Nat.sub_self, List.take_add_one, hy, List.append_assoc]
  congr 1
  rw [List.drop_eq_getElem_cons (i := i) (l := xs) (by omega)]
  rfl

/-- Element by element, with a count that goes on. -/
def markL {α : Type} (f : Nat → α → α) (c : α → Nat) : Nat → List α → List α
  | _, [] => []
  | k, x :: xs => f k x :: markL f c (k + c x) xs
theorem markL_length {α : Type} (f : Nat → α → α) (c : α → Nat) : ∀ (k : Nat) (xs : List α), (markL f c k xs).length = xs.length
  | _, [] => rfl
  | k, x :: xs => by simp [markL, markL_length f c (k + c x) xs]
theorem markL_at {α : Type} (f : Nat → α → α) (c : α → Nat) : ∀ (k : Nat) (xs : List α) (i : Nat) (x : α), xs[i]? = some x → (markL f c k xs)[i]? = some (f (k + ((xs.take i).map c).sum) x)
  | _, [], i, x, h => by simp at h
  | k, y :: xs, 0, x, h => by simp at h; subst h; simp [markL]
  | k, y :: xs, i + 1, x, h => by
    simp at h
    simp only [markL, List.getElem?_cons_succ, markL_at f c (k + c y) xs i x h, List.take_succ_cons, List.map_cons, List.sum_cons, Nat.add_assoc]

/-- A row of n elements that is being made in block G: its first k are those of es. -/
structure Made {α : Type} (w wr : World) (G n : Nat) (e : TypeId) (c : Nat) (O : World → List Value → α → List Nat → Prop) (es : List α) (k : Nat) (xs : List Value) (fps : List (List Nat)) : Prop where
  own : wr.ownsRow G e c (.slice (some ⟨G, 0, none⟩) n n) n xs
  len : fps.length = k
  nd : fps.flatten.Nodup
  rng : ∀ a ∈ fps.flatten, G < a ∧ a < wr.heap.size
  el : ∀ (i : Nat) x f, es[i]? = some x → fps[i]? = some f → ∃ cs : List Value, cs.length = c ∧ (∀ j, j < c → xs[i * c + j]? = cs[j]?) ∧ O wr cs x f
  below : Below G w wr
  sz : G + 1 ≤ wr.heap.size

variable {α : Type} {w wr : World} {G n c k : Nat} {e : TypeId} {O : World → List Value → α → List Nat → Prop} {es : List α} {xs : List Value} {fps : List (List Nat)}

theorem Made.start {M : Array Value} (hM : M.size = n * c) (hn : n ≤ maxLen) : Made w (w.alloc (.cells M e)) w.heap.size n e c O es 0 M.toList [] :=
  ⟨World.ownsRow_lit w M n (Nat.le_refl _) hn hM, rfl, by simp, fun a ha => by simp at ha, fun i x f _ hf => by simp at hf, (Below.refl _ _).alloc (Nat.le_refl _) _, by rw [alloc_hs]; exact Nat.le_refl _⟩

theorem Made.step (hO : ∀ w w' cs x f, O w cs x f → KeepOn f w w' → O w' cs x f) (h : Made w wr G n e c O es k xs fps) {w1 w2 : World} {x : α} {cs xs' : List Value} {f : List Nat} (hx : es[k]? = some x) (hb : Below wr.heap.size wr w1) (ho : O w1 cs x f)
    (hnd : f.Nodup) (hf : ∀ a ∈ f, wr.heap.size ≤ a ∧ a < w1.heap.size) (hcl : cs.length = c) (hown : w2.ownsRow G e c (.slice (some ⟨G, 0, none⟩) n n) n xs') (hgr : w1.grownBy w2 (some G))
    (hlow : ∀ m, m < k * c → xs'[m]? = xs[m]?) (hself : ∀ j, j < c → xs'[k * c + j]? = cs[j]?) : Made w w2 G n e c O es (k + 1) xs' (fps ++ [f]) := by
  have h1 := h.sz
  have h2 := hb.size
  have h3 := hgr.size
  refine ⟨hown, by rw [List.length_append, h.len]; rfl, ?_, ?_, ?_, ?_, by omega⟩
  · rw [List.flatten_append, List.nodup_append]
    refine ⟨h.nd, by simpa using hnd, fun a ha b hb' => ?_⟩
    have := (h.rng a ha).2
    have := (hf b (by simpa using hb')).1
    omega
  · intro a ha
    rw [List.flatten_append, List.mem_append] at ha
    rcases ha with ha | ha
    · have := h.rng a ha; omega
    · have := hf a (by simpa using ha); omega
  · intro i y f' hy hf'
    by_cases hik : i < k
    · rw [List.getElem?_append_left (by rw [h.len]; exact hik)] at hf'
      obtain ⟨cs', g1, g2, g3⟩ := h.el i y f' hy hf'
      refine ⟨cs', g1, fun j hj => ?_, hO _ _ _ _ _ g3 (fun a ha => ?_)⟩
      · rw [hlow]
        · exact g2 j hj
        · have : i * c + c ≤ k * c := by rw [← Nat.succ_mul]; exact Nat.mul_le_mul_right c hik
          omega
      · have hr := h.rng a (List.mem_flatten.2 ⟨f', List.mem_of_getElem? hf', ha⟩)
        exact (hgr.block a (by omega) (by simp; omega)).trans (hb.block a hr.2)
    · have hil : i < k + 1 := by
        have := (List.getElem?_eq_some_iff.1 hf').1
        rw [List.length_append, h.len] at this; simpa using this
      obtain rfl : i = k := by omega
      obtain rfl : x = y := Option.some.inj (hx.symm.trans hy)
      rw [List.getElem?_append_right (by rw [h.len]; exact Nat.le_refl _), h.len, Nat.sub_self] at hf'
      simp at hf'
      subst hf'
      exact ⟨cs, hcl, hself, hO _ _ _ _ _ ho (fun a ha => by have := hf a ha; exact hgr.block a (by omega) (by simp; omega))⟩
  · exact h.below.trans ((hb.mono (by omega)).trans ⟨hgr.os, hgr.tape, hgr.output, hgr.size, fun j hj => hgr.block j (by omega) (by simp; omega)⟩)

theorem Made.done (h : Made w wr G n e c O es n xs fps) (hn : es.length = n) (hm : n ≤ maxLen) : ∃ fp, ORows wr e c (O wr) (.slice (some ⟨G, 0, none⟩) n n) es fp ∧ fp.Nodup ∧ ∀ a ∈ fp, G ≤ a ∧ a < wr.heap.size := by
  by_cases hne : es = []
  · subst hne
    exact ⟨[], .inl ⟨rfl, rfl, _, _, by rw [← hn]; rfl, hm⟩, by simp, fun a ha => by simp at ha⟩
  · refine ⟨G :: fps.flatten, .inr ⟨hne, xs, G, n, fps, ?_, by rw [hn], by rw [h.len, hn], rfl, h.el⟩, ?_, ?_⟩
    · rw [hn]
      obtain ⟨h1, h2⟩ := h.own
      refine ⟨h1, h2.imp id ?_⟩
      rintro ⟨g, cap, cur, a1, a2, a3⟩
      exact ⟨g, cap, cur, a1, Nat.zero_le _, a3⟩
    · rw [List.nodup_cons]
      exact ⟨fun hm => by have := (h.rng G hm).1; omega, h.nd⟩
    · intro a ha
      have := h.sz
      rcases List.mem_cons.1 ha with rfl | ha
      · omega
      · have := h.rng a ha; omega

/-- A function that makes a copy, of what is not too great, in new memory that the copy owns. -/
def ToO {α : Type} (F : FuncId) (H : World → Value → α → Prop) (O : World → Value → α → List Nat → Prop) (wt : α → Nat) : Prop :=
  ∀ (w : World) (v : Value) (x : α), H w v x → wt x ≤ 1048576 → Calls Tryz.prog F #[v] w fun e w' => ∃ u fp, e = .returned u ∧ O w' u x fp ∧ fp.Nodup ∧ (∀ a ∈ fp, w.heap.size ≤ a ∧ a < w'.heap.size) ∧ Below w.heap.size w w'
end Go.Proofs.YtmnghlkkfkpjhaaGreatDoor
/-
  Values that own their memory.
-/
namespace Go.Proofs.YtmnghlkkfkpjhaaGreatDoor
open Go.ChangeShapes Go.WideShapes Go.ChangeAt Go.RowKit
set_option linter.unusedVariables false

/-- Four cells that are a value which owns its memory. -/
def OVa (w : World) : Nat → List Value → Va → List Nat → Prop
  | 0, _, _, _ => False
  | d + 1, cs, e, fp => ∃ kv, cs = [.int .i64 e.kind, .int .i64 e.n, .string e.text, kv] ∧ okI e.kind ∧ okI e.n ∧ okS e.text ∧ ORows w 26 4 (OVa w d) kv e.kids fp

theorem OVa.keep {w w' : World} : ∀ {d : Nat} {cs : List Value} {e : Va} {fp : List Nat}, OVa w d cs e fp → KeepOn fp w w' → OVa w' d cs e fp
  | 0, _, _, _, h, _ => h.elim
  | d + 1, cs, e, fp, h, hk => by
    obtain ⟨kv, rfl, h1, h2, h3, hr⟩ := h
    exact ⟨kv, rfl, h1, h2, h3, hr.keep hk (fun cs x f _ hs h => h.keep (hk.sub hs))⟩
theorem OVa.tree {w : World} {S : Nat → Prop} : ∀ {d : Nat} {cs : List Value} {e : Va} {fp : List Nat}, OVa w d cs e fp → (∀ a ∈ fp, S a) → HVa w S d cs e
  | 0, _, _, _, h, _ => h.elim
  | d + 1, cs, e, fp, h, hS => by
    obtain ⟨kv, rfl, h1, h2, h3, hr⟩ := h
    exact ⟨kv, rfl, h1, h2, h3, hr.rows hS (fun cs x f _ hs h => h.tree (fun a ha => hS a (hs a ha)))⟩
theorem OVa.lt {w : World} : ∀ {d : Nat} {cs : List Value} {e : Va} {fp : List Nat}, OVa w d cs e fp → ∀ a ∈ fp, a < w.heap.size
  | 0, _, _, _, h => h.elim
  | d + 1, cs, e, fp, h => by
    obtain ⟨kv, rfl, h1, h2, h3, hr⟩ := h
    exact hr.lt (fun cs x f h => h.lt)
theorem OVa.shape {w : World} {d : Nat} {cs : List Value} {e : Va} {fp : List Nat} (h : OVa w d cs e fp) : ∃ sk sn st p1 n1 q1, cs = [.int .i64 sk, .int .i64 sn, .string st, .slice p1 n1 q1] :=
  (h.tree (S := All) (fun _ _ => trivial)).shape
theorem ORows.tree {w : World} {S : Nat → Prop} {d : Nat} {v : Value} {es : List Va} {fp : List Nat} (h : ORows w 26 4 (OVa w d) v es fp) (hS : ∀ a ∈ fp, S a) : Rows w S 4 (HVa w S d) v es :=
  h.rows hS (fun cs x f _ hs h => h.tree (fun a ha => hS a (hs a ha)))
end Go.Proofs.YtmnghlkkfkpjhaaGreatDoor
