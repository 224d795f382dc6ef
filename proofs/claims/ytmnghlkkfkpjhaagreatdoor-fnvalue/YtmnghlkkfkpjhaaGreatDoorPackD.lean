/-
  Texts of the proof, packed: TextMath, FvMath, DrawA, StrRow, DrawB, RowG, Grow.
-/
import Derived.Test.YtmnghlkkfkpjhaaGreatDoorPackB
import Derived.Test.YtmnghlkkfkpjhaaGreatDoorPackC
import Derived.Deep.QuietTactic
import Derived.BigQuiet
import Derived.Deep.RegionWith
import Derived.Test.YtmnghlkkfkpjhaaGreatDoorPackA
import Derived.Laws.AppendOwn
import Derived.Laws.AppendOwnNone
import Derived.OwnWalk
import Derived.Deep.AppendLies
/-
  The texts of values, as lists of bytes: plain mathematics.
-/
namespace Go.Proofs.YtmnghlkkfkpjhaaGreatDoor
open Go.ChangeShapes Go.WideShapes Go.ChangeAt Go.RowKit
set_option linter.unusedVariables false

/-- Texts with something between two. -/
def joinT (sep : List UInt8) : List (List UInt8) → List UInt8
  | [] => []
  | x :: xs => x ++ (xs.map (sep ++ ·)).flatten
theorem joinT_one (sep x : List UInt8) : joinT sep [x] = x := by simp [joinT]
theorem joinT_snoc (sep : List UInt8) (xs : List (List UInt8)) (x : List UInt8) (h : xs ≠ []) : joinT sep (xs ++ [x]) = joinT sep xs ++ (sep ++ x) := by
  cases xs with
  | nil => exact absurd rfl h
  | cons y ys => simp [joinT]
theorem joinT_length (sep : List UInt8) (xs : List (List UInt8)) : (joinT sep xs).length ≤ sep.length * xs.length + (xs.map List.length).sum := by
  cases xs with
  | nil => simp [joinT]
  | cons y ys =>
    have : ((ys.map (sep ++ ·)).flatten).length = sep.length * ys.length + (ys.map List.length).sum := by
      induction ys with
      | nil => simp
      | cons z zs ih => simp [List.flatten_cons, ih, Nat.mul_add]; omega
    simp [joinT, this, Nat.mul_add]; omega

/-- The text of a value. -/
def vaTxt : Nat → Va → List UInt8
  | 0, _ => []
  | d + 1, x => if x.kind = 0 then Lib.itoa x.n else if x.kind = 1 then x.text.data.toList else if x.kind = 2 then [123] ++ joinT [44, 32] (x.kids.map (vaTxt d)) ++ [125]
    else if x.kind = 3 then [91, 93] else if x.kind = 4 then [91] ++ joinT [32, 124, 32] (x.kids.map (vaTxt d)) ++ [93] else []

theorem itoa_len (n : Int) (h0 : -9223372036854775808 ≤ n) (h1 : n ≤ 9223372036854775807) : (Lib.itoa n).length ≤ 21 := by
  have := digits_le n h0 h1
  by_cases h : n < 0
  · rw [itoa_neg n h]; simp; omega
  · rw [itoa_pos n (by omega)]; omega

/-- Numbers of a value are of 64 bits. -/
def vaI : Nat → Va → Prop
  | 0, _ => False
  | d + 1, x => okI x.kind ∧ okI x.n ∧ ∀ y ∈ x.kids, vaI d y
theorem okI_bd {n : Int} (h : okI n) : -9223372036854775808 ≤ n ∧ n ≤ 9223372036854775807 := by
  unfold okI at h
  simp only [Lit.wf, IntKind.min, IntKind.max, IntKind.signed, IntKind.bits, Bool.and_eq_true, decide_eq_true_eq, if_true] at h
  exact ⟨by omega, by omega⟩
theorem HVa.ints {w : World} {S : Nat → Prop} : ∀ {d : Nat} {cs : List Value} {x : Va}, HVa w S d cs x → vaI d x
  | 0, _, _, h => h.elim
  | d + 1, cs, x, h => by
    obtain ⟨kv, rfl, h1, h2, h3, p, cap, rfl, _, _, hr⟩ := h
    refine ⟨h1, h2, fun y hy => ?_⟩
    obtain ⟨i, hi⟩ := List.mem_iff_getElem?.1 hy
    obtain ⟨g, off, _, _, _, hat⟩ := hr (by intro e; rw [e] at hi; simp at hi)
    obtain ⟨cs, _, _, hv⟩ := hat i y hi
    exact hv.ints

theorem HVa.lowT {w : World} {S : Nat → Prop} : ∀ {d : Nat} {cs : List Value} {e : Va}, HVa w S d cs e → HVa w (fun a => S a ∧ a < w.heap.size) d cs e
  | 0, _, _, h => h.elim
  | d + 1, cs, e, h => by
    obtain ⟨kv, rfl, h1, h2, h3, p, cap, hv, g1, g2, hx⟩ := h
    refine ⟨kv, rfl, h1, h2, h3, p, cap, hv, g1, g2, fun hne => ?_⟩
    obtain ⟨g, off, hp, hS, hl, hat⟩ := hx hne
    refine ⟨g, off, hp, ⟨hS, hl⟩, hl, fun i x hi => ?_⟩
    obtain ⟨cs, q1, q2, q3⟩ := hat i x hi
    exact ⟨cs, q1, q2, q3.lowT⟩

theorem sum_le {α : Type} (f g : α → Nat) : ∀ (xs : List α), (∀ x ∈ xs, f x ≤ g x) → (xs.map f).sum ≤ (xs.map g).sum
  | [], _ => by simp
  | x :: xs, h => by
    have h1 := h x (by simp)
    have h2 := sum_le f g xs (fun y hy => h y (by simp [hy]))
    simp; omega
theorem sum_lin {α : Type} (f : α → Nat) (a b : Nat) : ∀ (xs : List α), (xs.map (fun x => a + b * f x)).sum = a * xs.length + b * (xs.map f).sum
  | [] => by simp
  | x :: xs => by simp [sum_lin f a b xs, Nat.mul_add]; omega

theorem joinT_bound (d : Nat) (sep : List UInt8) (hs : sep.length ≤ 3) (ys : List Va) (ih : ∀ y ∈ ys, (vaTxt d y).length ≤ 22 + 25 * wtVa d y) : (joinT sep (ys.map (vaTxt d))).length ≤ 25 * wtS (wtVa d) ys := by
  have h1 := joinT_length sep (ys.map (vaTxt d))
  have h2 := sum_le (fun y => (vaTxt d y).length) (fun y => 22 + 25 * wtVa d y) ys ih
  rw [sum_lin] at h2
  have h3 : sep.length * ys.length ≤ 3 * ys.length := Nat.mul_le_mul_right _ hs
  simp only [List.length_map, List.map_map] at h1
  have h4 : ((ys.map (List.length ∘ vaTxt d))).sum = (ys.map fun y => (vaTxt d y).length).sum := rfl
  rw [h4] at h1
  unfold wtS
  omega
theorem vaTxt_len : ∀ (d : Nat) (x : Va), vaI d x → (vaTxt d x).length ≤ 22 + 25 * wtVa d x
  | 0, x, h => h.elim
  | d + 1, x, h => by
    obtain ⟨h1, h2, hk⟩ := h
    have hb := okI_bd h2
    have hi := itoa_len x.n hb.1 hb.2
    have hj1 := joinT_bound d [44, 32] (by simp) x.kids (fun y hy => vaTxt_len d y (hk y hy))
    have hj2 := joinT_bound d [32, 124, 32] (by simp) x.kids (fun y hy => vaTxt_len d y (hk y hy))
    have hw : wtVa (d + 1) x = x.text.size + wtS (wtVa d) x.kids := rfl
    have hts : x.text.data.toList.length = x.text.size := by rw [Array.length_toList]; rfl
    unfold vaTxt
    rw [hw]
    split
    · omega
    split
    · rw [hts]; omega
    split
    · simp only [List.length_append, List.length_cons, List.length_nil]; omega
    split
    · simp only [List.length_cons, List.length_nil]; omega
    split
    · simp only [List.length_append, List.length_cons, List.length_nil]; omega
    · simp
end Go.Proofs.YtmnghlkkfkpjhaaGreatDoor
/-
  What FnValue's walk leans on: the weights of what a match binds; the order's laws in the form that the walk asks.
-/
namespace Go.Proofs.YtmnghlkkfkpjhaaGreatDoor
open Go.ChangeShapes Go.WideShapes Go.ChangeAt Go.RowKit
set_option linter.unusedVariables false
set_option maxRecDepth 100000

theorem wtVa_up : ∀ (d : Nat) (x : Va), dpV d x → wtVa (d + 1) x ≤ wtVa d x
  | 0, _, h => h.elim
  | d + 1, x, h => by
    show x.text.size + wtS (wtVa (d + 1)) x.kids ≤ x.text.size + wtS (wtVa d) x.kids
    have h1 : (x.kids.map (wtVa (d + 1))).sum ≤ (x.kids.map (wtVa d)).sum := sum_le _ _ _ (fun y hy => wtVa_up d y (h y hy))
    unfold wtS
    omega
theorem dpV_up : ∀ (d : Nat) (x : Va), dpV d x → dpV (d + 1) x
  | 0, _, h => h.elim
  | d + 1, x, h => fun y hy => dpV_up d y (h y hy)
theorem wtVa_ge {d : Nat} {x : Va} (h : dpV d x) : ∀ (j : Nat), dpV (d + j) x ∧ wtVa (d + j) x ≤ wtVa d x
  | 0 => ⟨h, Nat.le_refl _⟩
  | j + 1 => ⟨dpV_up _ _ (wtVa_ge h j).1, Nat.le_trans (wtVa_up _ _ (wtVa_ge h j).1) (wtVa_ge h j).2⟩
theorem wtS_mem {α : Type} {f : α → Nat} {es : List α} {x : α} (h : x ∈ es) : f x ≤ wtS f es := by
  obtain ⟨a, b, rfl⟩ := List.append_of_mem h
  simp [wtS]
  omega
/-- The value and all that it has, k deep, are light. -/
def lightV (D N : Nat) : Nat → Va → Prop
  | 0, _ => True
  | k + 1, v => wtVa D v ≤ N ∧ ∀ y ∈ v.kids, lightV D N k y
theorem light_of {D N : Nat} : ∀ (k d : Nat) (v : Va), dpV d v → d ≤ D → wtVa d v ≤ N → lightV D N k v
  | 0, _, _, _, _, _ => trivial
  | k + 1, 0, _, h, _, _ => h.elim
  | k + 1, d + 1, v, h, hd, hw => by
    refine ⟨?_, fun y hy => light_of k d y (h y hy) (by omega) (Nat.le_trans (Nat.le_trans (wtS_mem hy) (Nat.le_add_left _ _)) hw)⟩
    have := (wtVa_ge h (D - (d + 1))).2
    rw [show d + 1 + (D - (d + 1)) = D by omega] at this
    omega
theorem kidsM_light {f : Ex → Va → List Bd → Option (List Bd)} {Q : Va → Prop} {R : Bd → Prop} (hf : ∀ p v env out, Q v → (∀ b ∈ env, R b) → f p v env = some out → ∀ b ∈ out, R b) :
    ∀ (ps : List Ex) (vs : List Va) (env out : List Bd), (∀ v ∈ vs, Q v) → (∀ b ∈ env, R b) → kidsM f ps vs env = some out → ∀ b ∈ out, R b
  | [], [], env, out, _, he, h => by simp only [kidsM, Option.some.injEq] at h; subst h; exact he
  | [], _ :: _, _, _, _, _, h => by simp [kidsM] at h
  | _ :: _, [], _, _, _, _, h => by simp [kidsM] at h
  | p :: ps, v :: vs, env, out, hq, he, h => by
    simp only [kidsM] at h
    cases h1 : f p v env with
    | none => rw [h1] at h; cases h
    | some e =>
      rw [h1] at h
      exact kidsM_light hf ps vs e out (fun v hv => hq v (List.mem_cons_of_mem _ hv)) (hf p v env e (hq v (by simp)) he h1) h
theorem matchM_light (D N : Nat) : ∀ k (p : Ex) (v : Va) (env out : List Bd), lightV D N k v → (∀ b ∈ env, wtVa D b.val ≤ N) → matchM D k p v env = some out → ∀ b ∈ out, wtVa D b.val ≤ N
  | 0, _, _, _, _, _, _, h => by simp [matchM] at h
  | k + 1, p, v, env, out, hv, he, h => by
    have same : some env = some out → ∀ b ∈ out, wtVa D b.val ≤ N := fun e => by rw [← Option.some.inj e]; exact he
    have kids : kidsM (matchM D k) p.kids v.kids env = some out → ∀ b ∈ out, wtVa D b.val ≤ N := fun e => kidsM_light (Q := lightV D N k) (R := fun b => wtVa D b.val ≤ N) (fun p v env out hv he h => matchM_light D N k p v env out hv he h) _ _ _ _ hv.2 he e
    simp only [matchM] at h
    split at h
    · split at h
      · exact same h
      · cases h
    split at h
    · split at h
      · exact same h
      · cases h
    split at h
    · unfold varM at h
      split at h
      · split at h
        · exact same h
        · cases h
      · rw [← Option.some.inj h]
        intro b hb
        rcases List.mem_append.1 hb with hb | hb
        · exact he b hb
        · rw [List.mem_singleton.1 hb]; exact hv.1
    split at h
    · exact same h
    split at h
    · split at h
      · exact kids h
      · cases h
    split at h
    · split at h
      · exact same h
      · cases h
    split at h
    · split at h
      · exact kids h
      · cases h
    · cases h
end Go.Proofs.YtmnghlkkfkpjhaaGreatDoor
/-
  What the specification's own draws do: a cursor in memory (what is left of the code, and a number that is mixed on), the numbers and texts that are taken from it. Nothing but the cursor turns.
-/
namespace Go.Proofs.YtmnghlkkfkpjhaaGreatDoor
open Go.ChangeShapes Go.WideShapes Go.ChangeAt Go.RowKit
set_option linter.unusedVariables false

def HByte (cs : List Value) (b : Nat) : Prop := cs = [.int .u8 b] ∧ b ≤ 255

/-- The cursor at p. -/
def Cur (w : World) (p : Nat) : Prop := ∃ (cv : Value) (xs : List Nat) (i : Nat) (h : Int), Blk w p #[cv, .int .i64 i, .int .i64 h] 81 ∧ i ≤ xs.length ∧ xs.length ≤ 1048576 ∧ Rows w (fun g => g < p) 1 HByte cv xs

theorem and_mask (x : Int) (m : Nat) (hm : m < 4611686018427387904) : ∃ y : Nat, y ≤ m ∧ bits .and .i64 x (m : Int) = (y : Int) := by
  have hle : (BitVec.ofInt 64 x &&& BitVec.ofInt 64 (m : Int)).toNat ≤ m := by
    rw [BitVec.toNat_and, BitVec.ofInt_natCast, BitVec.toNat_ofNat, Nat.mod_eq_of_lt (by omega)]
    exact Nat.and_le_right
  refine ⟨_, hle, ?_⟩
  show IntKind.i64.wrap ((BitVec.ofInt 64 x &&& BitVec.ofInt 64 (m : Int)).toNat : Int) = _
  rw [IntKind.wrap_i64]
  generalize (BitVec.ofInt 64 x &&& BitVec.ofInt 64 (m : Int)).toNat = y at hle ⊢
  omega

theorem Off.setCell {p : Nat} {w : World} {j : Nat} {v : Value} : Off [p] w (w.setCell ⟨p, j, none⟩ v) :=
  ⟨rfl, rfl, rfl, by rw [setCell_hs]; exact Nat.le_refl _, fun a ha hp => Below.heap_setCell _ _ _ _ (by simpa using hp)⟩
theorem Off.drew {fp : List Nat} {w : World} {k : Nat} : Off fp w (w.drewN k) := Off.of_below (below_drewN (Below.refl _ _) _)
theorem Rows.off {α : Type} {w w' : World} {p c : Nat} {R : List Value → α → Prop} {v : Value} {xs : List α} (h : Rows w (fun g => g ≠ p) c R v xs) (ho : Off [p] w w') : Rows w' (fun g => g ≠ p) c R v xs :=
  Rows.mono h ⟨ho.size, fun g hg hl => ho.block g hl (by simpa using hg)⟩ (fun _ h => h) (fun _ _ _ h => h)
theorem Rows.offL {α : Type} {w w' : World} {p c : Nat} {R : List Value → α → Prop} {v : Value} {xs : List α} (h : Rows w (fun g => g < p) c R v xs) (ho : Off [p] w w') : Rows w' (fun g => g < p) c R v xs :=
  Rows.mono h ⟨ho.size, fun g hg hl => ho.block g hl (by simp; have : g < p := hg; omega)⟩ (fun _ h => h) (fun _ _ _ h => h)
theorem Blk.drew {w : World} {b k : Nat} {cs : Array Value} {t : TypeId} (h : Blk w b cs t) : Blk (w.drewN k) b cs t := h

theorem l01Byte_any (p : Nat) (w : World) (hc : Cur w p) :
    Calls Tryz.prog 66 #[.pointer (some ⟨p, 0, none⟩)] w fun e w' => ∃ x : Nat, x ≤ 255 ∧ e = .returned (.int .i64 x) ∧ Cur w' p ∧ Off [p] w w' := by
  obtain ⟨cv, xs, i, h, hb, hi, hx, hr⟩ := hc
  have HR : Hid (Rows w (fun g => g < p) 1 HByte cv xs) := hr
  obtain ⟨sp, cap, rfl, hl, hm, hrow⟩ := hr
  have c2 := hb.cell 2 _ rfl
  have f2 := hb.frozen 2
  go_enter Tryz.func66, Tryz.ntmps66
  go_wp2
  generalize wrap64 (wrap64 (h * 6364136223846793005) + 1442695040888963407) = h1
  have hb1 : Blk (w.setCell ⟨p, 2, none⟩ (.int .i64 h1)) p #[.slice sp xs.length cap, .int .i64 i, .int .i64 h1] 81 := hb.same rfl
  have ho1 : Off [p] w (w.setCell ⟨p, 2, none⟩ (.int .i64 h1)) := Off.setCell
  clear c2 f2
  generalize hw1 : w.setCell ⟨p, 2, none⟩ (.int .i64 h1) = w1 at hb1 ho1 ⊢
  clear hw1
  have c2 := hb1.cell 2 _ rfl
  have f2 := hb1.frozen 2
  go_wp2
  go_quiet (fail)
  obtain ⟨x, hx1, ex⟩ := and_mask (bits BinOp.xor IntKind.i64 (h1 / 8589934592) (h1 / 35184372088832)) 255 (by decide)
  simp only [show ((255 : Nat) : Int) = 255 from rfl] at ex
  rw [ex]
  have hb2 : Blk (w1.drewN nq) p #[.slice sp xs.length cap, .int .i64 i, .int .i64 h1] 81 := hb1.drew
  have ho2 : Off [p] w (w1.drewN nq) := ho1.trans Off.drew
  have HR2 : Hid (Rows (w1.drewN nq) (fun g => g < p) 1 HByte (.slice sp xs.length cap) xs) := HR.out.offL ho2
  clear c2 f2 hb1
  generalize w1.drewN nq = w2 at hb2 ho2 HR2 ⊢
  have c0 := hb2.cell 0 _ rfl
  have c1 := hb2.cell 1 _ rfl
  have f1 := hb2.frozen 1
  go_wp2
  go_quiet (fail)
  have hb3 : Blk (w2.drewN nq) p #[.slice sp xs.length cap, .int .i64 i, .int .i64 h1] 81 := hb2.drew
  have ho3 : Off [p] w (w2.drewN nq) := ho2.trans Off.drew
  have HR3 : Hid (Rows (w2.drewN nq) (fun g => g < p) 1 HByte (.slice sp xs.length cap) xs) := HR2.out.offL Off.drew
  clear c0 c1 f1 hb2 ho2 HR2
  generalize w2.drewN nq = w3 at hb3 ho3 HR3 ⊢
  by_cases hlt : i < xs.length
  · obtain ⟨b, hbi⟩ : ∃ b, xs[i]? = some b := ⟨xs[i], List.getElem?_eq_getElem hlt⟩
    obtain ⟨sp', cap', e3, _, _, hrow3⟩ := HR3.out
    obtain ⟨g, off, e4, hg, hgl, hat⟩ := hrow3 (by intro e; rw [e] at hlt; simp at hlt)
    obtain ⟨rfl, -, rfl⟩ := (by simpa using e3 : sp = sp' ∧ True ∧ cap = cap')
    subst e4
    obtain ⟨cs, _, hcs, rfl, hb255⟩ := hat i b hbi
    have cb := hcs 0 (by decide)
    simp only [Nat.mul_one, Nat.add_zero, List.getElem?_cons_zero] at cb
    clear hrow hrow3 hat hcs e3
    have c0 := hb3.cell 0 _ rfl
    have c1 := hb3.cell 1 _ rfl
    have f1 := hb3.frozen 1
    go_wp2
    go_quiet (fail)
    obtain ⟨y, hy, ey⟩ := and_mask ((x : Int) + b) 255 (by decide)
    simp only [show ((255 : Nat) : Int) = 255 from rfl] at ey
    rw [ey]
    have hb4 : Blk (w3.drewN nq) p #[.slice (some ⟨g, off, none⟩) xs.length cap, .int .i64 i, .int .i64 h1] 81 := hb3.drew
    have ho4 : Off [p] w (w3.drewN nq) := ho3.trans Off.drew
    have HR4 : Hid (Rows (w3.drewN nq) (fun g => g < p) 1 HByte (.slice (some ⟨g, off, none⟩) xs.length cap) xs) := HR3.out.offL Off.drew
    clear c0 c1 f1 hb3 ho3 HR3 cb hgl
    generalize w3.drewN nq = w4 at hb4 ho4 HR4 ⊢
    have c1 := hb4.cell 1 _ rfl
    have f1 := hb4.frozen 1
    go_wp2
    go_ret
    refine ⟨y, hy, rfl, ⟨_, xs, i + 1, h1, hb4.same rfl, hlt, hx, HR4.out.offL Off.setCell⟩, ho4.trans Off.setCell⟩
  · go_wp2
    go_ret
    exact ⟨x, hx1, rfl, ⟨_, xs, i, h1, hb3, hi, hx, HR3.out⟩, ho3⟩

theorem cur_new {w : World} {m : Nat} {cv : Value} {xs : List Nat} {h : Int} (hx : xs.length ≤ 1048576) (hr : Rows w All 1 HByte cv xs) : Cur ((w.drewN m).alloc (.cells #[cv, .int .i64 0, .int .i64 h] 81)) w.heap.size := by
  refine ⟨cv, xs, 0, h, Blk.new (w := w.drewN m), Nat.zero_le _, hx, ?_⟩
  obtain ⟨sp, cap, rfl, hl, hm, hrow⟩ := hr
  refine ⟨sp, cap, rfl, hl, hm, fun hne => ?_⟩
  obtain ⟨g, off, e, _, hg, hat⟩ := hrow hne
  have hB : Below (w.drewN m).heap.size (w.drewN m) ((w.drewN m).alloc (.cells #[.slice sp xs.length cap, .int .i64 0, .int .i64 h] 81)) := (Below.refl _ _).alloc (Nat.le_refl _) _
  refine ⟨g, off, e, by omega, Nat.lt_of_lt_of_le hg hB.size, fun i x hi => ?_⟩
  obtain ⟨cs, h1, h2, h3⟩ := hat i x hi
  refine ⟨cs, h1, fun j hj => ?_, h3⟩
  rw [← h2 j hj]
  exact hB.cell (p := ⟨g, _, none⟩) hg
set_option maxRecDepth 100000 in
theorem l01New_any (cv : Value) (xs : List Nat) (w : World) (hx : xs.length ≤ 1048576) (hr : Rows w All 1 HByte cv xs) :
    Calls Tryz.prog 25 #[cv] w fun e w' => ∃ p, e = .returned (.pointer (some ⟨p, 0, none⟩)) ∧ w.heap.size ≤ p ∧ Cur w' p ∧ Below w.heap.size w w' := by
  have HR : Hid (Rows w All 1 HByte cv xs) := hr
  obtain ⟨sp, cap, rfl, hl, hm, hrow⟩ := hr
  have HW : Hid (xs ≠ [] → ∃ g off, sp = some ⟨g, off, none⟩ ∧ g < w.heap.size ∧ ∀ (k b : Nat), xs[k]? = some b → w.cell? ⟨g, off + k, none⟩ = some (.int .u8 b) ∧ b ≤ 255) := fun hne => by
    obtain ⟨g, off, e, _, hg, hat⟩ := hrow hne
    refine ⟨g, off, e, hg, fun k b hk => ?_⟩
    obtain ⟨cs, _, hcs, rfl, hb⟩ := hat k b hk
    have := hcs 0 (by decide)
    simp only [Nat.mul_one, Nat.add_zero, List.getElem?_cons_zero] at this
    exact ⟨this, hb⟩
  clear hrow
  go_enter Tryz.func25, Tryz.ntmps25
  go_wp2
  go_loopw [3, 4] (fun hv iv wr => ∃ (k m h : Nat), k ≤ xs.length ∧ h ≤ 1073741823 ∧ hv = .int .i64 h ∧ iv = .int .i64 k ∧ wr = w.drewN m) (fun _ iv _ => xs.length - (intOf iv).toNat)
  case atStart => exact ⟨0, 0, 377377 + xs.length, Nat.zero_le _, by omega, by go_num, rfl, rfl⟩
  case round =>
    obtain ⟨k, m, h, hk, hh, rfl, rfl, rfl⟩ := hrel
    by_cases hlt : k < xs.length ∧ k < 4000
    · obtain ⟨hlt, h4⟩ := hlt
      obtain ⟨g, off, rfl, hg, hat⟩ := HW.out (by intro e; rw [e] at hlt; simp at hlt)
      obtain ⟨b, hbk⟩ : ∃ b, xs[k]? = some b := ⟨_, List.getElem?_eq_getElem hlt⟩
      obtain ⟨cb, hb⟩ := hat k b hbk
      clear hat hbk
      go_wp2
      obtain ⟨y, hy, ey⟩ := and_mask ((h : Int) * 131 + b + 7) 1073741823 (by decide)
      simp only [show ((1073741823 : Nat) : Int) = 1073741823 from rfl] at ey
      rw [ey]
      exact ⟨⟨k + 1, m, y, by omega, hy, rfl, by go_num, rfl⟩, by simp [intOf]; omega⟩
    · by_cases hlt' : k < xs.length
      · have h4 : ¬ k < 4000 := fun h => hlt ⟨hlt', h⟩
        go_wp2
        go_ret
        exact ⟨_, rfl, Nat.le_refl _, cur_new hx HR.out, (below_drewN (Below.refl _ _) m).alloc (Nat.le_refl _) _⟩
      · go_wp2
        go_ret
        exact ⟨_, rfl, Nat.le_refl _, cur_new hx HR.out, (below_drewN (Below.refl _ _) m).alloc (Nat.le_refl _) _⟩

theorem l01Below_any (p n : Nat) (w : World) (hc : Cur w p) (hn : 0 < n) (hn' : n ≤ 4194304) :
    Calls Tryz.prog 49 #[.pointer (some ⟨p, 0, none⟩), .int .i64 n] w fun e w' => ∃ x : Nat, x < n ∧ e = .returned (.int .i64 x) ∧ Cur w' p ∧ Off [p] w w' := by
  by_cases hs : n ≤ 256
  · go_enter Tryz.func49, Tryz.ntmps49
    go_wp2_with (go_at_call 66; go_must (refine (l01Byte_any p _ hc).mono ?_; rintro e w' ⟨x, hx, rfl, hc', ho⟩))
    go_ret
    exact ⟨x % n, Nat.mod_lt _ hn, by simp, hc', ho⟩
  · go_enter Tryz.func49, Tryz.ntmps49
    go_wp2_with fail
    refine (l01Byte_any p _ hc).mono ?_
    rintro e w1 ⟨x1, hx1, rfl, hc1, ho1⟩
    go_wp2_with fail
    refine (l01Byte_any p _ hc1).mono ?_
    rintro e w2 ⟨x2, hx2, rfl, hc2, ho2⟩
    go_wp2_with fail
    refine (l01Byte_any p _ hc2).mono ?_
    rintro e w3 ⟨x3, hx3, rfl, hc3, ho3⟩
    go_wp2_with fail
    refine (l01Byte_any p _ hc3).mono ?_
    rintro e w4 ⟨x4, hx4, rfl, hc4, ho4⟩
    go_wp2
    go_ret
    exact ⟨(x1 * 16777216 + x2 * 65536 + x3 * 256 + x4) % n, Nat.mod_lt _ hn, by simp, hc4, ((ho1.trans ho2).trans ho3).trans ho4⟩

theorem l01Once_any (p n : Nat) (w : World) (hc : Cur w p) (hn : 0 < n) (hn' : n ≤ 4194304) :
    Calls Tryz.prog 27 #[.pointer (some ⟨p, 0, none⟩), .int .i64 n] w fun e w' => ∃ b : Bool, e = .returned (.bool b) ∧ Cur w' p ∧ Off [p] w w' := by
  go_enter Tryz.func27, Tryz.ntmps27
  go_wp2_with (go_at_call 49; go_must (refine (l01Below_any p n _ hc hn hn').mono ?_; rintro e w' ⟨x, hx, rfl, hc', ho⟩))
  go_ret
  exact ⟨_, rfl, hc', ho⟩
end Go.Proofs.YtmnghlkkfkpjhaaGreatDoor
/-
  Lists of texts in memory: rows that are read, and rows that the call owns and grows by append.
-/
namespace Go.Proofs.YtmnghlkkfkpjhaaGreatDoor
open Go.ChangeShapes Go.WideShapes Go.ChangeAt Go.RowKit
set_option linter.unusedVariables false

/-- One cell that is a text. -/
def HStr (cs : List Value) (s : ByteArray) : Prop := cs = [.string s] ∧ okS s
abbrev StrR (w : World) (v : Value) (xs : List ByteArray) : Prop := Rows w All 1 HStr v xs
theorem StrR.mono {w w' : World} {v : Value} {xs : List ByteArray} (h : StrR w v xs) (hs : SameOn All w w') : StrR w' v xs := Rows.mono h hs (fun _ h => h) (fun _ _ _ h => h)
theorem StrR.okS {w : World} {v : Value} {xs : List ByteArray} (h : StrR w v xs) : ∀ x ∈ xs, Go.Proofs.YtmnghlkkfkpjhaaGreatDoor.okS x := by
  intro x hx
  obtain ⟨p, cap, _, _, _, hr⟩ := h
  obtain ⟨i, hi⟩ := List.mem_iff_getElem?.1 hx
  obtain ⟨g, off, _, _, _, hat⟩ := hr (by intro e; rw [e] at hi; simp at hi)
  obtain ⟨cs, _, _, hv⟩ := hat i x hi
  exact hv.2

def strs (l : List ByteArray) : List Value := l.map Value.string
theorem strs_length (l : List ByteArray) : (strs l).length = l.length := by simp [strs]
theorem strs_append (a b : List ByteArray) : strs (a ++ b) = strs a ++ strs b := by simp [strs]
theorem strs_oneCell (l : List ByteArray) : ∀ u ∈ strs l, u.oneCell' = true := by
  intro u hu
  simp only [strs, List.mem_map] at hu
  obtain ⟨b, _, rfl⟩ := hu
  rfl
theorem info_str : (Tryz.prog.info? 9).map (fun i => (i.zero, i.size, i.bytes)) = some (some (.string ⟨#[]⟩), 1, 16) := by kernel_rfl

/-- The row v holds just the texts l; it lies in a block of its own at B or above. -/
def OwnS (w : World) (B : Nat) (v : Value) (l : List ByteArray) : Prop := w.ownsRow B 9 1 v l.length (strs l) ∧ B ≤ w.heap.size
theorem OwnS.next {w w' : World} {B : Nat} {v : Value} {l : List ByteArray} (h : OwnS w B v l) (hb : Below w.heap.size w w') : OwnS w' B v l := by
  refine ⟨⟨h.1.1, ?_⟩, Nat.le_trans h.2 hb.size⟩
  rcases h.1.2 with hn | ⟨g, cap, cur, hv, hB, hg, hr⟩
  · exact .inl hn
  · exact .inr ⟨g, cap, cur, hv, hB, (hb.block g (Array.getElem?_eq_some_iff.1 hg).1).trans hg, hr⟩
theorem OwnS.off {w : World} {B : Nat} {v : Value} {l : List ByteArray} (h : OwnS w B v l) {b : Nat} (hb : v.ownBlock = some b) : B ≤ b ∧ b < w.heap.size := by
  rcases h.1.2 with hn | ⟨g', cap', cur, hv', hB, hg, hr⟩
  · rw [hn.1] at hb; cases hb
  · rw [hv'] at hb
    simp [Value.ownBlock] at hb
    subst hb
    exact ⟨hB, (Array.getElem?_eq_some_iff.1 hg).1⟩
theorem OwnS.below {w w' : World} {B : Nat} {v : Value} {l : List ByteArray} (h : OwnS w B v l) (hg : w.grownBy w' v.ownBlock) : Below B w w' :=
  ⟨hg.os, hg.tape, hg.output, hg.size, fun j hj => hg.block j (by have := h.2; omega) (fun e => by have := (h.off e.symm).1; omega)⟩
theorem OwnS.blk {w w' : World} {B b : Nat} {v : Value} {l : List ByteArray} {cs : Array Value} {t : TypeId} (h : OwnS w B v l) (hg : w.grownBy w' v.ownBlock) (hb : Blk w b cs t) (hne : v.ownBlock ≠ some b) : Blk w' b cs t :=
  (hg.block b hb.lt (fun e => hne e.symm)).trans hb
theorem OwnS.of {w' : World} {B n : Nat} {v : Value} {l m : List ByteArray} {xs : List Value} (h : w'.ownsRow B 9 1 v n xs) (hn : n = (l ++ m).length) (hx : xs = strs l ++ strs m) (hB : B ≤ w'.heap.size) : OwnS w' B v (l ++ m) := by
  subst hn; subst hx; rw [← strs_append] at h; exact ⟨h, hB⟩
/-- The empty row that '[]string{}' makes. -/
theorem OwnS.fresh {w : World} : OwnS (w.alloc (.cells #[] 9)) w.heap.size (.slice (some ⟨w.heap.size, 0, none⟩) 0 0) [] := by
  refine ⟨⟨by simp [strs], .inr ⟨w.heap.size, 0, #[], rfl, Nat.le_refl _, ?_, Nat.le_refl _, Nat.zero_le _, rfl, rfl⟩⟩, by simp⟩
  exact Blk.new (w := w) (cs := #[]) (t := 9)
theorem OwnS.rows {w : World} {B : Nat} {v : Value} {l : List ByteArray} (h : OwnS w B v l) (ho : ∀ x ∈ l, okS x) : Rows w (fun g => B ≤ g) 1 HStr v l := by
  obtain ⟨h, _⟩ := h
  rcases h.2 with ⟨rfl, hn⟩ | ⟨g, cap, cur, rfl, hB, hg, h1, h2, h3, h4⟩
  · obtain rfl := List.length_eq_zero_iff.1 hn
    exact Rows.nil (Nat.zero_le _)
  · refine ⟨_, cap, rfl, h1, h2, fun hne => ⟨g, 0, rfl, hB, (Array.getElem?_eq_some_iff.1 hg).1, fun i x hi => ⟨[.string x], rfl, fun j hj => ?_, rfl, ho x (List.mem_of_getElem? hi)⟩⟩⟩
    obtain rfl : j = 0 := by omega
    rw [show 0 + i * 1 + 0 = i by omega]
    exact (h.cellAt i (by have := (List.getElem?_eq_some_iff.1 hi).1; omega)).trans (by simp [strs, hi])
theorem OwnS.strR {w : World} {B : Nat} {v : Value} {l : List ByteArray} (h : OwnS w B v l) (ho : ∀ x ∈ l, okS x) : StrR w v l := Rows.mono (h.rows ho) ⟨Nat.le_refl _, fun _ _ _ => rfl⟩ (fun _ _ => trivial) (fun _ _ _ h => h)

/-- A row that is nil where it has no memory. -/
def StrV (w : World) (v : Value) (xs : List ByteArray) : Prop := StrR w v xs ∧ ∀ n c, v = .slice none n c → v = .slice none 0 0
theorem OwnS.strV {w : World} {B : Nat} {v : Value} {l : List ByteArray} (h : OwnS w B v l) (ho : ∀ x ∈ l, okS x) : StrV w v l := by
  refine ⟨h.strR ho, fun n c hv => ?_⟩
  rcases h.1.2 with hn | ⟨g, cap, cur, hv', _⟩
  · exact hn.1
  · rw [hv] at hv'; simp at hv'
theorem StrV.next {w w' : World} {v : Value} {xs : List ByteArray} (h : StrV w v xs) (hs : SameOn All w w') : StrV w' v xs := ⟨h.1.mono hs, h.2⟩

/-- Texts that are there. -/
def hasS (l : List ByteArray) (s : ByteArray) : Bool := l.any fun x => x.toList == s.toList
/-- Names with more behind, those that are not there. -/
def onceS (l : List ByteArray) : List ByteArray → List ByteArray
  | [] => l
  | y :: ys => onceS (if hasS l y then l else l ++ [y]) ys
theorem onceS_snoc (l ys : List ByteArray) (y : ByteArray) : onceS l (ys ++ [y]) = if hasS (onceS l ys) y then onceS l ys else onceS l ys ++ [y] := by
  induction ys generalizing l with
  | nil => rfl
  | cons z zs ih => exact ih _
theorem onceS_length (l ys : List ByteArray) : (onceS l ys).length ≤ l.length + ys.length := by
  induction ys generalizing l with
  | nil => simp [onceS]
  | cons z zs ih =>
    have := ih (if hasS l z then l else l ++ [z])
    have h2 : (if hasS l z then l else l ++ [z]).length ≤ l.length + 1 := by split <;> simp
    simp only [onceS, List.length_cons]
    omega
theorem onceS_mem (l ys : List ByteArray) : ∀ x ∈ onceS l ys, x ∈ l ∨ x ∈ ys := by
  induction ys generalizing l with
  | nil => intro x hx; exact .inl hx
  | cons z zs ih =>
    intro x hx
    rcases ih _ x hx with h | h
    · split at h
      · exact .inl h
      · rcases List.mem_append.1 h with h | h
        · exact .inl h
        · simp at h; subst h; exact .inr (by simp)
    · exact .inr (by simp [h])
end Go.Proofs.YtmnghlkkfkpjhaaGreatDoor
/-
  More of the specification's own draws: one of some texts or numbers.
-/
namespace Go.Proofs.YtmnghlkkfkpjhaaGreatDoor
open Go.ChangeShapes Go.WideShapes Go.ChangeAt Go.RowKit
set_option linter.unusedVariables false

/-- A row of texts that is not the cursor's block. -/
abbrev StrP (w : World) (p : Nat) (v : Value) (xs : List ByteArray) : Prop := Rows w (fun g => g ≠ p) 1 HStr v xs

theorem StrP.at {w : World} {p : Nat} {v : Value} {xs : List ByteArray} (h : StrP w p v xs) : ∃ sp cap, v = .slice sp xs.length cap ∧ xs.length ≤ cap ∧ cap ≤ maxLen ∧ (∀ k s, xs[k]? = some s → ∃ g off, sp = some ⟨g, off, none⟩ ∧ w.cell? ⟨g, off + k, none⟩ = some (.string s) ∧ okS s) := by
  obtain ⟨sp, cap, rfl, hl, hm, hrow⟩ := h
  refine ⟨sp, cap, rfl, hl, hm, fun k s hk => ?_⟩
  obtain ⟨g, off, e, _, hg, hat⟩ := hrow (by intro e; rw [e] at hk; simp at hk)
  obtain ⟨cs, _, hcs, rfl, hb⟩ := hat k s hk
  have := hcs 0 (by decide)
  simp only [Nat.mul_one, Nat.add_zero, List.getElem?_cons_zero] at this
  exact ⟨g, off, e, this, hb⟩

set_option maxRecDepth 100000 in
theorem l01Pick_any (p : Nat) (v : Value) (xs : List ByteArray) (w : World) (hc : Cur w p) (hx : xs.length ≤ 100) (hne : 0 < xs.length) (hr : StrP w p v xs) :
    Calls Tryz.prog 40 #[.pointer (some ⟨p, 0, none⟩), v] w fun e w' => ∃ s ∈ xs, e = .returned (.string s) ∧ Cur w' p ∧ Off [p] w w' := by
  have HR : Hid (StrP w p v xs) := hr
  obtain ⟨sp, cap, rfl, hl, hm, hat⟩ := StrP.at hr
  obtain ⟨g, off, rfl, _⟩ := hat 0 _ (List.getElem?_eq_getElem hne)
  clear hat hr
  go_enter Tryz.func40, Tryz.ntmps40
  go_wp2_with fail
  refine (l01Below_any p xs.length _ hc hne (by omega)).mono ?_
  rintro e w1 ⟨x, hx, rfl, hc', ho⟩
  obtain ⟨s, hs⟩ : ∃ s, xs[x]? = some s := ⟨_, List.getElem?_eq_getElem hx⟩
  obtain ⟨sp', cap', e1, _, _, hat⟩ := StrP.at (HR.out.off ho)
  obtain ⟨g', off', e2, hcell, _⟩ := hat x s hs
  obtain ⟨rfl, rfl⟩ : g = g' ∧ off = off' := by subst e2; simp at e1; exact e1.1
  clear hat e1 e2
  go_wp2
  go_ret
  exact ⟨s, List.mem_of_getElem? hs, rfl, hc', ho⟩

def HInt (cs : List Value) (n : Int) : Prop := cs = [.int .i64 n]
theorem intP_at {w : World} {p : Nat} {v : Value} {xs : List Int} (h : Rows w (fun g => g ≠ p) 1 HInt v xs) : ∃ sp cap, v = .slice sp xs.length cap ∧ xs.length ≤ cap ∧ cap ≤ maxLen ∧ (∀ k s, xs[k]? = some s → ∃ g off, sp = some ⟨g, off, none⟩ ∧ w.cell? ⟨g, off + k, none⟩ = some (.int .i64 s)) := by
  obtain ⟨sp, cap, rfl, hl, hm, hrow⟩ := h
  refine ⟨sp, cap, rfl, hl, hm, fun k s hk => ?_⟩
  obtain ⟨g, off, e, _, hg, hat⟩ := hrow (by intro e; rw [e] at hk; simp at hk)
  obtain ⟨cs, _, hcs, rfl⟩ := hat k s hk
  have := hcs 0 (by decide)
  simp only [Nat.mul_one, Nat.add_zero, List.getElem?_cons_zero] at this
  exact ⟨g, off, e, this⟩
set_option maxRecDepth 100000 in
theorem l01PickInt_any (p : Nat) (v : Value) (xs : List Int) (w : World) (hc : Cur w p) (hx : xs.length ≤ 100) (hne : 0 < xs.length) (hr : Rows w (fun g => g ≠ p) 1 HInt v xs) :
    Calls Tryz.prog 55 #[.pointer (some ⟨p, 0, none⟩), v] w fun e w' => ∃ s ∈ xs, e = .returned (.int .i64 s) ∧ Cur w' p ∧ Off [p] w w' := by
  have HR : Hid (Rows w (fun g => g ≠ p) 1 HInt v xs) := hr
  obtain ⟨sp, cap, rfl, hl, hm, hat⟩ := intP_at hr
  obtain ⟨g, off, rfl, _⟩ := hat 0 _ (List.getElem?_eq_getElem hne)
  clear hat hr
  go_enter Tryz.func55, Tryz.ntmps55
  go_wp2_with fail
  refine (l01Below_any p xs.length _ hc hne (by omega)).mono ?_
  rintro e w1 ⟨x, hx, rfl, hc', ho⟩
  obtain ⟨s, hs⟩ : ∃ s, xs[x]? = some s := ⟨_, List.getElem?_eq_getElem hx⟩
  obtain ⟨sp', cap', e1, _, _, hat⟩ := intP_at (HR.out.off ho)
  obtain ⟨g', off', e2, hcell⟩ := hat x s hs
  obtain ⟨rfl, rfl⟩ : g = g' ∧ off = off' := by subst e2; simp at e1; exact e1.1
  clear hat e1 e2
  go_wp2
  go_ret
  exact ⟨s, List.mem_of_getElem? hs, rfl, hc', ho⟩

/-- A row of texts that is laid as it is written. -/
theorem strP_lit {w : World} {p : Nat} (xs : List ByteArray) (ho : ∀ x ∈ xs, okS x) (hp : p < w.heap.size) (hm : xs.length ≤ maxLen) :
    StrP (w.alloc (.cells (strs xs).toArray 9)) p (.slice (some ⟨w.heap.size, 0, none⟩) xs.length xs.length) xs := by
  refine ⟨_, _, rfl, Nat.le_refl _, hm, fun hne => ⟨w.heap.size, 0, rfl, by omega, ?_, fun i x hi => ⟨[.string x], rfl, fun j hj => ?_, rfl, ho x (List.mem_of_getElem? hi)⟩⟩⟩
  · exact (Blk.new (w := w)).lt
  · obtain rfl : j = 0 := by omega
    rw [show 0 + i * 1 + 0 = i by omega]
    exact (Blk.new (w := w)).cell i _ (by simp [strs, hi])

theorem Cur.next {w w' : World} {p : Nat} (h : Cur w p) (hb : Below w.heap.size w w') : Cur w' p := by
  obtain ⟨cv, xs, i, h, hb', hi, hx, hr⟩ := h
  exact ⟨cv, xs, i, h, hb'.next hb, hi, hx, Rows.mono hr ⟨hb.size, fun g _ hl => hb.block g hl⟩ (fun _ h => h) (fun _ _ _ h => h)⟩
theorem Cur.lt {w : World} {p : Nat} (h : Cur w p) : p < w.heap.size := by
  obtain ⟨cv, xs, i, h, hb', _⟩ := h
  exact hb'.lt
/-- The bytes lie below the cursor: what is written above it does not touch it. -/
theorem Cur.low {w w' : World} {p : Nat} (h : Cur w p) (hb : Below (p + 1) w w') : Cur w' p := by
  obtain ⟨cv, xs, i, h, hb', hi, hx, hr⟩ := h
  exact ⟨cv, xs, i, h, (hb.block p (Nat.lt_succ_self _)).trans hb', hi, hx, Rows.mono hr ⟨hb.size, fun g hg hl => hb.block g (Nat.lt_succ_of_lt hg)⟩ (fun _ h => h) (fun _ _ _ h => h)⟩
theorem Cur.alloc {w : World} {p : Nat} (h : Cur w p) (o : Obj) : Cur (w.alloc o) p := h.next ((Below.refl _ _).alloc (Nat.le_refl _) _)
theorem Below.offP {B p : Nat} {a b c : World} (h : Below B a b) (k : Off [p] b c) (hp : B ≤ p) (hB : B ≤ b.heap.size) : Below B a c := h.trans (k.below (by simpa using hp) hB)
/-- A row that the walk has laid. -/
theorem strP_new {w : World} {p : Nat} (xs : List ByteArray) (hc : Cur w p) (ho : ∀ x ∈ xs, x.size ≤ 100) (hm : xs.length ≤ 100) :
    StrP (w.alloc (.cells (strs xs).toArray 9)) p (.slice (some ⟨w.heap.size, 0, none⟩) xs.length xs.length) xs :=
  strP_lit xs (fun x hx => Nat.le_trans (ho x hx) (by unfold maxLen; omega)) hc.lt (by unfold maxLen; omega)
theorem okS_small {s : ByteArray} (h : s.size ≤ 1000000) : okS s := Nat.le_trans h (by unfold maxLen; omega)
end Go.Proofs.YtmnghlkkfkpjhaaGreatDoor
/-
  Rows that are grown by append, of elements of any number of cells: what their cells are.
-/
namespace Go.Proofs.YtmnghlkkfkpjhaaGreatDoor
open Go.ChangeShapes Go.WideShapes Go.ChangeAt Go.RowKit
set_option linter.unusedVariables false

/-- Cells that are R's elements, c cells each. -/
def CellsR {α : Type} (c : Nat) (R : List Value → α → Prop) (cells : List Value) (l : List α) : Prop :=
  cells.length = l.length * c ∧ ∀ i y, l[i]? = some y → ∃ cs, cs.length = c ∧ (∀ j, j < c → cells[i * c + j]? = cs[j]?) ∧ R cs y
section
variable {α : Type} {c : Nat} {R R' : List Value → α → Prop} {cells more : List Value} {l m : List α}
theorem CellsR.nil : CellsR c R [] ([] : List α) := ⟨by simp, fun i y h => by simp at h⟩
theorem CellsR.append (h : CellsR c R cells l) (k : CellsR c R more m) : CellsR c R (cells ++ more) (l ++ m) := by
  refine ⟨by rw [List.length_append, List.length_append, h.1, k.1, Nat.add_mul], fun i y hi => ?_⟩
  by_cases hl : i < l.length
  · rw [List.getElem?_append_left hl] at hi
    obtain ⟨cs, h1, h2, h3⟩ := h.2 i y hi
    refine ⟨cs, h1, fun j hj => ?_, h3⟩
    rw [List.getElem?_append_left, h2 j hj]
    rw [h.1]
    have : (i + 1) * c ≤ l.length * c := Nat.mul_le_mul_right _ hl
    rw [Nat.add_mul] at this
    omega
  · rw [List.getElem?_append_right (by omega)] at hi
    obtain ⟨cs, h1, h2, h3⟩ := k.2 _ y hi
    refine ⟨cs, h1, fun j hj => ?_, h3⟩
    have e : i * c + j - cells.length = (i - l.length) * c + j := by
      rw [h.1, Nat.sub_mul]
      have : l.length * c ≤ i * c := Nat.mul_le_mul_right _ (by omega)
      omega
    rw [List.getElem?_append_right (by rw [h.1]; have : l.length * c ≤ i * c := Nat.mul_le_mul_right _ (by omega); omega), e]
    exact h2 j hj
theorem CellsR.mono (h : CellsR c R cells l) (hR : ∀ cs y, y ∈ l → R cs y → R' cs y) : CellsR c R' cells l :=
  ⟨h.1, fun i y hi => by obtain ⟨cs, h1, h2, h3⟩ := h.2 i y hi; exact ⟨cs, h1, h2, hR cs y (List.mem_of_getElem? hi) h3⟩⟩
theorem CellsR.one {cs : List Value} {y : α} (hc : cs.length = c) (h : R cs y) : CellsR c R cs [y] :=
  ⟨by simp [hc], fun i z hi => by
    cases i with
    | zero => simp at hi; subst hi; exact ⟨cs, hc, fun j _ => by simp, h⟩
    | succ i => simp at hi⟩
theorem CellsR.oneCell (hc : 0 < c) (h : CellsR c R cells l) (hR : ∀ cs y, R cs y → ∀ u ∈ cs, u.oneCell' = true) : ∀ u ∈ cells, u.oneCell' = true := by
  intro u hu
  obtain ⟨j, hj⟩ := List.mem_iff_getElem?.1 hu
  have hlt := (List.getElem?_eq_some_iff.1 hj).1
  rw [h.1] at hlt
  have hd : j / c < l.length := Nat.div_lt_of_lt_mul (by rw [Nat.mul_comm]; exact hlt)
  obtain ⟨cs, h1, h2, h3⟩ := h.2 (j / c) (l[j / c]) (List.getElem?_eq_getElem hd)
  have h4 := h2 (j % c) (Nat.mod_lt _ hc)
  rw [show j / c * c + j % c = j by rw [Nat.mul_comm]; exact Nat.div_add_mod j c, hj] at h4
  exact hR cs _ h3 u (List.mem_of_getElem? h4.symm)
theorem rowsCellsR (hc : 0 < c) {w : World} {S : Nat → Prop} {ad : Addr} {n cap : Nat} (h : Rows w S c R (.slice (some ad) n cap) l) : n = l.length ∧ ∃ cells, CellsR c R cells l ∧ ∀ j u, cells[j]? = some u → w.cell? (ad.add j) = some u := by
  obtain ⟨p, cap', hv, h1, h2, hx⟩ := h
  simp only [Value.slice.injEq] at hv
  obtain ⟨rfl, rfl, rfl⟩ := hv
  refine ⟨rfl, ?_⟩
  cases l with
  | nil => exact ⟨[], CellsR.nil, fun j u h => by simp at h⟩
  | cons y0 l =>
    obtain ⟨g, off, hp, -, -, hat⟩ := hx (by simp)
    obtain rfl := Option.some.inj hp
    have hadd : ∀ j, (⟨g, off, none⟩ : Addr).add j = ⟨g, off + j, none⟩ := fun j => by by_cases h : j = 0 <;> simp [Addr.add, h]
    have key : ∀ j, j < (y0 :: l).length * c → ∃ u, w.cell? ⟨g, off + j, none⟩ = some u := fun j hj => by
      have hd : j / c < (y0 :: l).length := Nat.div_lt_of_lt_mul (by rw [Nat.mul_comm]; exact hj)
      obtain ⟨cs, k1, k2, k3⟩ := hat (j / c) _ (List.getElem?_eq_getElem hd)
      have h4 := k2 (j % c) (Nat.mod_lt _ hc)
      rw [show off + j / c * c + j % c = off + j by rw [Nat.add_assoc, Nat.mul_comm, Nat.div_add_mod]] at h4
      exact ⟨cs[j % c]'(by rw [k1]; exact Nat.mod_lt _ hc), h4.trans (List.getElem?_eq_getElem _)⟩
    refine ⟨(List.range ((y0 :: l).length * c)).map fun j => (w.cell? ⟨g, off + j, none⟩).getD undef, ⟨by simp, fun i y hi => ?_⟩, fun j u hj => ?_⟩
    · obtain ⟨cs, k1, k2, k3⟩ := hat i y hi
      refine ⟨cs, k1, fun j hj => ?_, k3⟩
      have hil := (List.getElem?_eq_some_iff.1 hi).1
      have hlt : i * c + j < (y0 :: l).length * c := by
        have : (i + 1) * c ≤ (y0 :: l).length * c := Nat.mul_le_mul_right _ hil
        rw [Nat.add_mul] at this
        omega
      rw [List.getElem?_map, List.getElem?_range hlt]
      obtain ⟨u, hu⟩ := key _ hlt
      have h5 := k2 j hj
      rw [Nat.add_assoc, hu] at h5
      simp only [Option.map_some, hu, Option.getD_some]
      exact h5
    · have hlt : j < (y0 :: l).length * c := by simpa using (List.getElem?_eq_some_iff.1 hj).1
      rw [List.getElem?_map, List.getElem?_range hlt] at hj
      obtain ⟨v, hv⟩ := key j hlt
      simp only [Option.map_some, hv, Option.getD_some, Option.some.injEq] at hj
      rw [hadd, hv, hj]
theorem CellsR.rows {w : World} {B : Nat} {e : TypeId} {v : Value} {n : Nat} (h : w.ownsRow B e c v n cells) (k : CellsR c R cells l) (hn : n = l.length) : Rows w All c R v l := by
  subst hn
  have hl := k.1
  rcases h.2 with ⟨rfl, hz⟩ | ⟨g, cap, cur, rfl, hB, hg, h1, h2, h3, h4⟩
  · obtain rfl := List.length_eq_zero_iff.1 hz
    exact Rows.nil (Nat.zero_le _)
  · refine ⟨_, cap, rfl, h1, h2, fun hne => ⟨g, 0, rfl, trivial, (Array.getElem?_eq_some_iff.1 hg).1, fun i x hi => ?_⟩⟩
    obtain ⟨cs, k1, k2, k3⟩ := k.2 i x hi
    refine ⟨cs, k1, fun j hj => ?_, k3⟩
    have hil := (List.getElem?_eq_some_iff.1 hi).1
    have hlt : i * c + j < l.length * c := by
      have : (i + 1) * c ≤ l.length * c := Nat.mul_le_mul_right _ hil
      rw [Nat.add_mul] at this
      omega
    rw [← k2 j hj, Nat.zero_add]
    exact h.cellAt _ hlt
end

section
variable {P : Program} {w : World}
theorem run_append_nil (base : Nat) (t ty e : TypeId) (i : TypeInfo) (size : Nat) (ht : P.underlying t = some (.slice e)) (hi : P.info? e = some i)
    (v : Value) (n : Nat) (xs : List Value) (c : Nat) (hown : w.ownsRow base e size v n xs) :
    (Builtin.append_ #[t, t] ty #[v, .slice none 0 c]).run P w = .ok v w := by
  rcases hown.2 with ⟨rfl, rfl⟩ | ⟨g, cap, cur, rfl, _, _, hnc, _⟩
  · simp [Builtin.append_, run_underlying ht, sizeOf, typeInfo, hi, Builtin.lenOf, Builtin.firstCells]
  · simp [Builtin.append_, run_underlying ht, sizeOf, typeInfo, hi, Builtin.lenOf, Builtin.firstCells, hnc, storeCells]
/-- A row that has no memory, behind one that is owned. -/
theorem wpList_append_nil {ops : Array Oper} {rest : List Oper} {o : Oper} {a : Act} {Q : Exit → Act → World → Prop} (hgd : o.guard = none) (s x : Operand) (t : TypeId)
    (ho : o.op = .call { callee := .builtin .append, args := #[s, x], argTypes := #[t, t] })
    (base : Nat) (e : TypeId) (i : TypeInfo) (size : Nat) (ht : P.underlying t = some (.slice e)) (hi : P.info? e = some i)
    (v : Value) (n : Nat) (xs : List Value) (c : Nat) (hs : a.eval s = v) (hown : w.ownsRow base e size v n xs) (hx : a.eval x = .slice none 0 c)
    (h : wpList P ops Q rest (a.put o.dst v) w) : wpList P ops Q (o :: rest) a w := by
  refine wpList_plain hgd fun K hK => ?_
  have hrun := run_append_nil (P := P) (w := w) base t o.type e i size ht hi v n xs c hown
  unfold Oper.wp
  simp [execOp, ho, resolve, invoke, builtin, hs, hx, hrun, Result.andThen]
  exact hK _ _ h
/-- append(s, xs...): whatever row of elements stands behind, that has memory or none. -/
theorem wpList_append_rows {α : Type} {R : List Value → α → Prop} {S : Nat → Prop} {ops : Array Oper} {rest : List Oper} {o : Oper} {a : Act} {Q : Exit → Act → World → Prop} (hgd : o.guard = none) (s x : Operand) (t : TypeId)
    (ho : o.op = .call { callee := .builtin .append, args := #[s, x], argTypes := #[t, t] })
    (base : Nat) (e : TypeId) (i : TypeInfo) (z : Value) (size bytes : Nat) (ht : P.underlying t = some (.slice e)) (hi : P.info? e = some i) (hz : i.zero = some z)
    (hsize : i.size = size) (hby : i.bytes = bytes) (hzs : z.cells.size = size) (hsz : 0 < size)
    (v : Value) (n : Nat) (xs : List Value) (hs : a.eval s = v) (hown : w.ownsRow base e size v n xs)
    (u : Value) (m : List α) (hx : a.eval x = u) (hr : Rows w S size R u m) (hone : ∀ cs y, R cs y → ∀ q ∈ cs, q.oneCell' = true)
    (h63 : n + m.length ≤ maxLen) (hbytes : (n + m.length) * bytes ≤ 140737488355328) (hbase : base ≤ w.heap.size)
    (h : ∀ v' w' news, CellsR size R news m → w'.ownsRow base e size v' (n + m.length) (xs ++ news) → w.grownBy w' v.ownBlock → wpList P ops Q rest (a.put o.dst v') w') : wpList P ops Q (o :: rest) a w := by
  obtain ⟨p, cap, hv, h1, h2, hat⟩ := id hr
  cases p with
  | none =>
    have hm : m = [] := Classical.byContradiction fun hne => by
      obtain ⟨g, off, hp, _⟩ := hat hne
      cases hp
    subst hm
    simp only [List.length_nil] at *
    refine wpList_append_nil hgd s x t ho base e i size ht hi v n xs cap hs hown (hx.trans hv) ?_
    exact h v w [] CellsR.nil (by simpa using hown) ⟨rfl, rfl, rfl, Nat.le_refl _, fun _ _ _ => rfl⟩
  | some ad =>
    rw [hv] at hr
    obtain ⟨-, news, hc, hnews⟩ := rowsCellsR hsz hr
    refine wpList_append_own _ hgd s x t ho base e i z size bytes ht hi hz hsize hby hzs hsz v n xs hs hown ad m.length cap news (hx.trans hv) hc.1 hnews (hc.oneCell hsz hone) h63 hbytes hbase ?_
    intro v' w' k1 k2 _
    exact h v' w' news hc k1 k2
/-- The same as an arm of a region that draws its order. -/
theorem step_append_rows {α : Type} {R : List Value → α → Prop} {S : Nat → Prop} {ops : Array Oper} {o : Oper} {a : Act} {K : Act → World → Prop} {Q : Exit → Act → World → Prop} {E : Prop} (hgd : o.guard = none) (s x : Operand) (t : TypeId)
    (ho : o.op = .call { callee := .builtin .append, args := #[s, x], argTypes := #[t, t] })
    (base : Nat) (e : TypeId) (i : TypeInfo) (z : Value) (size bytes : Nat) (ht : P.underlying t = some (.slice e)) (hi : P.info? e = some i) (hz : i.zero = some z)
    (hsize : i.size = size) (hby : i.bytes = bytes) (hzs : z.cells.size = size) (hsz : 0 < size)
    (v : Value) (n : Nat) (xs : List Value) (hs : a.eval s = v) (hown : w.ownsRow base e size v n xs)
    (u : Value) (m : List α) (hx : a.eval x = u) (hr : Rows w S size R u m) (hone : ∀ cs y, R cs y → ∀ q ∈ cs, q.oneCell' = true)
    (h63 : n + m.length ≤ maxLen) (hbytes : (n + m.length) * bytes ≤ 140737488355328) (hbase : base ≤ w.heap.size)
    (h : ∀ v' w' news, CellsR size R news m → w'.ownsRow base e size v' (n + m.length) (xs ++ news) → w.grownBy w' v.ownBlock → K (a.put o.dst v') w') :
    if Region.wanted o (yielded ops a.tmps) = true then Oper.wp P o a w K Q else E := by
  have hw : Region.wanted o (yielded ops a.tmps) = true := by simp [Region.wanted, hgd]
  rw [if_pos hw]
  obtain ⟨p, cap, hv, h1, h2, hat⟩ := id hr
  cases p with
  | none =>
    have hm : m = [] := Classical.byContradiction fun hne => by
      obtain ⟨g, off, hp, _⟩ := hat hne
      cases hp
    subst hm
    simp only [List.length_nil] at *
    have hrun := run_append_nil (P := P) (w := w) base t o.type e i size ht hi v n xs cap hown
    unfold Oper.wp
    simp [execOp, ho, resolve, invoke, builtin, hs, hx.trans hv, hrun, Result.andThen]
    exact h v w [] CellsR.nil (by simpa using hown) ⟨rfl, rfl, rfl, Nat.le_refl _, fun _ _ _ => rfl⟩
  | some ad =>
    rw [hv] at hr
    obtain ⟨-, news, hc, hnews⟩ := rowsCellsR hsz hr
    refine wp_append_own w s x t ho base e i z size bytes ht hi hz hsize hby hzs hsz v n xs hs hown ad m.length cap news (hx.trans hv) hc.1 hnews (hc.oneCell hsz hone) h63 hbytes hbase ?_
    intro v' w' k1 k2 _
    exact h v' w' news hc k1 k2
end
theorem cellsR_str {news : List Value} {l : List ByteArray} (h : CellsR 1 HStr news l) : news = strs l := by
  refine List.ext_getElem? fun i => ?_
  by_cases hi : i < l.length
  · obtain ⟨cs, h1, h2, rfl, -⟩ := h.2 i (l[i]) (List.getElem?_eq_getElem hi)
    have h4 := h2 0 (by omega)
    rw [show i * 1 + 0 = i by omega] at h4
    rw [h4]; simp [strs, hi]
  · rw [List.getElem?_eq_none (by rw [h.1]; omega), List.getElem?_eq_none (by rw [strs_length]; omega)]
theorem str_oneCell (cs : List Value) (s : ByteArray) (h : HStr cs s) : ∀ u ∈ cs, u.oneCell' = true := by
  obtain ⟨rfl, -⟩ := h
  intro u hu
  simp at hu; subst hu; rfl
end Go.Proofs.YtmnghlkkfkpjhaaGreatDoor
/-
  A row that is grown by append, one element behind the other, each a tree in memory of its own.
-/
namespace Go.Proofs.YtmnghlkkfkpjhaaGreatDoor
open Go.ChangeShapes Go.WideShapes Go.ChangeAt Go.RowKit
set_option linter.unusedVariables false

theorem ownsB_block {w w' : World} {B : Nat} {e : TypeId} {c g n cap : Nat} {v : Value} {cells : List Value} (h : w.ownsRow B e c v n cells) (hv : v = .slice (some ⟨g, 0, none⟩) n cap) (hk : w'.heap[g]? = w.heap[g]?) : w'.ownsRow B e c v n cells := by
  refine ⟨h.1, ?_⟩
  rcases h.2 with hn | ⟨g', cap', cur, hv', hb, hg, hr⟩
  · exact .inl hn
  · have : g' = g := by rw [hv] at hv'; simp at hv'; exact hv'.1.symm
    subst this
    exact .inr ⟨g', cap', cur, hv', hb, hk.trans hg, hr⟩
theorem owns_own_lt {w : World} {B : Nat} {e : TypeId} {c n b : Nat} {v : Value} {cells : List Value} (h : w.ownsRow B e c v n cells) (hb : v.ownBlock = some b) : B ≤ b ∧ b < w.heap.size := by
  rcases h.2 with hn | ⟨g', cap', cur, hv', hB, hg, hr⟩
  · rw [hn.1] at hb; cases hb
  · rw [hv'] at hb
    simp [Value.ownBlock] at hb
    subst hb
    exact ⟨hB, (Array.getElem?_eq_some_iff.1 hg).1⟩

/-- What lies in new memory, but not in the row's own block. -/
def offRow (B : Nat) (w : World) (u : Value) (a : Nat) : Prop := B ≤ a ∧ a < w.heap.size ∧ u.ownBlock ≠ some a

structure Grow {α : Type} (wr : World) (B : Nat) (e : TypeId) (c : Nat) (R : World → (Nat → Prop) → List Value → α → Prop) (es : List α) (k : Nat) (u : Value) (xs : List Value) : Prop where
  own : wr.ownsRow B e c u k xs
  el : ∀ (i : Nat) x, i < k → es[i]? = some x → ∃ cs : List Value, cs.length = c ∧ (∀ j, j < c → xs[i * c + j]? = cs[j]?) ∧ R wr (offRow B wr u) cs x
  low : B ≤ wr.heap.size

variable {α : Type} {wr w1 wb w2 : World} {B c k : Nat} {e : TypeId} {R : World → (Nat → Prop) → List Value → α → Prop} {es : List α} {u : Value} {xs : List Value}

theorem Grow.start (h : B ≤ wr.heap.size) : Grow wr B e c R es 0 (.slice none 0 0) [] :=
  ⟨⟨by simp, .inl ⟨rfl, rfl⟩⟩, fun i x hi => by omega, h⟩

theorem Grow.step (hR : ∀ w w' S S' cs x, R w S cs x → SameOn S w w' → (∀ g, S g → S' g) → R w' S' cs x) (h : Grow wr B e c R es k u xs) {x : α} {cs : List Value} (hx : es[k]? = some x) (hb : Below wr.heap.size wr w1)
    (hr : R w1 (fun a => wr.heap.size ≤ a ∧ a < w1.heap.size) cs x) (hcl : cs.length = c) (hwb : Below w1.heap.size w1 wb) {H g cap : Nat} (hH : w1.heap.size ≤ H) (hHs : H ≤ wb.heap.size)
    (hown : w2.ownsRow B e c (.slice (some ⟨g, 0, none⟩) (k + 1) cap) (k + 1) (xs ++ cs)) (hgr : wb.grownBy w2 u.ownBlock) (hat : u.ownBlock = some g ∨ g = H) {o : Nat} (ho : o < B) (j : Nat) (v : Value) :
    Grow (w2.setCell ⟨o, j, none⟩ v) B e c R es (k + 1) (.slice (some ⟨g, 0, none⟩) (k + 1) cap) (xs ++ cs) := by
  have hlow := h.low
  have s1 := hb.size
  have s2 := hwb.size
  have s3 := hgr.size
  have hgB : B ≤ g ∧ g < w2.heap.size := owns_own_lt hown rfl
  have hu : ∀ b, u.ownBlock = some b → b < wr.heap.size := fun b hb => (owns_own_lt h.own hb).2
  have blk : ∀ a, B ≤ a → a < w1.heap.size → u.ownBlock ≠ some a → (w2.setCell ⟨o, j, none⟩ v).heap[a]? = w1.heap[a]? := fun a h1 h2 h3 =>
    (Below.heap_setCell _ _ _ _ (by show a ≠ o; omega)).trans ((hgr.block a (by omega) (fun e => h3 e.symm)).trans (hwb.block a h2))
  have hxl : xs.length = k * c := h.own.1
  refine ⟨ownsB_block hown rfl (Below.heap_setCell _ _ _ _ (by show g ≠ o; omega)), fun i y hi hy => ?_, by simp only [setCell_hs]; omega⟩
  by_cases hik : i < k
  · obtain ⟨cs', g1, g2, g3⟩ := h.el i y hik hy
    have hil : i * c + c ≤ k * c := by rw [← Nat.succ_mul]; exact Nat.mul_le_mul_right c hik
    refine ⟨cs', g1, fun q hq => ?_, hR _ _ _ _ _ _ g3 ⟨by simp only [setCell_hs]; omega, fun a ha hal => ?_⟩ (fun a ha => ?_)⟩
    · rw [List.getElem?_append_left (by omega)]; exact g2 q hq
    · exact (blk a ha.1 (by omega) ha.2.2).trans (hb.block a ha.2.1)
    · refine ⟨ha.1, by simp only [setCell_hs]; have := ha.2.1; omega, fun e => ?_⟩
      simp [Value.ownBlock] at e
      subst e
      rcases hat with hat | hat
      · exact ha.2.2 hat
      · have := ha.2.1; omega
  · obtain rfl : i = k := by omega
    obtain rfl : x = y := Option.some.inj (hx.symm.trans hy)
    refine ⟨cs, hcl, fun q hq => ?_, hR _ _ _ _ _ _ hr ⟨by simp only [setCell_hs]; omega, fun a ha hal => ?_⟩ (fun a ha => ?_)⟩
    · rw [List.getElem?_append_right (by omega), hxl]; congr 1; omega
    · exact blk a (by have := ha.1; omega) ha.2 (fun e => by have := hu a e; have := ha.1; omega)
    · refine ⟨by have := ha.1; omega, by simp only [setCell_hs]; have := ha.2; omega, fun e => ?_⟩
      simp [Value.ownBlock] at e
      subst e
      rcases hat with hat | hat
      · have := hu _ hat; have := ha.1; omega
      · have := ha.2; omega

theorem Grow.done (hR : ∀ w w' S S' cs x, R w S cs x → SameOn S w w' → (∀ g, S g → S' g) → R w' S' cs x) (h : Grow wr B e c R es k u xs) (hk : es.length = k) : Rows wr (fun a => B ≤ a) c (R wr (fun a => B ≤ a)) u es := by
  rcases h.own.2 with hn | ⟨g, cap, cur, hv, hB, hg, h1, h2, h3, h4⟩
  · refine ⟨none, 0, by rw [hn.1, hk, hn.2], by omega, Nat.zero_le _, fun hne => ?_⟩
    exact absurd (List.length_eq_zero_iff.1 (hk.trans hn.2)) hne
  · refine ⟨_, _, by rw [hk]; exact hv, by rw [hk]; exact h1, h2, fun hne => ⟨g, 0, rfl, hB, (Array.getElem?_eq_some_iff.1 hg).1, fun i x hi => ?_⟩⟩
    have hin : i < k := by rw [← hk]; exact (List.getElem?_eq_some_iff.1 hi).1
    obtain ⟨cs, g1, g2, g3⟩ := h.el i x hin hi
    refine ⟨cs, g1, fun j hj => ?_, hR _ _ _ _ _ _ g3 ⟨Nat.le_refl _, fun _ _ _ => rfl⟩ (fun a ha => ha.1)⟩
    rw [← g2 j hj, Nat.zero_add]
    have ho := h.own
    rw [hv] at ho
    refine ho.cellAt (i * c + j) ?_
    have : i * c + c ≤ k * c := by rw [← Nat.succ_mul]; exact Nat.mul_le_mul_right c hin
    omega
end Go.Proofs.YtmnghlkkfkpjhaaGreatDoor
