/-
  The texts of expressions and modules, as lists of bytes: plain mathematics.
-/
import Derived.Test.YtkomkhiinfdfmaaGreatDoorJoinMath
import Derived.Test.YtkomkhiinfdfmaaGreatDoorModOkMath
import Derived.Test.YtkomkhiinfdfmaaGreatDoorSize
namespace Go.Proofs.YtkomkhiinfdfmaaGreatDoor
open Go.ChangeShapes Go.WideShapes Go.ChangeAt Go.RowKit
set_option linter.unusedVariables false

def wrapT (top : Bool) (l : List UInt8) : List UInt8 := if top then l else [40] ++ l ++ [41]
def clTxt (f : Ex → Bool → List UInt8) (c : Cl) : List UInt8 := (match c.1 with | [] => [] | p :: _ => f p false) ++ [32, 45, 62, 32] ++ joinT [44, 32] (c.2.map fun y => f y true)
def kidT (f : Ex → Bool → List UInt8) (ks : List Ex) (i : Nat) : List UInt8 := match ks[i]? with | none => [] | some y => f y false
def headT (t m : ByteArray) : List UInt8 := if m.toList = [] then t.data.toList else m.data.toList ++ [58] ++ t.data.toList
/-- What stands within the brackets, where there are some. -/
def bareT (f : Ex → Bool → List UInt8) (k n : Int) (t m : ByteArray) (ks : List Ex) (cs : List Cl) : List UInt8 :=
  if k = 0 then Lib.itoa n else if k = 3 then [95] else if k = 4 then [123] ++ joinT [44, 32] (ks.map fun y => f y false) ++ [125] else if k = 5 then [91, 93]
  else if k = 6 then [91] ++ kidT f ks 0 ++ [32, 124, 32] ++ kidT f ks 1 ++ [93] else if k = 7 then kidT f ks 0 ++ [32] ++ t.data.toList ++ [32] ++ kidT f ks 1
  else if k = 9 then kidT f ks 0 ++ [32, 61, 32] ++ kidT f ks 1 else if k = 10 then [99, 97, 115, 101, 32] ++ kidT f ks 0 ++ [32, 111, 102, 32] ++ joinT [59, 32] (cs.map (clTxt f)) ++ [32, 101, 110, 100]
  else if k = 8 then headT t m ++ [40] ++ joinT [44, 32] (ks.map fun y => f y false) ++ [41] else t.data.toList
def wrapK (k : Int) : Bool := decide (k = 7) || (decide (k = 9) || decide (k = 10))
def exTxt : Nat → Ex → Bool → List UInt8
  | 0, _, _ => []
  | d + 1, .mk k n t m ks cs, top => if wrapK k then wrapT top (bareT (exTxt d) k n t m ks cs) else bareT (exTxt d) k n t m ks cs

/-- Expressions that have the kids of their kind. -/
def shpK (k : Int) (nk : Nat) : Bool := if k = 6 ∨ k = 7 ∨ k = 9 then decide (nk = 2) else if k = 10 then decide (nk = 1) else true
def shp : Nat → Ex → Bool
  | 0, _ => false
  | d + 1, .mk k n t m ks cs => shpK k ks.length && (ks.all (shp d) && cs.all (fun c => decide (c.1.length = 1) && (c.1.all (shp d) && c.2.all (shp d))))

theorem all_of_all {α : Type} {f g : α → Bool} {xs : List α} (h : xs.all f = true) (hf : ∀ x, f x = true → g x = true) : xs.all g = true := by
  rw [List.all_eq_true] at *; exact fun x hx => hf x (h x hx)
theorem shp_of : ∀ (d : Nat) (x : Ex) (pat : Bool) (deep : Int), exOk d x pat deep = true → shp d x = true
  | 0, _, _, _, h => by simp [exOk] at h
  | d + 1, .mk k n t m ks cs, pat, deep, h => by
    rw [exOk_eq] at h
    simp only [Bool.and_eq_true] at h
    obtain ⟨_, hp, _, hk, hc⟩ := h
    unfold shp
    simp only [Bool.and_eq_true]
    refine ⟨?_, ?_, all_of_all hc (fun c hcc => ?_)⟩
    · unfold plainB at hp
      simp only [Bool.and_eq_true, inB, decide_eq_true_eq] at hp
      obtain ⟨_, _, _, _, hki, _⟩ := hp
      unfold shpK
      split
      · rename_i hk3
        have : kidLo k = 2 ∧ kidHi k = 2 := by rcases hk3 with rfl | rfl | rfl <;> decide
        simp; omega
      · split
        · rename_i hk10
          have : kidLo k = 1 ∧ kidHi k = 1 := by subst hk10; decide
          simp; omega
        · rfl
    · cases ks with
      | nil => rfl
      | cons y ys =>
        simp only [kidsB, Bool.and_eq_true] at hk
        simp only [List.all_cons, Bool.and_eq_true]
        exact ⟨shp_of d y _ _ hk.1, all_of_all hk.2 (fun z hz => shp_of d z _ _ hz)⟩
    · unfold clB at hcc
      simp only [Bool.and_eq_true, decide_eq_true_eq] at hcc
      simp only [Bool.and_eq_true, decide_eq_true_eq]
      exact ⟨by omega, all_of_all hcc.2.2.1 (fun z hz => shp_of d z _ _ hz), all_of_all hcc.2.2.2 (fun z hz => shp_of d z _ _ hz)⟩

/-- Numbers of an expression are of 64 bits. -/
def exI : Nat → Ex → Prop
  | 0, _ => False
  | d + 1, .mk k n t m ks cs => okI k ∧ okI n ∧ (∀ y ∈ ks, exI d y) ∧ ∀ c ∈ cs, (∀ y ∈ c.1, exI d y) ∧ ∀ y ∈ c.2, exI d y
theorem rows_mem {α : Type} {w : World} {S : Nat → Prop} {c : Nat} {R : List Value → α → Prop} {v : Value} {es : List α} (h : Rows w S c R v es) : ∀ y ∈ es, ∃ cs, R cs y := by
  intro y hy
  obtain ⟨p, cap, _, _, _, hr⟩ := h
  obtain ⟨i, hi⟩ := List.mem_iff_getElem?.1 hy
  obtain ⟨g, off, _, _, _, hat⟩ := hr (by intro e; rw [e] at hi; simp at hi)
  obtain ⟨cs, _, _, hv⟩ := hat i y hi
  exact ⟨cs, hv⟩
theorem HEx.ints {w : World} {S : Nat → Prop} : ∀ {d : Nat} {cs : List Value} {x : Ex}, HEx w S d cs x → exI d x
  | 0, _, _, h => h.elim
  | d + 1, cs, .mk k n t m ks cl, h => by
    obtain ⟨kv, cv, rfl, h1, h2, h3, h4, f0, f1⟩ := h
    refine ⟨h1, h2, fun y hy => ?_, fun c hc => ?_⟩
    · obtain ⟨_, hv⟩ := rows_mem f0 y hy
      exact hv.ints
    · obtain ⟨_, p, b, _, g0, g1⟩ := rows_mem f1 c hc
      exact ⟨fun y hy => by obtain ⟨_, hv⟩ := rows_mem g0 y hy; exact hv.ints, fun y hy => by obtain ⟨_, hv⟩ := rows_mem g1 y hy; exact hv.ints⟩

theorem kidT_len (f : Ex → Bool → List UInt8) (wt : Ex → Nat) (ks : List Ex) (i : Nat) (h : ∀ y ∈ ks, (f y false).length ≤ 40 + 50 * wt y) : (kidT f ks i).length ≤ 40 + 50 * (match ks[i]? with | none => 0 | some y => wt y) := by
  unfold kidT
  cases hi : ks[i]? with
  | none => simp
  | some y => exact h y (List.mem_of_getElem? hi)
theorem two_wt (wt : Ex → Nat) (ks : List Ex) (h : ks.length = 2) : wtS wt ks = 2 + ((match ks[0]? with | none => 0 | some y => wt y) + (match ks[1]? with | none => 0 | some y => wt y)) := by
  match ks, h with
  | [a, b], _ => simp [wtS]
theorem one_wt (wt : Ex → Nat) (ks : List Ex) (h : ks.length = 1) : wtS wt ks = 1 + (match ks[0]? with | none => 0 | some y => wt y) := by
  match ks, h with
  | [a], _ => simp [wtS]
theorem clTxt_len (f : Ex → Bool → List UInt8) (wt : Ex → Nat) (c : Cl) (h1 : c.1.length = 1) (hp : ∀ y ∈ c.1, ∀ b, (f y b).length ≤ 40 + 50 * wt y) (hb : ∀ y ∈ c.2, ∀ b, (f y b).length ≤ 40 + 50 * wt y) : (clTxt f c).length ≤ 40 + 50 * wtCl wt c := by
  obtain ⟨ps, bs⟩ := c
  match ps, h1 with
  | [p], _ =>
    have h2 := hp p (by simp) false
    have h3 := joinT_wt (fun y => f y true) wt 40 50 [44, 32] (by decide) bs (fun y hy => hb y hy true)
    have h4 : wtS wt [p] = 1 + wt p := by simp [wtS]
    simp only [clTxt, wtCl, List.length_append, List.length_cons, List.length_nil, h4]
    omega
theorem exTxt_len : ∀ (d : Nat) (x : Ex) (top : Bool), exI d x → shp d x = true → (exTxt d x top).length ≤ 40 + 50 * wtEx d x
  | 0, _, _, h, _ => h.elim
  | d + 1, .mk k n t m ks cs, top, h, hs => by
    obtain ⟨h1, h2, hk, hc⟩ := h
    unfold shp at hs
    simp only [Bool.and_eq_true] at hs
    obtain ⟨s1, s2, s3⟩ := hs
    have ihk : ∀ y ∈ ks, ∀ b, (exTxt d y b).length ≤ 40 + 50 * wtEx d y := fun y hy b => exTxt_len d y b (hk y hy) (List.all_eq_true.1 s2 y hy)
    have ihc : ∀ c ∈ cs, (clTxt (exTxt d) c).length ≤ 40 + 50 * wtCl (wtEx d) c := fun c hcc => by
      have := List.all_eq_true.1 s3 c hcc
      simp only [Bool.and_eq_true, decide_eq_true_eq] at this
      exact clTxt_len _ _ c this.1 (fun y hy b => exTxt_len d y b ((hc c hcc).1 y hy) (List.all_eq_true.1 this.2.1 y hy)) (fun y hy b => exTxt_len d y b ((hc c hcc).2 y hy) (List.all_eq_true.1 this.2.2 y hy))
    have hb := okI_bd h2
    have hi := itoa_len n hb.1 hb.2
    have j1 := joinT_wt (fun y => exTxt d y false) (wtEx d) 40 50 [44, 32] (by decide) ks (fun y hy => ihk y hy false)
    have j2 := joinT_wt (clTxt (exTxt d)) (wtCl (wtEx d)) 40 50 [59, 32] (by decide) cs ihc
    have q0 := kidT_len (exTxt d) (wtEx d) ks 0 (fun y hy => ihk y hy false)
    have q1 := kidT_len (exTxt d) (wtEx d) ks 1 (fun y hy => ihk y hy false)
    have hw : wtEx (d + 1) (.mk k n t m ks cs) = t.size + m.size + wtS (wtEx d) ks + wtS (wtCl (wtEx d)) cs := rfl
    have ht := bsize t
    have hm := bsize m
    have hh : (headT t m).length ≤ t.size + m.size + 1 := by unfold headT; split <;> simp only [List.length_append, List.length_cons, List.length_nil, ht, hm] <;> omega
    have hbare : (bareT (exTxt d) k n t m ks cs).length + 2 ≤ 40 + 50 * wtEx (d + 1) (.mk k n t m ks cs) := by
      rw [hw]
      unfold bareT
      split
      · omega
      split
      · simp only [List.length_cons, List.length_nil]; omega
      split
      · simp only [List.length_append, List.length_cons, List.length_nil]; omega
      split
      · simp only [List.length_cons, List.length_nil]; omega
      split
      · rename_i k6
        have := two_wt (wtEx d) ks (by simpa [shpK, k6] using s1)
        simp only [List.length_append, List.length_cons, List.length_nil]; omega
      split
      · rename_i k7
        have := two_wt (wtEx d) ks (by simpa [shpK, k7] using s1)
        simp only [List.length_append, List.length_cons, List.length_nil, ht]; omega
      split
      · rename_i k9
        have := two_wt (wtEx d) ks (by simpa [shpK, k9] using s1)
        simp only [List.length_append, List.length_cons, List.length_nil]; omega
      split
      · rename_i k10
        have := one_wt (wtEx d) ks (by simpa [shpK, k10] using s1)
        simp only [List.length_append, List.length_cons, List.length_nil]; omega
      split
      · simp only [List.length_append, List.length_cons, List.length_nil]; omega
      · rw [ht]; omega
    unfold exTxt
    split
    · unfold wrapT
      split
      · omega
      · simp only [List.length_append, List.length_cons, List.length_nil]; omega
    · omega

/-- The text of a module. -/
def lineT (d : Nat) (name : ByteArray) (c : Cl) : List UInt8 := name.data.toList ++ [40] ++ joinT [44, 32] (c.1.map fun y => exTxt d y false) ++ [41, 32, 45, 62, 32] ++ joinT [44, 32] (c.2.map fun y => exTxt d y true)
def funT (d : Nat) (f : Fn') : List UInt8 := joinT [59, 10] (f.clauses.map (lineT d f.name)) ++ [46]
def refT (r : Rf) : List UInt8 := r.name.data.toList ++ [47] ++ Lib.itoa r.arity
def modT1 (m : Md) : List UInt8 := [45, 109, 111, 100, 117, 108, 101, 40] ++ m.name.data.toList ++ [41, 46]
def modT2 (m : Md) : List UInt8 := [45, 101, 120, 112, 111, 114, 116, 40, 91] ++ joinT [44, 32] (m.exports.map refT) ++ [93, 41, 46]
def mdHead (m : Md) : List UInt8 := modT1 m ++ [10] ++ modT2 m ++ [10]
def mdTxt (d : Nat) (m : Md) : List UInt8 := mdHead m ++ (m.funs.map fun f => funT d f ++ [10]).flatten

theorem joinT_behind (sep x : List UInt8) : ∀ xs : List (List UInt8), joinT sep (x :: xs) ++ sep = x ++ sep ++ (xs.map (· ++ sep)).flatten
  | [] => by simp [joinT]
  | y :: ys => by
    have h : ∀ zs : List (List UInt8), (zs.map (sep ++ ·)).flatten ++ sep = sep ++ (zs.map (· ++ sep)).flatten := by
      intro zs
      induction zs with
      | nil => simp
      | cons z zs ih => simp only [List.map_cons, List.flatten_cons, List.append_assoc] at ih ⊢; rw [ih]
    simp only [joinT, List.append_assoc]
    rw [h]
theorem joinT_end (sep : List UInt8) : ∀ (xs : List (List UInt8)) (x : List UInt8), joinT sep (xs ++ [x]) = (xs.map (· ++ sep)).flatten ++ x
  | [], x => by simp [joinT]
  | y :: ys, x => by
    have h := joinT_behind sep y ys
    rw [List.cons_append, ← List.cons_append, joinT_snoc sep (y :: ys) x (by simp), ← List.append_assoc, h]
    simp
/-- A module as it is implied: the texts of its lines joined. -/
theorem mdTxt_join (d : Nat) (m : Md) : joinT [10] (modT1 m :: modT2 m :: m.funs.map (funT d)) ++ [10] = mdTxt d m := by
  rw [joinT_behind]
  simp [mdTxt, mdHead, List.map_map, Function.comp_def]

theorem lineT_len {d : Nat} {name : ByteArray} {c : Cl} (hn : name.size ≤ 10) (hI : (∀ y ∈ c.1, exI d y) ∧ ∀ y ∈ c.2, exI d y) (h1 : c.1.all (shp d) = true) (h2 : c.2.all (shp d) = true) : (lineT d name c).length ≤ 40 + 50 * wtCl (wtEx d) c := by
  have j1 := joinT_wt (fun y => exTxt d y false) (wtEx d) 40 50 [44, 32] (by decide) c.1 (fun y hy => exTxt_len d y false (hI.1 y hy) (List.all_eq_true.1 h1 y hy))
  have j2 := joinT_wt (fun y => exTxt d y true) (wtEx d) 40 50 [44, 32] (by decide) c.2 (fun y hy => exTxt_len d y true (hI.2 y hy) (List.all_eq_true.1 h2 y hy))
  simp only [lineT, wtCl, List.length_append, List.length_cons, List.length_nil, bsize]
  omega
theorem flat_len {α : Type} (T : α → List UInt8) (wt : α → Nat) (b : Nat) (ys : List α) (ih : ∀ y ∈ ys, (T y).length ≤ b + b * wt y) : ((ys.map T).flatten).length ≤ b * wtS wt ys := by
  have h2 := sum_le (fun y => (T y).length) (fun y => b + b * wt y) ys ih
  rw [sum_lin] at h2
  have h3 : ((ys.map T).flatten).length = (ys.map fun y => (T y).length).sum := by rw [List.length_flatten, List.map_map]; rfl
  rw [h3]
  unfold wtS
  rw [Nat.mul_add]
  exact h2
theorem refT_len {r : Rf} (h : okI r.arity) : (refT r).length ≤ 22 + 50 * wtRf r := by
  have hb := okI_bd h
  have hi := itoa_len r.arity hb.1 hb.2
  simp only [refT, wtRf, List.length_append, List.length_cons, List.length_nil, bsize]
  omega
end Go.Proofs.YtkomkhiinfdfmaaGreatDoor
