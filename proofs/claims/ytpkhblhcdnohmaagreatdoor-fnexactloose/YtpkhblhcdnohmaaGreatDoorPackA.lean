/-
  Texts of the proof, packed: Tree, Gen, Wt, Own, ExOwn, ExTo, ModOwn, ModTo, Mark, ExMark, RefMark, ModMark, StrRow, RefRow, Size, Eq, ModRefs.
-/
import Derived.Test.YtpkhblhcdnohmaaGreatDoorRows
import Derived.WalkKit
import Derived.ProofKit
import Derived.Lib.LaidTab
import Derived.Below
import Derived.Deep.QuietTactic
import Derived.BigQuiet
import Derived.Test.YtpkhblhcdnohmaaGreatDoorProg
import Derived.Deep.RegionWith
import Derived.Deep.RegionHeld3
import Derived.WalkSmall
import Derived.Deep.DeepMust
import Derived.Laws.MakeOwn
import Derived.OpenShut
import Derived.WalkSpells
import Derived.Lib.ItoaNum
import Derived.Laws.IdiomStrings
import Derived.Laws.AppendOwn
import Derived.Laws.AppendOwnNone
import Derived.OwnWalk
/-
  Data that lies in memory as trees of rows: slices of structs whose fields are numbers, texts and slices again. What lies so is read by its tree; it stays where the blocks that it lies in stay; and whatever the statement's reader reads of such a type is such a tree.
-/
namespace Go.Proofs.YtpkhblhcdnohmaaGreatDoor
open Go.ChangeShapes Go.WideShapes Go.ChangeAt Go.RowKit
set_option linter.unusedVariables false

/-- Whatever lies in blocks of S lies in w' as it does in w. -/
def SameOn (S : Nat → Prop) (w w' : World) : Prop := w.heap.size ≤ w'.heap.size ∧ ∀ g, S g → g < w.heap.size → w'.heap[g]? = w.heap[g]?

theorem SameOn.of_below {S : Nat → Prop} {w w' : World} (h : Below w.heap.size w w') : SameOn S w w' := ⟨h.size, fun g _ hg => h.block g hg⟩
theorem SameOn.of_low {N : Nat} {w w' : World} (h : Below N w w') : SameOn (fun g => g < N) w w' := ⟨h.size, fun g hg _ => h.block g hg⟩
theorem SameOn.trans {S : Nat → Prop} {a b c : World} (h : SameOn S a b) (k : SameOn S b c) : SameOn S a c :=
  ⟨Nat.le_trans h.1 k.1, fun g hs hg => (k.2 g hs (Nat.lt_of_lt_of_le hg h.1)).trans (h.2 g hs hg)⟩
theorem SameOn.drew {S : Nat → Prop} {a b : World} (h : SameOn S a b) : SameOn S a b.drew := h
theorem SameOn.sub {S S' : Nat → Prop} {a b : World} (h : SameOn S a b) (hs : ∀ g, S' g → S g) : SameOn S' a b := ⟨h.1, fun g hg => h.2 g (hs g hg)⟩

/-- Every block. -/
def All (_ : Nat) : Prop := True

theorem alloc_hs (w : World) (o : Obj) : (w.alloc o).heap.size = w.heap.size + 1 := by simp

theorem cell_new (w : World) (cs : Array Value) (t : TypeId) (j : Nat) (v : Value) (h : cs[j]? = some v) : (w.alloc (.cells cs t)).cell? ⟨w.heap.size, j, none⟩ = some v := by
  have e : (w.alloc (.cells cs t)).heap[w.heap.size]? = some (.cells cs t) := by
    show (w.heap.push _)[w.heap.size]? = _
    simp
  unfold World.cell?; rw [e]; simpa using h

/-- A world of a class. -/
structure Wd (C : World → Prop) where
  val : World
  ok : C val

/-- A region that draws its order, all of whose operations yield the same in every world of a class and lead to one of it: one walk, in the order of the text. -/
theorem wp_region_class {P : Program} (C : World → Prop) {id : Nat} {Q : Exit → Act → World → Prop} {a : Act} {w : World} {l : List Oper} (hm : P.follows .mixedOrders = true) (hB : Region.lexB .any l.toArray = true)
    (hC : C w.drew) (h : wpQuiet P l.toArray (fun w' => ∃ m : Wd C, w' = m.val) (fun a' => ∀ w', (∃ m : Wd C, w' = m.val) → Q .normal a' w') l a) : (Code.region id l.toArray true).wp P Q a w :=
  wp_region_quiet (C := fun w' => ∃ m : Wd C, w' = m.val) hm hB ⟨⟨_, hC⟩, rfl⟩ (by simpa using h)

/-- v is a slice; its elements, of c cells each, are R's xs; its block is one of S. -/
def Rows {α : Type} (w : World) (S : Nat → Prop) (c : Nat) (R : List Value → α → Prop) (v : Value) (xs : List α) : Prop :=
  ∃ p cap, v = .slice p xs.length cap ∧ xs.length ≤ cap ∧ cap ≤ maxLen ∧
    (xs ≠ [] → ∃ g off, p = some ⟨g, off, none⟩ ∧ S g ∧ g < w.heap.size ∧ ∀ i x, xs[i]? = some x → ∃ cs, cs.length = c ∧ (∀ j, j < c → w.cell? ⟨g, off + i * c + j, none⟩ = cs[j]?) ∧ R cs x)

theorem Rows.mono {α : Type} {w w' : World} {S S' : Nat → Prop} {c : Nat} {R R' : List Value → α → Prop} {v : Value} {xs : List α} (h : Rows w S c R v xs)
    (hs : SameOn S w w') (hS : ∀ g, S g → S' g) (hR : ∀ cs x, x ∈ xs → R cs x → R' cs x) : Rows w' S' c R' v xs := by
  obtain ⟨p, cap, hv, h1, h2, h3⟩ := h
  refine ⟨p, cap, hv, h1, h2, fun hne => ?_⟩
  obtain ⟨g, off, hp, hg, hlt, hx⟩ := h3 hne
  refine ⟨g, off, hp, hS g hg, Nat.lt_of_lt_of_le hlt hs.1, fun i x hi => ?_⟩
  obtain ⟨cs, hl, hc, hr⟩ := hx i x hi
  exact ⟨cs, hl, fun j hj => (World.cell?_of_block (hs.2 g hg hlt)).trans (hc j hj), hR cs x (List.mem_of_getElem? hi) hr⟩

theorem Rows.nil {α : Type} {w : World} {S : Nat → Prop} {c : Nat} {R : List Value → α → Prop} {p : Option Addr} {cap : Nat} (hc : cap ≤ maxLen) : Rows w S c R (.slice p 0 cap) [] :=
  ⟨p, cap, rfl, Nat.zero_le _, hc, fun h => absurd rfl h⟩

/-- An expression, as the document's chapter 2 has it; a clause: its patterns and its body. -/
inductive Ex where
  | mk (kind n : Int) (text mod : ByteArray) (kids : List Ex) (clauses : List (List Ex × List Ex))
abbrev Cl := List Ex × List Ex
def Ex.kind : Ex → Int | .mk k _ _ _ _ _ => k
def Ex.n : Ex → Int | .mk _ n _ _ _ _ => n
def Ex.text : Ex → ByteArray | .mk _ _ t _ _ _ => t
def Ex.mod : Ex → ByteArray | .mk _ _ _ m _ _ => m
def Ex.kids : Ex → List Ex | .mk _ _ _ _ k _ => k
def Ex.clauses : Ex → List Cl | .mk _ _ _ _ _ c => c
theorem Ex.eq_iff (a b : Ex) : a = b ↔ a.kind = b.kind ∧ a.n = b.n ∧ a.text = b.text ∧ a.mod = b.mod ∧ a.kids = b.kids ∧ a.clauses = b.clauses := by
  cases a; cases b; simp [Ex.kind, Ex.n, Ex.text, Ex.mod, Ex.kids, Ex.clauses]
structure Rf where
  name : ByteArray
  arity : Int
structure Fn' where
  name : ByteArray
  arity : Int
  clauses : List Cl
structure Md where
  name : ByteArray
  exports : List Rf
  funs : List Fn'

def okI (n : Int) : Prop := (Lit.int .i64 n).wf = true
def okS (s : ByteArray) : Prop := s.size ≤ maxLen

def HCl (w : World) (S : Nat → Prop) (R : List Value → Ex → Prop) (cs : List Value) (c : Cl) : Prop :=
  ∃ p b, cs = [p, b] ∧ Rows w S 6 R p c.1 ∧ Rows w S 6 R b c.2

/-- Six cells that are an expression, at most d deep, whose kids and clauses lie in blocks of S. -/
def HEx (w : World) (S : Nat → Prop) : Nat → List Value → Ex → Prop
  | 0, _, _ => False
  | d + 1, cs, e => ∃ kv cv, cs = [.int .i64 e.kind, .int .i64 e.n, .string e.text, .string e.mod, kv, cv] ∧ okI e.kind ∧ okI e.n ∧ okS e.text ∧ okS e.mod ∧
      Rows w S 6 (HEx w S d) kv e.kids ∧ Rows w S 2 (HCl w S (HEx w S d)) cv e.clauses

def HRf (cs : List Value) (r : Rf) : Prop := cs = [.string r.name, .int .i64 r.arity] ∧ okS r.name ∧ okI r.arity

def HFn (w : World) (S : Nat → Prop) (d : Nat) (cs : List Value) (f : Fn') : Prop :=
  ∃ cv, cs = [.string f.name, .int .i64 f.arity, cv] ∧ okS f.name ∧ okI f.arity ∧ Rows w S 2 (HCl w S (HEx w S d)) cv f.clauses

def HMd (w : World) (S : Nat → Prop) (d : Nat) (cs : List Value) (m : Md) : Prop :=
  ∃ ev fv, cs = [.string m.name, ev, fv] ∧ okS m.name ∧ Rows w S 2 HRf ev m.exports ∧ Rows w S 3 (HFn w S d) fv m.funs

theorem HCl.mono {w w' : World} {S S' : Nat → Prop} {R R' : List Value → Ex → Prop} {cs : List Value} {c : Cl} (h : HCl w S R cs c) (hs : SameOn S w w') (hS : ∀ g, S g → S' g)
    (hR : ∀ cs x, R cs x → R' cs x) : HCl w' S' R' cs c := by
  obtain ⟨p, b, rfl, h1, h2⟩ := h
  exact ⟨p, b, rfl, h1.mono hs hS (fun cs x _ => hR cs x), h2.mono hs hS (fun cs x _ => hR cs x)⟩

theorem HEx.mono {w w' : World} {S S' : Nat → Prop} (hs : SameOn S w w') (hS : ∀ g, S g → S' g) : ∀ {d : Nat} {cs : List Value} {e : Ex}, HEx w S d cs e → HEx w' S' d cs e
  | 0, _, _, h => h.elim
  | d + 1, cs, e, h => by
    obtain ⟨kv, cv, rfl, h1, h2, h3, h4, hk, hc⟩ := h
    exact ⟨kv, cv, rfl, h1, h2, h3, h4, hk.mono hs hS (fun _ _ _ => HEx.mono hs hS), hc.mono hs hS (fun _ _ _ h => h.mono hs hS (fun _ _ => HEx.mono hs hS))⟩

theorem HFn.mono {w w' : World} {S S' : Nat → Prop} (hs : SameOn S w w') (hS : ∀ g, S g → S' g) {d : Nat} {cs : List Value} {f : Fn'} (h : HFn w S d cs f) : HFn w' S' d cs f := by
  obtain ⟨cv, rfl, h1, h2, hc⟩ := h
  exact ⟨cv, rfl, h1, h2, hc.mono hs hS (fun _ _ _ h => h.mono hs hS (fun _ _ => HEx.mono hs hS))⟩

theorem HMd.mono {w w' : World} {S S' : Nat → Prop} (hs : SameOn S w w') (hS : ∀ g, S g → S' g) {d : Nat} {cs : List Value} {m : Md} (h : HMd w S d cs m) : HMd w' S' d cs m := by
  obtain ⟨ev, fv, rfl, h1, he, hf⟩ := h
  exact ⟨ev, fv, rfl, h1, he.mono hs hS (fun _ _ _ h => h), hf.mono hs hS (fun _ _ _ h => h.mono hs hS)⟩

/-! What the statement's reader reads. -/
section
variable {H : Type} {enc : TypeId × Value → H} {P : Program} {w : World} {base : Nat} {sp : Nat → Bool} {held : Bool}

theorem pick {α β : Type} {p : α → β → Prop} : ∀ {l : List α}, (∀ a ∈ l, ∃ b, p a b) → ∃ bs : List β, bs.length = l.length ∧ ∀ (i : Nat) b, bs[i]? = some b → ∃ a, l[i]? = some a ∧ p a b
  | [], _ => ⟨[], rfl, fun i b h => by simp at h⟩
  | a :: l, h => by
    obtain ⟨b, hb⟩ := h a (by simp)
    obtain ⟨bs, hl, hbs⟩ := pick (l := l) fun a ha => h a (by simp [ha])
    refine ⟨b :: bs, by simp [hl], fun i b' hi => ?_⟩
    cases i with
    | zero => simp at hi; subst hi; exact ⟨a, by simp, hb⟩
    | succ i => simp at hi; obtain ⟨a', ha, hp⟩ := hbs i b' hi; exact ⟨a', by simpa using ha, hp⟩

theorem cells_at {a : Addr} {n : Nat} {cs : List Value} (h : w.cells? base a n = some cs) : cs.length = n ∧ ∀ j, j < n → w.cell? (a.add j) = cs[j]? := by
  simp only [World.cells?] at h
  split at h
  · refine ⟨by simpa using Lib.mapM_length h, fun j hj => ?_⟩
    obtain ⟨b, hb, hf⟩ := Lib.mapM_at h j j (by simp [hj])
    rw [hf, hb]
  · cases h

theorem add_add (a : Addr) (n m : Nat) (h : a.spot = none) : (a.add n).add m = ⟨a.block, a.off + n + m, none⟩ := by
  obtain ⟨b, o, s⟩ := a
  simp only at h; subst h
  unfold Addr.add
  by_cases hn : n = 0 <;> by_cases hm : m = 0 <;> simp_all

theorem open_rows {α : Type} {t e : TypeId} {c fuel : Nat} {cs : List Value} {x : DataW H × List MemPlace} {R : List Value → α → Prop} (ht : P.underlying t = some (.slice e)) (hc : P.cellsOf e = c) (hc0 : 0 < c)
    (hR : ∀ cs x, DataW.trod enc P w base sp held fuel e cs = some x → ∃ a, R cs a)
    (h : DataW.trod enc P w base sp held (fuel + 1) t cs = some x) : ∃ v xs, cs = [v] ∧ Rows w (fun g => g < w.heap.size) c R v xs := by
  unfold DataW.trod at h
  simp only [ht] at h
  split at h
  all_goals try (rename_i heq _; cases heq; done)
  all_goals try (rename_i heq; cases heq; done)
  all_goals try (cases h; done)
  · exact ⟨_, [], rfl, Rows.nil (Nat.zero_le _)⟩
  · rename_i e' a len cap heq1 
    injection heq1 with heq1
    injection heq1 with heq1
    subst heq1
    simp only [hc] at h
    split at h
    · rename_i hb
      obtain ⟨elems, he, hr⟩ := Option.bind_eq_some_iff.1 h
      have hel : elems.length = len := by simpa using Lib.mapM_length he
      have hat : ∀ i ∈ List.range len, ∃ b : List Value × α, w.cells? base (a.add (i * c)) c = some b.1 ∧ R b.1 b.2 := by
        intro i hi
        have hi' : i < len := by simpa using hi
        obtain ⟨b, _, hf⟩ := Lib.mapM_at he i i (by simp [hi'])
        obtain ⟨cs, hcs, htr⟩ := Option.bind_eq_some_iff.1 hf
        obtain ⟨a', ha'⟩ := hR cs b htr
        exact ⟨(cs, a'), hcs, ha'⟩
      obtain ⟨bs, hbl, hbs⟩ := pick hat
      refine ⟨_, bs.map (·.2), rfl, some a, cap, ?_, ?_, hb.2.2, fun hne => ?_⟩
      · simp only [List.length_map, hbl, List.length_range]
      · simp only [List.length_map, hbl, List.length_range]; exact hb.2.1
      · have hl0 : 0 < len := by
          cases bs with
          | nil => exact absurd rfl hne
          | cons b bs => simp at hbl; omega
        obtain ⟨b0, hb0⟩ : ∃ b0, bs[0]? = some b0 := ⟨bs[0]'(by rw [hbl]; simpa using hl0), List.getElem?_eq_getElem _⟩
        obtain ⟨i0, hi0, hc0', _⟩ := hbs 0 b0 hb0
        obtain rfl : i0 = 0 := by
          rw [List.getElem?_range hl0] at hi0; exact (Option.some.inj hi0).symm
        obtain ⟨hl1, hat1⟩ := cells_at hc0'
        have hcell := hat1 0 hc0
        simp only [Nat.zero_mul] at hcell
        have hsp : a.spot = none ∧ a.block < w.heap.size := by
          have : w.cell? a = some (b0.1[0]'(by rw [hl1]; exact hc0)) := by
            rw [← List.getElem?_eq_getElem]; rw [← hcell]; simp [Addr.add]
          unfold World.cell? at this
          split at this
          · rename_i heq
            constructor
            · cases hs : a.spot with
              | none => rfl
              | some s => simp [hs] at this
            · exact (Array.getElem?_eq_some_iff.1 heq).1
          · cases this
        refine ⟨a.block, a.off, ?_, hsp.2, hsp.2, fun i x hi => ?_⟩
        · obtain ⟨b, o, s⟩ := a; simp only at hsp; simp [hsp.1]
        · rw [List.getElem?_map] at hi
          obtain ⟨b, hb', rfl⟩ := Option.map_eq_some_iff.1 hi
          obtain ⟨i', hi', hcs, hr'⟩ := hbs i b hb'
          have hlt : i < len := by
            have := (List.getElem?_eq_some_iff.1 hb').1
            rw [hbl] at this; simpa using this
          obtain rfl : i' = i := by
            rw [List.getElem?_range hlt] at hi'; exact (Option.some.inj hi').symm
          obtain ⟨hl2, hat2⟩ := cells_at hcs
          exact ⟨b.1, hl2, fun j hj => by rw [← hat2 j hj, add_add _ _ _ hsp.1], hr'⟩
    · cases h

theorem open_fields {t : TypeId} {fs : Array Field} {tys : List (TypeId × Nat)} {fuel : Nat} {cs : List Value} {x : DataW H × List MemPlace} (ht : P.underlying t = some (.struct fs))
    (hf : (fs.toList.map fun f => (f.type, f.offset)) = tys) (h : DataW.trod enc P w base sp held (fuel + 1) t cs = some x) :
    cs.length = P.cellsOf t ∧ ∀ (i : Nat) ty o, tys[i]? = some (ty, o) → ∃ y, DataW.trod enc P w base sp held fuel ty ((cs.drop o).take (P.cellsOf ty)) = some y := by
  unfold DataW.trod at h
  simp only [ht] at h
  split at h
  · rename_i hl
    refine ⟨hl, fun i ty o hi => ?_⟩
    obtain ⟨xs, hm, _⟩ := Option.map_eq_some_iff.1 h
    rw [← hf, List.getElem?_map] at hi
    obtain ⟨f, hfi, hfe⟩ := Option.map_eq_some_iff.1 hi
    obtain ⟨y, _, hy⟩ := Lib.mapM_at hm i f hfi
    simp only [Prod.mk.injEq] at hfe
    rw [← hfe.1, ← hfe.2]
    exact ⟨y, hy⟩
  · cases h

theorem open_int1 {t : TypeId} {fuel : Nat} {v : Value} {x : DataW H × List MemPlace} (ht : P.underlying t = some (.int .i64)) (h : DataW.trod enc P w base sp held fuel t [v] = some x) : ∃ n, v = .int .i64 n ∧ okI n := by
  obtain ⟨n, hn, hw⟩ : ∃ n, [v] = [Value.int .i64 n] ∧ okI n := by
    cases fuel with
    | zero => simp [DataW.trod] at h
    | succ fuel =>
      unfold DataW.trod at h
      simp only [ht] at h
      split at h
      all_goals try (rename_i heq _; cases heq; done)
      all_goals try (rename_i heq; cases heq; done)
      all_goals try (cases h; done)
      · rename_i k k' n heq heq2
        split at h
        · rename_i hk
          cases heq
          obtain ⟨rfl, hw⟩ := hk
          exact ⟨n, heq2, hw⟩
        · cases h
  cases hn
  exact ⟨n, rfl, hw⟩

theorem open_str1 {t : TypeId} {fuel : Nat} {v : Value} {x : DataW H × List MemPlace} (ht : P.underlying t = some .string) (h : DataW.trod enc P w base sp held fuel t [v] = some x) : ∃ s, v = .string s ∧ okS s := by
  obtain ⟨n, hn, hw⟩ : ∃ n, [v] = [Value.string n] ∧ okS n := by
    cases fuel with
    | zero => simp [DataW.trod] at h
    | succ fuel =>
      unfold DataW.trod at h
      simp only [ht] at h
      split at h
      all_goals try (rename_i heq _; cases heq; done)
      all_goals try (rename_i heq; cases heq; done)
      all_goals try (cases h; done)
      · rename_i s heq heq2
        split at h
        · rename_i hk
          exact ⟨s, heq2, hk⟩
        · cases h
  cases hn
  exact ⟨n, rfl, hw⟩

theorem HEx.deeper {S : Nat → Prop} : ∀ {d d' : Nat} {cs : List Value} {e : Ex}, d ≤ d' → HEx w S d cs e → HEx w S d' cs e
  | 0, _, _, _, _, h => h.elim
  | d + 1, 0, _, _, hd, h => by omega
  | d + 1, d' + 1, cs, e, hd, h => by
    have hs : SameOn S w w := ⟨Nat.le_refl _, fun _ _ _ => rfl⟩
    obtain ⟨kv, cv, rfl, h1, h2, h3, h4, hk, hc⟩ := h
    exact ⟨kv, cv, rfl, h1, h2, h3, h4, hk.mono hs (fun _ h => h) (fun _ _ _ => HEx.deeper (by omega)), hc.mono hs (fun _ h => h) (fun _ _ _ h => h.mono hs (fun _ h => h) (fun _ _ => HEx.deeper (by omega)))⟩

/-- The types of expressions and clauses, in a program. -/
structure ExTypes (P : Program) (tE tEs tC tCs tI tS : TypeId) : Prop where
  e : ∃ fs, P.underlying tE = some (.struct fs) ∧ (fs.toList.map fun f => (f.type, f.offset)) = [(tI, 0), (tI, 1), (tS, 2), (tS, 3), (tEs, 4), (tCs, 5)]
  c : ∃ fs, P.underlying tC = some (.struct fs) ∧ (fs.toList.map fun f => (f.type, f.offset)) = [(tEs, 0), (tEs, 1)]
  es : P.underlying tEs = some (.slice tE)
  cs : P.underlying tCs = some (.slice tC)
  i : P.underlying tI = some (.int .i64)
  s : P.underlying tS = some .string
  ce : P.cellsOf tE = 6
  cc : P.cellsOf tC = 2
  ci : P.cellsOf tI = 1
  cS : P.cellsOf tS = 1
  ces : P.cellsOf tEs = 1
  ccs : P.cellsOf tCs = 1

theorem len6 {cs : List Value} (h : cs.length = 6) : ∃ a b c d e f, cs = [a, b, c, d, e, f] := by
  match cs, h with
  | [a, b, c, d, e, f], _ => exact ⟨a, b, c, d, e, f, rfl⟩
theorem len2 {cs : List Value} (h : cs.length = 2) : ∃ a b, cs = [a, b] := by
  match cs, h with
  | [a, b], _ => exact ⟨a, b, rfl⟩
theorem len3 {cs : List Value} (h : cs.length = 3) : ∃ a b c, cs = [a, b, c] := by
  match cs, h with
  | [a, b, c], _ => exact ⟨a, b, c, rfl⟩

variable {tE tEs tC tCs tI tS : TypeId}

theorem open_exs {n : Nat} (T : ExTypes P tE tEs tC tCs tI tS)
    (ih : ∀ fuel, fuel < n → ∀ cs x, DataW.trod enc P w base sp held fuel tE cs = some x → ∃ e, HEx w (fun g => g < w.heap.size) n cs e) {fuel : Nat} (hf : fuel ≤ n) {v : Value} {x : DataW H × List MemPlace}
    (h : DataW.trod enc P w base sp held fuel tEs [v] = some x) : ∃ es, Rows w (fun g => g < w.heap.size) 6 (HEx w (fun g => g < w.heap.size) n) v es := by
  cases fuel with
  | zero => simp [DataW.trod] at h
  | succ fuel =>
    obtain ⟨v', xs, hv, hr⟩ := open_rows T.es T.ce (by decide) (ih fuel (by omega)) h
    cases hv
    exact ⟨xs, hr⟩

theorem open_cls {n : Nat} (T : ExTypes P tE tEs tC tCs tI tS)
    (ih : ∀ fuel, fuel < n → ∀ cs x, DataW.trod enc P w base sp held fuel tE cs = some x → ∃ e, HEx w (fun g => g < w.heap.size) n cs e) {fuel : Nat} (hf : fuel ≤ n) {v : Value} {x : DataW H × List MemPlace}
    (h : DataW.trod enc P w base sp held fuel tCs [v] = some x) : ∃ es, Rows w (fun g => g < w.heap.size) 2 (HCl w (fun g => g < w.heap.size) (HEx w (fun g => g < w.heap.size) n)) v es := by
  cases fuel with
  | zero => simp [DataW.trod] at h
  | succ fuel =>
    obtain ⟨v', xs, hv, hr⟩ := open_rows (R := HCl w (fun g => g < w.heap.size) (HEx w (fun g => g < w.heap.size) n)) T.cs T.cc (by decide) (fun cs x hx => by
      cases fuel with
      | zero => simp [DataW.trod] at hx
      | succ fuel =>
        obtain ⟨fs, hu, hfs⟩ := T.c
        obtain ⟨hl, hat⟩ := open_fields hu hfs hx
        rw [T.cc] at hl
        obtain ⟨a, b, rfl⟩ := len2 hl
        obtain ⟨y0, h0⟩ := hat 0 _ _ rfl
        obtain ⟨y1, h1⟩ := hat 1 _ _ rfl
        rw [T.ces] at h0 h1
        obtain ⟨p, hp⟩ := open_exs T ih (by omega) h0
        obtain ⟨q, hq⟩ := open_exs T ih (by omega) h1
        exact ⟨(p, q), a, b, rfl, hp, hq⟩) h
    cases hv
    exact ⟨xs, hr⟩

theorem open_ex (T : ExTypes P tE tEs tC tCs tI tS) : ∀ (n fuel : Nat), fuel < n → ∀ cs x, DataW.trod enc P w base sp held fuel tE cs = some x → ∃ e, HEx w (fun g => g < w.heap.size) n cs e := by
  intro n
  induction n with
  | zero => intro fuel hf; omega
  | succ n ihn =>
    intro fuel hf cs x h
    cases fuel with
    | zero => simp [DataW.trod] at h
    | succ fuel =>
      obtain ⟨fs, hu, hfs⟩ := T.e
      obtain ⟨hl, hat⟩ := open_fields hu hfs h
      rw [T.ce] at hl
      obtain ⟨a, b, c, d, e, f, rfl⟩ := len6 hl
      obtain ⟨y0, h0⟩ := hat 0 _ _ rfl
      obtain ⟨y1, h1⟩ := hat 1 _ _ rfl
      obtain ⟨y2, h2⟩ := hat 2 _ _ rfl
      obtain ⟨y3, h3⟩ := hat 3 _ _ rfl
      obtain ⟨y4, h4⟩ := hat 4 _ _ rfl
      obtain ⟨y5, h5⟩ := hat 5 _ _ rfl
      rw [T.ci] at h0 h1
      rw [T.cS] at h2 h3
      rw [T.ces] at h4
      rw [T.ccs] at h5
      obtain ⟨k, rfl, hk⟩ := open_int1 T.i h0
      obtain ⟨m, rfl, hm⟩ := open_int1 T.i h1
      obtain ⟨s, rfl, hs⟩ := open_str1 T.s h2
      obtain ⟨r, rfl, hr⟩ := open_str1 T.s h3
      obtain ⟨ks, hks⟩ := open_exs T ihn (by omega) h4
      obtain ⟨cls, hcls⟩ := open_cls T ihn (by omega) h5
      exact ⟨.mk k m s r ks cls, e, f, rfl, hk, hm, hs, hr, hks, hcls⟩

structure MdTypes (P : Program) (tE tEs tC tCs tI tS tR tRs tF tFs tM : TypeId) : Prop extends ExTypes P tE tEs tC tCs tI tS where
  r : ∃ fs, P.underlying tR = some (.struct fs) ∧ (fs.toList.map fun f => (f.type, f.offset)) = [(tS, 0), (tI, 1)]
  f : ∃ fs, P.underlying tF = some (.struct fs) ∧ (fs.toList.map fun f => (f.type, f.offset)) = [(tS, 0), (tI, 1), (tCs, 2)]
  m : ∃ fs, P.underlying tM = some (.struct fs) ∧ (fs.toList.map fun f => (f.type, f.offset)) = [(tS, 0), (tRs, 1), (tFs, 2)]
  rs : P.underlying tRs = some (.slice tR)
  fs : P.underlying tFs = some (.slice tF)
  cr : P.cellsOf tR = 2
  cf : P.cellsOf tF = 3
  cm : P.cellsOf tM = 3
  crs : P.cellsOf tRs = 1
  cfs : P.cellsOf tFs = 1

variable {tR tRs tF tFs tM : TypeId}

theorem open_md (T : MdTypes P tE tEs tC tCs tI tS tR tRs tF tFs tM) {v : Value} {dd : DataW H} {ps : List MemPlace} (h : DataW.Trod enc P w base sp held tM v dd ps) :
    ∃ d m, HMd w (fun g => g < w.heap.size) d v.cells.toList m := by
  obtain ⟨fuel, h⟩ := h
  generalize v.cells.toList = cs at h ⊢
  cases fuel with
  | zero => simp [DataW.trod] at h
  | succ fuel =>
    obtain ⟨fs, hu, hfs⟩ := T.m
    obtain ⟨hl, hat⟩ := open_fields hu hfs h
    rw [T.cm] at hl
    obtain ⟨a, b, c, rfl⟩ := len3 hl
    obtain ⟨y0, h0⟩ := hat 0 _ _ rfl
    obtain ⟨y1, h1⟩ := hat 1 _ _ rfl
    obtain ⟨y2, h2⟩ := hat 2 _ _ rfl
    rw [T.cS] at h0
    rw [T.crs] at h1
    rw [T.cfs] at h2
    obtain ⟨s, rfl, hs⟩ := open_str1 T.s h0
    cases fuel with
    | zero => simp [DataW.trod] at h0
    | succ fuel =>
      obtain ⟨_, rs, hv, hr⟩ := open_rows (R := HRf) T.rs T.cr (by decide) (fun cs x hx => by
        cases fuel with
        | zero => simp [DataW.trod] at hx
        | succ fuel =>
          obtain ⟨fs, hu, hfs⟩ := T.r
          obtain ⟨hl, hat⟩ := open_fields hu hfs hx
          rw [T.cr] at hl
          obtain ⟨a, b, rfl⟩ := len2 hl
          obtain ⟨y0, h0⟩ := hat 0 _ _ rfl
          obtain ⟨y1, h1⟩ := hat 1 _ _ rfl
          rw [T.cS] at h0
          rw [T.ci] at h1
          obtain ⟨s, rfl, hs⟩ := open_str1 T.s h0
          obtain ⟨i, rfl, hi⟩ := open_int1 T.i h1
          exact ⟨⟨s, i⟩, rfl, hs, hi⟩) h1
      cases hv
      obtain ⟨_, fs, hv, hf⟩ := open_rows (R := HFn w (fun g => g < w.heap.size) (fuel + 1)) T.fs T.cf (by decide) (fun cs x hx => by
        cases fuel with
        | zero => simp [DataW.trod] at hx
        | succ fuel =>
          obtain ⟨fs, hu, hfs⟩ := T.f
          obtain ⟨hl, hat⟩ := open_fields hu hfs hx
          rw [T.cf] at hl
          obtain ⟨a, b, c, rfl⟩ := len3 hl
          obtain ⟨y0, h0⟩ := hat 0 _ _ rfl
          obtain ⟨y1, h1⟩ := hat 1 _ _ rfl
          obtain ⟨y2, h2⟩ := hat 2 _ _ rfl
          rw [T.cS] at h0
          rw [T.ci] at h1
          rw [T.ccs] at h2
          obtain ⟨s, rfl, hs⟩ := open_str1 T.s h0
          obtain ⟨i, rfl, hi⟩ := open_int1 T.i h1
          obtain ⟨cls, hcls⟩ := open_cls T.toExTypes (n := fuel + 1 + 1) (open_ex T.toExTypes (fuel + 1 + 1)) (by omega) h2
          exact ⟨⟨s, i, cls⟩, c, rfl, hs, hi, hcls⟩) h2
      cases hv
      exact ⟨fuel + 1, ⟨s, rs, fs⟩, b, c, rfl, hs, hr, hf⟩
end
end Go.Proofs.YtpkhblhcdnohmaaGreatDoor
/-
  What is alike for all trees in memory: weights, boxes, rows that are made; the forms of contracts.
-/
namespace Go.Proofs.YtpkhblhcdnohmaaGreatDoor
open Go.ChangeShapes Go.WideShapes Go.ChangeAt Go.RowKit
set_option linter.unusedVariables false

def wtS {α : Type} (f : α → Nat) (xs : List α) : Nat := xs.length + (xs.map f).sum
/-- What is left of so much, or -1. -/
def leftOf (left wt : Nat) : Int := if left < wt then -1 else ((left - wt : Nat) : Int)

theorem leftOf_lt {left wt : Nat} (h : left < wt) : leftOf left wt = -1 := if_pos h
theorem leftOf_ge {left wt : Nat} (h : wt ≤ left) : leftOf left wt = ((left - wt : Nat) : Int) := if_neg (by omega)
theorem sum_take_succ {α : Type} (f : α → Nat) (xs : List α) (k : Nat) (x : α) (h : xs[k]? = some x) : ((xs.take (k + 1)).map f).sum = ((xs.take k).map f).sum + f x := by
  rw [List.take_add_one, h]; simp
theorem sum_take_le {α : Type} (f : α → Nat) (xs : List α) (k : Nat) : ((xs.take k).map f).sum ≤ (xs.map f).sum := by
  conv => rhs; rw [← List.take_append_drop k xs]
  rw [List.map_append, List.sum_append]; omega

/-- A function of a value, told of a world and of what is left. -/
def SzC {α : Type} (F : FuncId) (H : World → Value → α → Prop) (wt : α → Nat) : Prop :=
  ∀ (w : World) (v : Value) (x : α) (left : Nat), H w v x → left ≤ 1048576 → Calls Tryz.prog F #[v, .int .i64 left] w fun e w' => e = .returned (.int .i64 (leftOf left (wt x))) ∧ Below w.heap.size w w'

theorem SzC.at {α : Type} {F : FuncId} {H : World → Value → α → Prop} {wt : α → Nat} (h : SzC F H wt) {w : World} {v : Value} (x : α) (l : Int) (left : Nat) (hl : l = left) (hx : H w v x) (hb : left ≤ 1048576) :
    Calls Tryz.prog F #[v, .int .i64 l] w fun e w' => e = .returned (.int .i64 (leftOf left (wt x))) ∧ Below w.heap.size w w' := by
  subst hl; exact h w v x left hx hb

/-- A function of two values that are one tree answers true and makes memory alone. -/
def EqC {α : Type} (F : FuncId) (H : World → Value → α → Prop) : Prop :=
  ∀ (w : World) (v1 v2 : Value) (x : α), H w v1 x → H w v2 x → Calls Tryz.prog F #[v1, v2] w fun e w' => e = .returned (.bool true) ∧ Below w.heap.size w w'

/-- A function that makes a copy, of what is not too great, in new memory. -/
def ToC {α : Type} (F : FuncId) (H : World → Value → α → Prop) (R : World → (Nat → Prop) → Value → α → Prop) (wt : α → Nat) : Prop :=
  ∀ (w : World) (v : Value) (x : α), H w v x → wt x ≤ 1048576 → Calls Tryz.prog F #[v] w fun e w' => ∃ u, e = .returned u ∧ R w' (fun g => w.heap.size ≤ g) u x ∧ Below w.heap.size w w'

theorem grownBy_transR {a b c : World} {r : Option Nat} (h : a.grownBy b r) (k : b.grownBy c r) : a.grownBy c r :=
  ⟨k.os.trans h.os, k.tape.trans h.tape, k.output.trans h.output, Nat.le_trans h.size k.size, fun j hj hr => (k.block j (Nat.lt_of_lt_of_le hj h.size) hr).trans (h.block j hj hr)⟩
theorem grownBy_belowR {a b : World} {r : Option Nat} (h : Below a.heap.size a b) : a.grownBy b r := ⟨h.os, h.tape, h.output, h.size, fun j hj _ => h.block j hj⟩
theorem below_grownR {a b : World} {B g : Nat} (h : a.grownBy b (some g)) (hB : B ≤ g) (hs : B ≤ a.heap.size) : Below B a b :=
  ⟨h.os, h.tape, h.output, h.size, fun j hj => h.block j (by omega) (by simp; omega)⟩
theorem own_someR {w : World} {B g n cap c : Nat} {e : TypeId} {xs : List Value} (h : w.ownsRow B e c (.slice (some ⟨g, 0, none⟩) n cap) n xs) (j : Nat) (hj : j < n * c) : ∃ u, w.cell? ⟨g, j, none⟩ = some u :=
  ⟨_, (h.cellAt j hj).trans (List.getElem?_eq_getElem (by rw [h.1]; exact hj))⟩

/-- A new row of n elements of a type: its cells, whatever they are. -/
theorem make_row {t e : TypeId} {c : Nat} (ht : Tryz.prog.underlying t = some (.slice e)) (hi : ((Tryz.prog.info? e).any fun i => i.zero.isSome && (i.size == c && decide (i.bytes ≤ 1000))) = true) (w : World) (n : Nat) (hn : n ≤ 1048576) :
    ∃ M : Array Value, M.size = n * c ∧ (Instr.makeSlice t (.int .i64 n) (.int .i64 n)).run Tryz.prog w = .ok (.slice (some ⟨w.heap.size, 0, none⟩) n n) (w.alloc (.cells M e)) := by
  cases h : Tryz.prog.info? e with
  | none => rw [h] at hi; cases hi
  | some i =>
    rw [h] at hi
    simp only [Option.any_some, Bool.and_eq_true, beq_iff_eq, decide_eq_true_eq] at hi
    obtain ⟨hz, hs, hb⟩ := hi
    obtain ⟨z, hz⟩ := Option.isSome_iff_exists.1 hz
    have := run_make (P := Tryz.prog) w t e i z ht h hz .i64 .i64 n n (by omega) (Int.le_refl _) (by
      have h1 : i.bytes * n ≤ 1000 * 1048576 := Nat.mul_le_mul hb hn
      have h2 : ((i.bytes * n : Nat) : Int) ≤ ((1000 * 1048576 : Nat) : Int) := by exact_mod_cast h1
      rw [Int.natCast_mul] at h2
      omega) (by omega)
    exact ⟨_, by rw [size_madeCells, hs]; simp, this⟩

/-- The block b holds just these cells; none is frozen. -/
def Blk (w : World) (b : Nat) (cs : Array Value) (t : TypeId) : Prop := w.heap[b]? = some (.cells cs t)
theorem Blk.cell {w : World} {b : Nat} {cs : Array Value} {t : TypeId} (h : Blk w b cs t) (j : Nat) (v : Value) (hv : cs[j]? = some v) : w.cell? ⟨b, j, none⟩ = some v := by
  unfold Blk at h; unfold World.cell?; rw [h]; simpa using hv
theorem Blk.frozen {w : World} {b : Nat} {cs : Array Value} {t : TypeId} (h : Blk w b cs t) (j : Nat) : w.frozen? ⟨b, j, none⟩ = false := by
  unfold Blk at h; unfold World.frozen?; rw [h]; simp
theorem Blk.below {w w' : World} {N b : Nat} {cs : Array Value} {t : TypeId} (h : Blk w b cs t) (hb : Below N w w') (hN : b < N) : Blk w' b cs t := (hb.block b hN).trans h
theorem Blk.new {w : World} {cs : Array Value} {t : TypeId} : Blk (w.alloc (.cells cs t)) w.heap.size cs t := by
  show (w.heap.push _)[w.heap.size]? = _
  simp
theorem Blk.alloc {w : World} {b : Nat} {cs : Array Value} {t : TypeId} {o : Obj} (h : Blk w b cs t) : Blk (w.alloc o) b cs t :=
  (Below.heap_alloc _ _ _ (by unfold Blk at h; exact (Array.getElem?_eq_some_iff.1 h).1)).trans h
theorem Blk.same {w : World} {b j : Nat} {cs cs' : Array Value} {t : TypeId} {v : Value} (h : Blk w b cs t) (hc : cs.setIfInBounds j v = cs') : Blk (w.setCell ⟨b, j, none⟩ v) b cs' t := by
  subst hc; exact heap_setCell_same w b j cs t v h
theorem Blk.other {w : World} {b : Nat} {p : Addr} {cs : Array Value} {t : TypeId} {v : Value} (h : Blk w b cs t) (hp : b ≠ p.block) : Blk (w.setCell p v) b cs t := (Below.heap_setCell _ _ _ _ hp).trans h
theorem SameOn.setCell {S : Nat → Prop} {a b : World} (h : SameOn S a b) {p : Addr} (hp : ¬ S p.block) (v : Value) : SameOn S a (b.setCell p v) :=
  ⟨by simpa [World.setCell] using h.1, fun g hg hl => (Below.heap_setCell _ _ _ _ (by intro e; exact hp (e ▸ hg))).trans (h.2 g hg hl)⟩
theorem setCell_hs (w : World) (p : Addr) (v : Value) : (w.setCell p v).heap.size = w.heap.size := by simp [World.setCell]

theorem set2_other {xs : List Value} {d0 d1 : Value} {m o : Nat} (h : m < o) : ((xs.set o d0).set (o + 1) d1)[m]? = xs[m]? := by
  rw [List.getElem?_set_ne (by omega), List.getElem?_set_ne (by omega)]
theorem set2_self {xs : List Value} {d0 d1 : Value} {o : Nat} (h : o + 1 < xs.length) (j : Nat) (hj : j < 2) : ((xs.set o d0).set (o + 1) d1)[o + j]? = [d0, d1][j]? := by
  match j, hj with
  | 0, _ => rw [List.getElem?_set_ne (by omega)]; exact List.getElem?_set_self (by omega)
  | 1, _ => rw [List.getElem?_set_self (by simp only [List.length_set]; omega)]; rfl
theorem stored2 {w : World} {B g n cap : Nat} {e : TypeId} {xs : List Value} (h : w.ownsRow B e 2 (.slice (some ⟨g, 0, none⟩) n cap) n xs) (o : Nat) (d0 d1 : Value) :
    ((w.setCell ⟨g, o, none⟩ d0).setCell ⟨g, o + 1, none⟩ d1).ownsRow B e 2 (.slice (some ⟨g, 0, none⟩) n cap) n ((xs.set o d0).set (o + 1) d1) ∧ w.grownBy ((w.setCell ⟨g, o, none⟩ d0).setCell ⟨g, o + 1, none⟩ d1) (some g) := by
  have s0 := h.stored o d0
  have s1 := s0.1.stored (o + 1) d1
  exact ⟨s1.1, grownBy_transR s0.2 (s1.2)⟩

theorem set3_other {xs : List Value} {d0 d1 d2 : Value} {m o : Nat} (h : m < o) : (((xs.set o d0).set (o + 1) d1).set (o + 2) d2)[m]? = xs[m]? := by
  rw [List.getElem?_set_ne (by omega), List.getElem?_set_ne (by omega), List.getElem?_set_ne (by omega)]
theorem set3_self {xs : List Value} {d0 d1 d2 : Value} {o : Nat} (h : o + 2 < xs.length) (j : Nat) (hj : j < 3) : (((xs.set o d0).set (o + 1) d1).set (o + 2) d2)[o + j]? = [d0, d1, d2][j]? := by
  match j, hj with
  | 0, _ => rw [List.getElem?_set_ne (by omega), List.getElem?_set_ne (by omega)]; exact List.getElem?_set_self (by omega)
  | 1, _ => rw [List.getElem?_set_ne (by omega), List.getElem?_set_self (by simp only [List.length_set]; omega)]; rfl
  | 2, _ => rw [List.getElem?_set_self (by simp only [List.length_set]; omega)]; rfl
theorem stored3 {w : World} {B g n cap : Nat} {e : TypeId} {xs : List Value} (h : w.ownsRow B e 3 (.slice (some ⟨g, 0, none⟩) n cap) n xs) (o : Nat) (d0 d1 d2 : Value) :
    (((w.setCell ⟨g, o, none⟩ d0).setCell ⟨g, o + 1, none⟩ d1).setCell ⟨g, o + 2, none⟩ d2).ownsRow B e 3 (.slice (some ⟨g, 0, none⟩) n cap) n (((xs.set o d0).set (o + 1) d1).set (o + 2) d2) ∧ w.grownBy (((w.setCell ⟨g, o, none⟩ d0).setCell ⟨g, o + 1, none⟩ d1).setCell ⟨g, o + 2, none⟩ d2) (some g) := by
  have s0 := h.stored o d0
  have s1 := s0.1.stored (o + 1) d1
  have s2 := s1.1.stored (o + 2) d2
  exact ⟨s2.1, grownBy_transR s0.2 (grownBy_transR s1.2 (s2.2))⟩

theorem set4_other {xs : List Value} {d0 d1 d2 d3 : Value} {m o : Nat} (h : m < o) : ((((xs.set o d0).set (o + 1) d1).set (o + 2) d2).set (o + 3) d3)[m]? = xs[m]? := by
  rw [List.getElem?_set_ne (by omega), List.getElem?_set_ne (by omega), List.getElem?_set_ne (by omega), List.getElem?_set_ne (by omega)]
theorem set4_self {xs : List Value} {d0 d1 d2 d3 : Value} {o : Nat} (h : o + 3 < xs.length) (j : Nat) (hj : j < 4) : ((((xs.set o d0).set (o + 1) d1).set (o + 2) d2).set (o + 3) d3)[o + j]? = [d0, d1, d2, d3][j]? := by
  match j, hj with
  | 0, _ => rw [List.getElem?_set_ne (by omega), List.getElem?_set_ne (by omega), List.getElem?_set_ne (by omega)]; exact List.getElem?_set_self (by omega)
  | 1, _ => rw [List.getElem?_set_ne (by omega), List.getElem?_set_ne (by omega), List.getElem?_set_self (by simp only [List.length_set]; omega)]; rfl
  | 2, _ => rw [List.getElem?_set_ne (by omega), List.getElem?_set_self (by simp only [List.length_set]; omega)]; rfl
  | 3, _ => rw [List.getElem?_set_self (by simp only [List.length_set]; omega)]; rfl
theorem stored4 {w : World} {B g n cap : Nat} {e : TypeId} {xs : List Value} (h : w.ownsRow B e 4 (.slice (some ⟨g, 0, none⟩) n cap) n xs) (o : Nat) (d0 d1 d2 d3 : Value) :
    ((((w.setCell ⟨g, o, none⟩ d0).setCell ⟨g, o + 1, none⟩ d1).setCell ⟨g, o + 2, none⟩ d2).setCell ⟨g, o + 3, none⟩ d3).ownsRow B e 4 (.slice (some ⟨g, 0, none⟩) n cap) n ((((xs.set o d0).set (o + 1) d1).set (o + 2) d2).set (o + 3) d3) ∧ w.grownBy ((((w.setCell ⟨g, o, none⟩ d0).setCell ⟨g, o + 1, none⟩ d1).setCell ⟨g, o + 2, none⟩ d2).setCell ⟨g, o + 3, none⟩ d3) (some g) := by
  have s0 := h.stored o d0
  have s1 := s0.1.stored (o + 1) d1
  have s2 := s1.1.stored (o + 2) d2
  have s3 := s2.1.stored (o + 3) d3
  exact ⟨s3.1, grownBy_transR s0.2 (grownBy_transR s1.2 (grownBy_transR s2.2 (s3.2)))⟩

theorem set5_other {xs : List Value} {d0 d1 d2 d3 d4 : Value} {m o : Nat} (h : m < o) : (((((xs.set o d0).set (o + 1) d1).set (o + 2) d2).set (o + 3) d3).set (o + 4) d4)[m]? = xs[m]? := by
  rw [List.getElem?_set_ne (by omega), List.getElem?_set_ne (by omega), List.getElem?_set_ne (by omega), List.getElem?_set_ne (by omega), List.getElem?_set_ne (by omega)]
theorem set5_self {xs : List Value} {d0 d1 d2 d3 d4 : Value} {o : Nat} (h : o + 4 < xs.length) (j : Nat) (hj : j < 5) : (((((xs.set o d0).set (o + 1) d1).set (o + 2) d2).set (o + 3) d3).set (o + 4) d4)[o + j]? = [d0, d1, d2, d3, d4][j]? := by
  match j, hj with
  | 0, _ => rw [List.getElem?_set_ne (by omega), List.getElem?_set_ne (by omega), List.getElem?_set_ne (by omega), List.getElem?_set_ne (by omega)]; exact List.getElem?_set_self (by omega)
  | 1, _ => rw [List.getElem?_set_ne (by omega), List.getElem?_set_ne (by omega), List.getElem?_set_ne (by omega), List.getElem?_set_self (by simp only [List.length_set]; omega)]; rfl
  | 2, _ => rw [List.getElem?_set_ne (by omega), List.getElem?_set_ne (by omega), List.getElem?_set_self (by simp only [List.length_set]; omega)]; rfl
  | 3, _ => rw [List.getElem?_set_ne (by omega), List.getElem?_set_self (by simp only [List.length_set]; omega)]; rfl
  | 4, _ => rw [List.getElem?_set_self (by simp only [List.length_set]; omega)]; rfl
theorem stored5 {w : World} {B g n cap : Nat} {e : TypeId} {xs : List Value} (h : w.ownsRow B e 5 (.slice (some ⟨g, 0, none⟩) n cap) n xs) (o : Nat) (d0 d1 d2 d3 d4 : Value) :
    (((((w.setCell ⟨g, o, none⟩ d0).setCell ⟨g, o + 1, none⟩ d1).setCell ⟨g, o + 2, none⟩ d2).setCell ⟨g, o + 3, none⟩ d3).setCell ⟨g, o + 4, none⟩ d4).ownsRow B e 5 (.slice (some ⟨g, 0, none⟩) n cap) n (((((xs.set o d0).set (o + 1) d1).set (o + 2) d2).set (o + 3) d3).set (o + 4) d4) ∧ w.grownBy (((((w.setCell ⟨g, o, none⟩ d0).setCell ⟨g, o + 1, none⟩ d1).setCell ⟨g, o + 2, none⟩ d2).setCell ⟨g, o + 3, none⟩ d3).setCell ⟨g, o + 4, none⟩ d4) (some g) := by
  have s0 := h.stored o d0
  have s1 := s0.1.stored (o + 1) d1
  have s2 := s1.1.stored (o + 2) d2
  have s3 := s2.1.stored (o + 3) d3
  have s4 := s3.1.stored (o + 4) d4
  exact ⟨s4.1, grownBy_transR s0.2 (grownBy_transR s1.2 (grownBy_transR s2.2 (grownBy_transR s3.2 (s4.2))))⟩

theorem set6_other {xs : List Value} {d0 d1 d2 d3 d4 d5 : Value} {m o : Nat} (h : m < o) : ((((((xs.set o d0).set (o + 1) d1).set (o + 2) d2).set (o + 3) d3).set (o + 4) d4).set (o + 5) d5)[m]? = xs[m]? := by
  rw [List.getElem?_set_ne (by omega), List.getElem?_set_ne (by omega), List.getElem?_set_ne (by omega), List.getElem?_set_ne (by omega), List.getElem?_set_ne (by omega), List.getElem?_set_ne (by omega)]
theorem set6_self {xs : List Value} {d0 d1 d2 d3 d4 d5 : Value} {o : Nat} (h : o + 5 < xs.length) (j : Nat) (hj : j < 6) : ((((((xs.set o d0).set (o + 1) d1).set (o + 2) d2).set (o + 3) d3).set (o + 4) d4).set (o + 5) d5)[o + j]? = [d0, d1, d2, d3, d4, d5][j]? := by
  match j, hj with
  | 0, _ => rw [List.getElem?_set_ne (by omega), List.getElem?_set_ne (by omega), List.getElem?_set_ne (by omega), List.getElem?_set_ne (by omega), List.getElem?_set_ne (by omega)]; exact List.getElem?_set_self (by omega)
  | 1, _ => rw [List.getElem?_set_ne (by omega), List.getElem?_set_ne (by omega), List.getElem?_set_ne (by omega), List.getElem?_set_ne (by omega), List.getElem?_set_self (by simp only [List.length_set]; omega)]; rfl
  | 2, _ => rw [List.getElem?_set_ne (by omega), List.getElem?_set_ne (by omega), List.getElem?_set_ne (by omega), List.getElem?_set_self (by simp only [List.length_set]; omega)]; rfl
  | 3, _ => rw [List.getElem?_set_ne (by omega), List.getElem?_set_ne (by omega), List.getElem?_set_self (by simp only [List.length_set]; omega)]; rfl
  | 4, _ => rw [List.getElem?_set_ne (by omega), List.getElem?_set_self (by simp only [List.length_set]; omega)]; rfl
  | 5, _ => rw [List.getElem?_set_self (by simp only [List.length_set]; omega)]; rfl
theorem stored6 {w : World} {B g n cap : Nat} {e : TypeId} {xs : List Value} (h : w.ownsRow B e 6 (.slice (some ⟨g, 0, none⟩) n cap) n xs) (o : Nat) (d0 d1 d2 d3 d4 d5 : Value) :
    ((((((w.setCell ⟨g, o, none⟩ d0).setCell ⟨g, o + 1, none⟩ d1).setCell ⟨g, o + 2, none⟩ d2).setCell ⟨g, o + 3, none⟩ d3).setCell ⟨g, o + 4, none⟩ d4).setCell ⟨g, o + 5, none⟩ d5).ownsRow B e 6 (.slice (some ⟨g, 0, none⟩) n cap) n ((((((xs.set o d0).set (o + 1) d1).set (o + 2) d2).set (o + 3) d3).set (o + 4) d4).set (o + 5) d5) ∧ w.grownBy ((((((w.setCell ⟨g, o, none⟩ d0).setCell ⟨g, o + 1, none⟩ d1).setCell ⟨g, o + 2, none⟩ d2).setCell ⟨g, o + 3, none⟩ d3).setCell ⟨g, o + 4, none⟩ d4).setCell ⟨g, o + 5, none⟩ d5) (some g) := by
  have s0 := h.stored o d0
  have s1 := s0.1.stored (o + 1) d1
  have s2 := s1.1.stored (o + 2) d2
  have s3 := s2.1.stored (o + 3) d3
  have s4 := s3.1.stored (o + 4) d4
  have s5 := s4.1.stored (o + 5) d5
  exact ⟨s5.1, grownBy_transR s0.2 (grownBy_transR s1.2 (grownBy_transR s2.2 (grownBy_transR s3.2 (grownBy_transR s4.2 (s5.2)))))⟩

/-- Whether two trees are one. -/
noncomputable def sameB {α : Type} (x y : α) : Bool := @decide (x = y) (Classical.propDecidable _)
theorem sameB_true {α : Type} {x y : α} (h : x = y) : sameB x y = true := by exact @decide_eq_true _ (Classical.propDecidable _) h
theorem sameB_false {α : Type} {x y : α} (h : x ≠ y) : sameB x y = false := by exact @decide_eq_false _ (Classical.propDecidable _) h

theorem str_ne {a b : ByteArray} (h : ¬ a = b) : ¬ a.toList = b.toList := fun e => h (bytes_inj (by rw [← ByteArray.toList_eq, ← ByteArray.toList_eq, e]))
theorem str_neB {a b : ByteArray} (h : ¬ a = b) : (a.toList == b.toList) = false := by simpa using str_ne h

/-- A function of two values tells whether their trees are one, and makes memory alone. -/
def CmpC {α : Type} (F : FuncId) (H : World → Value → α → Prop) : Prop :=
  ∀ (w : World) (v1 v2 : Value) (x y : α), H w v1 x → H w v2 y → Calls Tryz.prog F #[v1, v2] w fun e w' => e = .returned (.bool (sameB x y)) ∧ Below w.heap.size w w'

theorem take_succ_same {α : Type} {xs ys : List α} {k : Nat} {x : α} (h : xs.take k = ys.take k) (hx : xs[k]? = some x) (hy : ys[k]? = some x) : xs.take (k + 1) = ys.take (k + 1) := by
  rw [List.take_add_one, List.take_add_one, h, hx, hy]
theorem take_all_same {α : Type} {xs ys : List α} {k : Nat} (h : xs.take k = ys.take k) (hx : xs.length ≤ k) (hy : ys.length ≤ k) : xs = ys := by
  rwa [List.take_of_length_le hx, List.take_of_length_le hy] at h
theorem ne_at {α : Type} {xs ys : List α} {k : Nat} {x y : α} (hx : xs[k]? = some x) (hy : ys[k]? = some y) (h : x ≠ y) : xs ≠ ys := by
  intro e; rw [e, hy] at hx; exact h (Option.some.inj hx).symm

theorem Blk.lt {w : World} {b : Nat} {cs : Array Value} {t : TypeId} (h : Blk w b cs t) : b < w.heap.size := by
  unfold Blk at h; exact (Array.getElem?_eq_some_iff.1 h).1
theorem Blk.next {w w' : World} {b : Nat} {cs : Array Value} {t : TypeId} (h : Blk w b cs t) (hb : Below w.heap.size w w') : Blk w' b cs t := h.below hb h.lt
theorem cell_next {w w' : World} {a : Addr} {v : Value} (hb : Below w.heap.size w w') (h : w.cell? a = some v) : w'.cell? a = some v := by
  refine (hb.cell (p := a) ?_).trans h
  unfold World.cell? at h
  split at h
  · rename_i heq; exact (Array.getElem?_eq_some_iff.1 heq).1
  · cases h

theorem agg_of_cells {v : Value} {cs : List Value} (h : v.cells.toList = cs) (hl : cs.length ≠ 1) : v = .agg cs.toArray := by
  subst h
  cases v <;> first | (exfalso; exact hl rfl) | rfl
theorem Blk.same_on {w w' : World} {b : Nat} {cs : Array Value} {t : TypeId} (h : Blk w b cs t) (hs : SameOn All w w') : Blk w' b cs t :=
  (hs.2 b trivial (by unfold Blk at h; exact (Array.getElem?_eq_some_iff.1 h).1)).trans h

end Go.Proofs.YtpkhblhcdnohmaaGreatDoor
/-
  How great a module is: weights.
-/
namespace Go.Proofs.YtpkhblhcdnohmaaGreatDoor
open Go.ChangeShapes Go.WideShapes Go.ChangeAt Go.RowKit
set_option linter.unusedVariables false

def wtCl (f : Ex → Nat) (c : Cl) : Nat := wtS f c.1 + wtS f c.2
def wtEx : Nat → Ex → Nat
  | 0, _ => 0
  | d + 1, e => e.text.size + e.mod.size + wtS (wtEx d) e.kids + wtS (wtCl (wtEx d)) e.clauses
def wtRf (r : Rf) : Nat := r.name.size
def wtFn (d : Nat) (f : Fn') : Nat := f.name.size + wtS (wtCl (wtEx d)) f.clauses
def wtMd (d : Nat) (m : Md) : Nat := m.name.size + wtS wtRf m.exports + wtS (wtFn d) m.funs
end Go.Proofs.YtpkhblhcdnohmaaGreatDoor
/-
  Trees that own their memory: each row lies in a block of its own, and no two blocks are one. What is written into such a tree turns nothing else, and is there afterwards.
-/
namespace Go.Proofs.YtpkhblhcdnohmaaGreatDoor
open Go.ChangeShapes Go.WideShapes Go.ChangeAt Go.RowKit
set_option linter.unusedVariables false

/-- Whatever lies in blocks of fp lies in w' as it does in w. -/
def KeepOn (fp : List Nat) (w w' : World) : Prop := ∀ a ∈ fp, w'.heap[a]? = w.heap[a]?

theorem KeepOn.sub {fp fp' : List Nat} {w w' : World} (h : KeepOn fp w w') (hs : ∀ a ∈ fp', a ∈ fp) : KeepOn fp' w w' := fun a ha => h a (hs a ha)
theorem KeepOn.below {fp : List Nat} {w w' : World} {N : Nat} (h : Below N w w') (hs : ∀ a ∈ fp, a < N) : KeepOn fp w w' := fun a ha => h.block a (hs a ha)

/-- Nothing has turned but what lies in blocks of fp; memory may have grown. -/
structure Off (fp : List Nat) (w w' : World) : Prop where
  os : w'.os = w.os
  tape : w'.tape = w.tape
  output : w'.output = w.output
  size : w.heap.size ≤ w'.heap.size
  block : ∀ a, a < w.heap.size → a ∉ fp → w'.heap[a]? = w.heap[a]?

theorem Off.refl (fp : List Nat) (w : World) : Off fp w w := ⟨rfl, rfl, rfl, Nat.le_refl _, fun _ _ _ => rfl⟩
theorem Off.trans {fp : List Nat} {a b c : World} (h : Off fp a b) (k : Off fp b c) : Off fp a c :=
  ⟨k.os.trans h.os, k.tape.trans h.tape, k.output.trans h.output, Nat.le_trans h.size k.size, fun g hg hf => (k.block g (Nat.lt_of_lt_of_le hg h.size) hf).trans (h.block g hg hf)⟩
theorem Off.sub {fp fp' : List Nat} {a b : World} (h : Off fp a b) (hs : ∀ g ∈ fp, g ∈ fp') : Off fp' a b :=
  ⟨h.os, h.tape, h.output, h.size, fun g hg hf => h.block g hg (fun hm => hf (hs g hm))⟩
theorem Off.of_below {fp : List Nat} {a b : World} (h : Below a.heap.size a b) : Off fp a b := ⟨h.os, h.tape, h.output, h.size, fun g hg _ => h.block g hg⟩
theorem Off.of_grown {fp : List Nat} {a b : World} {g : Nat} (h : a.grownBy b (some g)) (hg : g ∈ fp) : Off fp a b :=
  ⟨h.os, h.tape, h.output, h.size, fun j hj hf => h.block j hj (by simp; intro e; exact hf (e ▸ hg))⟩
theorem Off.below {fp : List Nat} {a b : World} {N : Nat} (h : Off fp a b) (hs : ∀ g ∈ fp, N ≤ g) (hN : N ≤ a.heap.size) : Below N a b :=
  ⟨h.os, h.tape, h.output, h.size, fun j hj => h.block j (Nat.lt_of_lt_of_le hj hN) (fun hm => by have := hs j hm; omega)⟩
theorem Off.keep {fp f : List Nat} {a b : World} (h : Off fp a b) (hs : ∀ g ∈ f, g < a.heap.size ∧ g ∉ fp) : KeepOn f a b := fun g hg => h.block g (hs g hg).1 (hs g hg).2

/-- v is a slice in a block of its own; its elements, of c cells each, are R's xs; fp: all blocks. -/
def ORows {α : Type} (w : World) (e : TypeId) (c : Nat) (R : List Value → α → List Nat → Prop) (v : Value) (xs : List α) (fp : List Nat) : Prop :=
  (xs = [] ∧ fp = [] ∧ ∃ p cap, v = .slice p 0 cap ∧ cap ≤ maxLen) ∨
    (xs ≠ [] ∧ ∃ (cells : List Value) (g cap : Nat) (fps : List (List Nat)), w.ownsRow 0 e c v xs.length cells ∧ v = .slice (some ⟨g, 0, none⟩) xs.length cap ∧ fps.length = xs.length ∧ fp = g :: fps.flatten ∧
      ∀ (i : Nat) x f, xs[i]? = some x → fps[i]? = some f → ∃ cs : List Value, cs.length = c ∧ (∀ j, j < c → cells[i * c + j]? = cs[j]?) ∧ R cs x f)

theorem owns_block {w w' : World} {e : TypeId} {c g n cap : Nat} {v : Value} {cells : List Value} (h : w.ownsRow 0 e c v n cells) (hv : v = .slice (some ⟨g, 0, none⟩) n cap) (hk : w'.heap[g]? = w.heap[g]?) : w'.ownsRow 0 e c v n cells := by
  refine ⟨h.1, ?_⟩
  rcases h.2 with hn | ⟨g', cap', cur, hv', hb, hg, hr⟩
  · exact .inl hn
  · have : g' = g := by rw [hv] at hv'; simp at hv'; exact hv'.1.symm
    subst this
    exact .inr ⟨g', cap', cur, hv', hb, hk.trans hg, hr⟩
theorem owns_lt {w : World} {e : TypeId} {c g n cap : Nat} {v : Value} {cells : List Value} (h : w.ownsRow 0 e c v n cells) (hv : v = .slice (some ⟨g, 0, none⟩) n cap) : g < w.heap.size := by
  rcases h.2 with hn | ⟨g', cap', cur, hv', hb, hg, hr⟩
  · rw [hn.1] at hv; cases hv
  · have : g' = g := by rw [hv] at hv'; simp at hv'; exact hv'.1.symm
    subst this
    exact (Array.getElem?_eq_some_iff.1 hg).1
theorem ORows.shape {α : Type} {w : World} {e : TypeId} {c : Nat} {R : List Value → α → List Nat → Prop} {v : Value} {xs : List α} {fp : List Nat} (h : ORows w e c R v xs fp) : ∃ p cap, v = .slice p xs.length cap ∧ xs.length ≤ cap ∧ cap ≤ maxLen := by
  rcases h with ⟨rfl, _, p, cap, hv, hc⟩ | ⟨_, cells, g, cap, fps, ho, hv, _⟩
  · exact ⟨p, cap, hv, Nat.zero_le _, hc⟩
  · rcases ho.2 with hn | ⟨g', cap', cur, hv', hb, hg, hr⟩
    · rw [hn.1] at hv; cases hv
    · exact ⟨_, _, hv', hr.1, hr.2.1⟩

theorem ORows.rows {α : Type} {w : World} {e : TypeId} {c : Nat} {R : List Value → α → List Nat → Prop} {R' : List Value → α → Prop} {S : Nat → Prop} {v : Value} {xs : List α} {fp : List Nat} (h : ORows w e c R v xs fp) (hS : ∀ a ∈ fp, S a)
    (hR : ∀ cs x f, x ∈ xs → (∀ a ∈ f, a ∈ fp) → R cs x f → R' cs x) : Rows w S c R' v xs := by
  obtain ⟨p, cap, hv, h1, h2⟩ := h.shape
  refine ⟨p, cap, hv, h1, h2, fun hne => ?_⟩
  rcases h with h | ⟨_, cells, g, cap', fps, ho, hv', hl, rfl, hat⟩
  · exact absurd h.1 hne
  have hp : p = some ⟨g, 0, none⟩ := by rw [hv] at hv'; simp at hv'; exact hv'.1
  refine ⟨g, 0, hp, hS g (by simp), owns_lt ho hv', fun i x hi => ?_⟩
  have hil : i < xs.length := (List.getElem?_eq_some_iff.1 hi).1
  obtain ⟨f, hf⟩ : ∃ f, fps[i]? = some f := ⟨fps[i]'(by rw [hl]; exact hil), List.getElem?_eq_getElem _⟩
  obtain ⟨cs, hcl, hcs, hr⟩ := hat i x f hi hf
  refine ⟨cs, hcl, fun j hj => ?_, hR cs x f (List.mem_of_getElem? hi) (fun a ha => ?_) hr⟩
  · rw [← hcs j hj, Nat.zero_add]
    rw [hv'] at ho
    refine ho.cellAt (i * c + j) ?_
    have : i * c + c ≤ xs.length * c := by rw [← Nat.succ_mul]; exact Nat.mul_le_mul_right c hil
    omega
  · exact List.mem_cons_of_mem _ (List.mem_flatten.2 ⟨f, List.mem_of_getElem? hf, ha⟩)

theorem ORows.keep {α : Type} {w w' : World} {e : TypeId} {c : Nat} {R R' : List Value → α → List Nat → Prop} {v : Value} {xs : List α} {fp : List Nat} (h : ORows w e c R v xs fp) (hk : KeepOn fp w w')
    (hR : ∀ cs x f, x ∈ xs → (∀ a ∈ f, a ∈ fp) → R cs x f → R' cs x f) : ORows w' e c R' v xs fp := by
  rcases h with h | ⟨hne, cells, g, cap', fps, ho, hv', hl, rfl, hat⟩
  · exact .inl h
  refine .inr ⟨hne, cells, g, cap', fps, owns_block ho hv' (hk g (by simp)), hv', hl, rfl, fun i x f hi hf => ?_⟩
  obtain ⟨cs, hcl, hcs, hr⟩ := hat i x f hi hf
  exact ⟨cs, hcl, hcs, hR cs x f (List.mem_of_getElem? hi) (fun a ha => List.mem_cons_of_mem _ (List.mem_flatten.2 ⟨f, List.mem_of_getElem? hf, ha⟩)) hr⟩

theorem ORows.lt {α : Type} {w : World} {e : TypeId} {c : Nat} {R : List Value → α → List Nat → Prop} {v : Value} {xs : List α} {fp : List Nat} (h : ORows w e c R v xs fp) (hR : ∀ cs x f, R cs x f → ∀ a ∈ f, a < w.heap.size) : ∀ a ∈ fp, a < w.heap.size := by
  rcases h with ⟨_, rfl, _⟩ | ⟨hne, cells, g, cap', fps, ho, hv', hl, rfl, hat⟩
  · intro a ha; simp at ha
  · intro a ha
    rcases List.mem_cons.1 ha with rfl | ha
    · exact owns_lt ho hv'
    · obtain ⟨f, hf, ha⟩ := List.mem_flatten.1 ha
      obtain ⟨i, hi, rfl⟩ := List.mem_iff_getElem.1 hf
      obtain ⟨cs, _, _, hr⟩ := hat i (xs[i]'(by rw [← hl]; exact hi)) _ (List.getElem?_eq_getElem _) (List.getElem?_eq_getElem hi)
      exact hR _ _ _ hr a ha

/-- One element of a row is turned, its part of the blocks with it. -/
theorem ORows.set {α : Type} {w' : World} {e : TypeId} {c : Nat} {R R' : List Value → α → List Nat → Prop} {v : Value} {xs : List α} {cells cells' : List Value} {g cap : Nat} {fps : List (List Nat)} {i : Nat} {x' : α} {f : List Nat}
    (hne : xs ≠ []) (ho : w'.ownsRow 0 e c v xs.length cells') (hv : v = .slice (some ⟨g, 0, none⟩) xs.length cap) (hl : fps.length = xs.length)
    (hat : ∀ (i : Nat) x f, xs[i]? = some x → fps[i]? = some f → ∃ cs : List Value, cs.length = c ∧ (∀ j, j < c → cells[i * c + j]? = cs[j]?) ∧ R cs x f) (hf : fps[i]? = some f)
    (hother : ∀ m, (m < i * c ∨ i * c + c ≤ m) → cells'[m]? = cells[m]?) (cs' : List Value) (hcl : cs'.length = c) (hcs : ∀ j, j < c → cells'[i * c + j]? = cs'[j]?) (hr : R' cs' x' f)
    (hk : ∀ (j : Nat) y f' cs, j ≠ i → fps[j]? = some f' → R cs y f' → R' cs y f') : ORows w' e c R' v (xs.set i x') (g :: fps.flatten) := by
  refine .inr ⟨fun h => hne (by cases xs with | nil => rfl | cons a l => cases i <;> simp at h), cells', g, cap, fps, by rw [List.length_set]; exact ho, by rw [List.length_set]; exact hv, by rw [List.length_set]; exact hl, rfl, fun j y f' hj hf' => ?_⟩
  by_cases hji : j = i
  · subst hji
    have hjl : j < xs.length := by rw [← hl]; exact (List.getElem?_eq_some_iff.1 hf).1
    rw [List.getElem?_set_self hjl] at hj
    obtain rfl := Option.some.inj hj
    obtain rfl := Option.some.inj (hf.symm.trans hf')
    exact ⟨cs', hcl, hcs, hr⟩
  · rw [List.getElem?_set_ne (fun h => hji h.symm)] at hj
    obtain ⟨cs, h1, h2, h3⟩ := hat j y f' hj hf'
    refine ⟨cs, h1, fun q hq => ?_, hk j y f' cs hji hf' h3⟩
    rw [hother _ ?_]
    · exact h2 q hq
    · rcases Nat.lt_or_gt_of_ne hji with h | h
      · left; have : j * c + c ≤ i * c := by rw [← Nat.succ_mul]; exact Nat.mul_le_mul_right c h
        omega
      · right; have : i * c + c ≤ j * c := by rw [← Nat.succ_mul]; exact Nat.mul_le_mul_right c h
        omega

/-- The parts of a list of blocks without a repetition. -/
theorem nodup_parts {g : Nat} {fps : List (List Nat)} (h : (g :: fps.flatten).Nodup) :
    (∀ f ∈ fps, g ∉ f ∧ f.Nodup) ∧ ∀ (i j : Nat) f f', i ≠ j → fps[i]? = some f → fps[j]? = some f' → ∀ a ∈ f, a ∉ f' := by
  rw [List.nodup_cons] at h
  obtain ⟨hg, hp⟩ := h
  obtain ⟨h1, h2⟩ := List.pairwise_flatten.1 hp
  refine ⟨fun f hf => ⟨fun hm => hg (List.mem_flatten.2 ⟨f, hf, hm⟩), h1 f hf⟩, fun i j f f' hij hi hj a ha ha' => ?_⟩
  rw [List.pairwise_iff_getElem] at h2
  obtain ⟨hi1, rfl⟩ := List.getElem?_eq_some_iff.1 hi
  obtain ⟨hj1, rfl⟩ := List.getElem?_eq_some_iff.1 hj
  rcases Nat.lt_or_gt_of_ne hij with hlt | hlt
  · exact h2 i j hi1 hj1 hlt a ha a ha' rfl
  · exact h2 j i hj1 hi1 hlt a ha' a ha rfl

/-- A list whose first i are those of ys, the rest of xs. -/
def mix {α : Type} (i : Nat) (ys xs : List α) : List α := ys.take i ++ xs.drop i
theorem mix_zero {α : Type} (ys xs : List α) : mix 0 ys xs = xs := by simp [mix]
theorem mix_all {α : Type} {ys xs : List α} {i : Nat} (hl : ys.length = xs.length) (h : xs.length ≤ i) : mix i ys xs = ys := by
  unfold mix; rw [List.take_of_length_le (by omega), List.drop_of_length_le h, List.append_nil]
theorem mix_length {α : Type} {ys xs : List α} {i : Nat} (hl : ys.length = xs.length) : (mix i ys xs).length = xs.length := by
  unfold mix; rw [List.length_append, List.length_take, List.length_drop]; omega
theorem mix_at {α : Type} {ys xs : List α} {i : Nat} (hl : ys.length = xs.length) (hi : i < xs.length) : (mix i ys xs)[i]? = xs[i]? := by
  unfold mix
  rw [List.getElem?_append_right (by rw [List.length_take]; omega), List.length_take, List.getElem?_drop]
  congr 1; omega
theorem mix_succ {α : Type} {ys xs : List α} {i : Nat} {y : α} (hl : ys.length = xs.length) (hy : ys[i]? = some y) : (mix i ys xs).set i y = mix (i + 1) ys xs := by
  have hi : i < ys.length := (List.getElem?_eq_some_iff.1 hy).1
  unfold mix
  rw [List.set_append_right (h := by rw [List.length_take]; omega), List.length_take, Nat.min_eq_left (by omega), Nat.sub_self, List.take_add_one, hy, List.append_assoc]
  congr 1
  rw [List.drop_eq_getElem_cons (i := i) (l := xs) (by omega)]
  rfl

/-- Element by element, with a count that goes on. -/
def markL {α : Type} (f : Nat → α → α) (c : α → Nat) : Nat → List α → List α
  | _, [] => []
  | k, x :: xs => f k x :: markL f c (k + c x) xs
theorem markL_length {α : Type} (f : Nat → α → α) (c : α → Nat) : ∀ (k : Nat) (xs : List α), (markL f c k xs).length = xs.length
  | _, [] => rfl
  | k, x :: xs => by simp [markL, markL_length f c (k + c x) xs]
theorem markL_at {α : Type} (f : Nat → α → α) (c : α → Nat) : ∀ (k : Nat) (xs : List α) (i : Nat) (x : α), xs[i]? = some x → (markL f c k xs)[i]? = some (f (k + ((xs.take i).map c).sum) x)
  | _, [], i, x, h => by simp at h
  | k, y :: xs, 0, x, h => by simp at h; subst h; simp [markL]
  | k, y :: xs, i + 1, x, h => by
    simp at h
    simp only [markL, List.getElem?_cons_succ, markL_at f c (k + c y) xs i x h, List.take_succ_cons, List.map_cons, List.sum_cons, Nat.add_assoc]

/-- A row of n elements that is being made in block G: its first k are those of es. -/
structure Made {α : Type} (w wr : World) (G n : Nat) (e : TypeId) (c : Nat) (O : World → List Value → α → List Nat → Prop) (es : List α) (k : Nat) (xs : List Value) (fps : List (List Nat)) : Prop where
  own : wr.ownsRow G e c (.slice (some ⟨G, 0, none⟩) n n) n xs
  len : fps.length = k
  nd : fps.flatten.Nodup
  rng : ∀ a ∈ fps.flatten, G < a ∧ a < wr.heap.size
  el : ∀ (i : Nat) x f, es[i]? = some x → fps[i]? = some f → ∃ cs : List Value, cs.length = c ∧ (∀ j, j < c → xs[i * c + j]? = cs[j]?) ∧ O wr cs x f
  below : Below G w wr
  sz : G + 1 ≤ wr.heap.size

variable {α : Type} {w wr : World} {G n c k : Nat} {e : TypeId} {O : World → List Value → α → List Nat → Prop} {es : List α} {xs : List Value} {fps : List (List Nat)}

theorem Made.start {M : Array Value} (hM : M.size = n * c) (hn : n ≤ maxLen) : Made w (w.alloc (.cells M e)) w.heap.size n e c O es 0 M.toList [] :=
  ⟨World.ownsRow_lit w M n (Nat.le_refl _) hn hM, rfl, by simp, fun a ha => by simp at ha, fun i x f _ hf => by simp at hf, (Below.refl _ _).alloc (Nat.le_refl _) _, by rw [alloc_hs]; exact Nat.le_refl _⟩

theorem Made.step (hO : ∀ w w' cs x f, O w cs x f → KeepOn f w w' → O w' cs x f) (h : Made w wr G n e c O es k xs fps) {w1 w2 : World} {x : α} {cs xs' : List Value} {f : List Nat} (hx : es[k]? = some x) (hb : Below wr.heap.size wr w1) (ho : O w1 cs x f)
    (hnd : f.Nodup) (hf : ∀ a ∈ f, wr.heap.size ≤ a ∧ a < w1.heap.size) (hcl : cs.length = c) (hown : w2.ownsRow G e c (.slice (some ⟨G, 0, none⟩) n n) n xs') (hgr : w1.grownBy w2 (some G))
    (hlow : ∀ m, m < k * c → xs'[m]? = xs[m]?) (hself : ∀ j, j < c → xs'[k * c + j]? = cs[j]?) : Made w w2 G n e c O es (k + 1) xs' (fps ++ [f]) := by
  have h1 := h.sz
  have h2 := hb.size
  have h3 := hgr.size
  refine ⟨hown, by rw [List.length_append, h.len]; rfl, ?_, ?_, ?_, ?_, by omega⟩
  · rw [List.flatten_append, List.nodup_append]
    refine ⟨h.nd, by simpa using hnd, fun a ha b hb' => ?_⟩
    have := (h.rng a ha).2
    have := (hf b (by simpa using hb')).1
    omega
  · intro a ha
    rw [List.flatten_append, List.mem_append] at ha
    rcases ha with ha | ha
    · have := h.rng a ha; omega
    · have := hf a (by simpa using ha); omega
  · intro i y f' hy hf'
    by_cases hik : i < k
    · rw [List.getElem?_append_left (by rw [h.len]; exact hik)] at hf'
      obtain ⟨cs', g1, g2, g3⟩ := h.el i y f' hy hf'
      refine ⟨cs', g1, fun j hj => ?_, hO _ _ _ _ _ g3 (fun a ha => ?_)⟩
      · rw [hlow]
        · exact g2 j hj
        · have : i * c + c ≤ k * c := by rw [← Nat.succ_mul]; exact Nat.mul_le_mul_right c hik
          omega
      · have hr := h.rng a (List.mem_flatten.2 ⟨f', List.mem_of_getElem? hf', ha⟩)
        exact (hgr.block a (by omega) (by simp; omega)).trans (hb.block a hr.2)
    · have hil : i < k + 1 := by
        have := (List.getElem?_eq_some_iff.1 hf').1
        rw [List.length_append, h.len] at this; simpa using this
      obtain rfl : i = k := by omega
      obtain rfl : x = y := Option.some.inj (hx.symm.trans hy)
      rw [List.getElem?_append_right (by rw [h.len]; exact Nat.le_refl _), h.len, Nat.sub_self] at hf'
      simp at hf'
      subst hf'
      exact ⟨cs, hcl, hself, hO _ _ _ _ _ ho (fun a ha => by have := hf a ha; exact hgr.block a (by omega) (by simp; omega))⟩
  · exact h.below.trans ((hb.mono (by omega)).trans ⟨hgr.os, hgr.tape, hgr.output, hgr.size, fun j hj => hgr.block j (by omega) (by simp; omega)⟩)

theorem Made.done (h : Made w wr G n e c O es n xs fps) (hn : es.length = n) (hm : n ≤ maxLen) : ∃ fp, ORows wr e c (O wr) (.slice (some ⟨G, 0, none⟩) n n) es fp ∧ fp.Nodup ∧ ∀ a ∈ fp, G ≤ a ∧ a < wr.heap.size := by
  by_cases hne : es = []
  · subst hne
    exact ⟨[], .inl ⟨rfl, rfl, _, _, by rw [← hn]; rfl, hm⟩, by simp, fun a ha => by simp at ha⟩
  · refine ⟨G :: fps.flatten, .inr ⟨hne, xs, G, n, fps, ?_, by rw [hn], by rw [h.len, hn], rfl, h.el⟩, ?_, ?_⟩
    · rw [hn]
      obtain ⟨h1, h2⟩ := h.own
      refine ⟨h1, h2.imp id ?_⟩
      rintro ⟨g, cap, cur, a1, a2, a3⟩
      exact ⟨g, cap, cur, a1, Nat.zero_le _, a3⟩
    · rw [List.nodup_cons]
      exact ⟨fun hm => by have := (h.rng G hm).1; omega, h.nd⟩
    · intro a ha
      have := h.sz
      rcases List.mem_cons.1 ha with rfl | ha
      · omega
      · have := h.rng a ha; omega

/-- A function that makes a copy, of what is not too great, in new memory that the copy owns. -/
def ToO {α : Type} (F : FuncId) (H : World → Value → α → Prop) (O : World → Value → α → List Nat → Prop) (wt : α → Nat) : Prop :=
  ∀ (w : World) (v : Value) (x : α), H w v x → wt x ≤ 1048576 → Calls Tryz.prog F #[v] w fun e w' => ∃ u fp, e = .returned u ∧ O w' u x fp ∧ fp.Nodup ∧ (∀ a ∈ fp, w.heap.size ≤ a ∧ a < w'.heap.size) ∧ Below w.heap.size w w'
end Go.Proofs.YtpkhblhcdnohmaaGreatDoor
/-
  Expressions and clauses that own their memory.
-/
namespace Go.Proofs.YtpkhblhcdnohmaaGreatDoor
open Go.ChangeShapes Go.WideShapes Go.ChangeAt Go.RowKit
set_option linter.unusedVariables false

/-- Two cells that are a clause which owns its memory. -/
def OCl (w : World) (O : List Value → Ex → List Nat → Prop) (cs : List Value) (c : Cl) (fp : List Nat) : Prop :=
  ∃ pv bv f1 f2, cs = [pv, bv] ∧ fp = f1 ++ f2 ∧ ORows w 73 6 O pv c.1 f1 ∧ ORows w 73 6 O bv c.2 f2
/-- Six cells that are an expression which owns its memory. -/
def OEx (w : World) : Nat → List Value → Ex → List Nat → Prop
  | 0, _, _, _ => False
  | d + 1, cs, e, fp => ∃ kv cv f1 f2, cs = [.int .i64 e.kind, .int .i64 e.n, .string e.text, .string e.mod, kv, cv] ∧ fp = f1 ++ f2 ∧ okI e.kind ∧ okI e.n ∧ okS e.text ∧ okS e.mod ∧
      ORows w 73 6 (OEx w d) kv e.kids f1 ∧ ORows w 48 2 (OCl w (OEx w d)) cv e.clauses f2
abbrev OCls (w : World) (d : Nat) : List Value → Cl → List Nat → Prop := OCl w (OEx w d)

theorem OCl.keep' {w w' : World} {O O' : List Value → Ex → List Nat → Prop} {cs : List Value} {c : Cl} {fp : List Nat} (h : OCl w O cs c fp) (hk : KeepOn fp w w') (hO : ∀ cs x f, (∀ a ∈ f, a ∈ fp) → O cs x f → O' cs x f) : OCl w' O' cs c fp := by
  obtain ⟨pv, bv, f1, f2, rfl, rfl, h1, h2⟩ := h
  refine ⟨pv, bv, f1, f2, rfl, rfl, h1.keep (hk.sub (fun a ha => by simp [ha])) (fun cs x f _ hs => hO cs x f (fun a ha => by simp [hs a ha])), h2.keep (hk.sub (fun a ha => by simp [ha])) (fun cs x f _ hs => hO cs x f (fun a ha => by simp [hs a ha]))⟩
theorem OEx.keep {w w' : World} : ∀ {d : Nat} {cs : List Value} {e : Ex} {fp : List Nat}, OEx w d cs e fp → KeepOn fp w w' → OEx w' d cs e fp
  | 0, _, _, _, h, _ => h.elim
  | d + 1, cs, e, fp, h, hk => by
    obtain ⟨kv, cv, f1, f2, rfl, rfl, h1, h2, h3, h4, hr, hc⟩ := h
    refine ⟨kv, cv, f1, f2, rfl, rfl, h1, h2, h3, h4, hr.keep (hk.sub (fun a ha => by simp [ha])) (fun cs x f _ hs h => h.keep (hk.sub (fun a ha => by simp [hs a ha]))), hc.keep (hk.sub (fun a ha => by simp [ha])) (fun cs x f _ hs h => ?_)⟩
    exact h.keep' (hk.sub (fun a ha => by simp [hs a ha])) (fun cs x g hg h => h.keep (hk.sub (fun a ha => by simp [hs a (hg a ha)])))
theorem OCls.keep {w w' : World} {d : Nat} {cs : List Value} {c : Cl} {fp : List Nat} (h : OCl w (OEx w d) cs c fp) (hk : KeepOn fp w w') : OCl w' (OEx w' d) cs c fp :=
  h.keep' hk (fun cs x g hg h => h.keep (hk.sub hg))
theorem OCl.tree' {w : World} {S : Nat → Prop} {O : List Value → Ex → List Nat → Prop} {R : List Value → Ex → Prop} {cs : List Value} {c : Cl} {fp : List Nat} (h : OCl w O cs c fp) (hS : ∀ a ∈ fp, S a) (hO : ∀ cs x f, (∀ a ∈ f, a ∈ fp) → O cs x f → R cs x) : HCl w S R cs c := by
  obtain ⟨pv, bv, f1, f2, rfl, rfl, h1, h2⟩ := h
  exact ⟨pv, bv, rfl, h1.rows (fun a ha => hS a (by simp [ha])) (fun cs x f _ hs => hO cs x f (fun a ha => by simp [hs a ha])), h2.rows (fun a ha => hS a (by simp [ha])) (fun cs x f _ hs => hO cs x f (fun a ha => by simp [hs a ha]))⟩
theorem OEx.tree {w : World} {S : Nat → Prop} : ∀ {d : Nat} {cs : List Value} {e : Ex} {fp : List Nat}, OEx w d cs e fp → (∀ a ∈ fp, S a) → HEx w S d cs e
  | 0, _, _, _, h, _ => h.elim
  | d + 1, cs, e, fp, h, hS => by
    obtain ⟨kv, cv, f1, f2, rfl, rfl, h1, h2, h3, h4, hr, hc⟩ := h
    refine ⟨kv, cv, rfl, h1, h2, h3, h4, hr.rows (fun a ha => hS a (by simp [ha])) (fun cs x f _ hs h => h.tree (fun a ha => hS a (by simp [hs a ha]))), hc.rows (fun a ha => hS a (by simp [ha])) (fun cs x f _ hs h => ?_)⟩
    exact h.tree' (fun a ha => hS a (by simp [hs a ha])) (fun cs x g hg h => h.tree (fun a ha => hS a (by simp [hs a (hg a ha)])))
theorem OCls.tree {w : World} {S : Nat → Prop} {d : Nat} {cs : List Value} {c : Cl} {fp : List Nat} (h : OCl w (OEx w d) cs c fp) (hS : ∀ a ∈ fp, S a) : HCl w S (HEx w S d) cs c :=
  h.tree' hS (fun cs x g hg h => h.tree (fun a ha => hS a (hg a ha)))
theorem OCl.lt' {w : World} {O : List Value → Ex → List Nat → Prop} {cs : List Value} {c : Cl} {fp : List Nat} (h : OCl w O cs c fp) (hO : ∀ cs x f, O cs x f → ∀ a ∈ f, a < w.heap.size) : ∀ a ∈ fp, a < w.heap.size := by
  obtain ⟨pv, bv, f1, f2, rfl, rfl, h1, h2⟩ := h
  intro a ha
  rcases List.mem_append.1 ha with ha | ha
  · exact h1.lt hO a ha
  · exact h2.lt hO a ha
theorem OEx.lt {w : World} : ∀ {d : Nat} {cs : List Value} {e : Ex} {fp : List Nat}, OEx w d cs e fp → ∀ a ∈ fp, a < w.heap.size
  | 0, _, _, _, h => h.elim
  | d + 1, cs, e, fp, h => by
    obtain ⟨kv, cv, f1, f2, rfl, rfl, h1, h2, h3, h4, hr, hc⟩ := h
    intro a ha
    rcases List.mem_append.1 ha with ha | ha
    · exact hr.lt (fun cs x f h => h.lt) a ha
    · exact hc.lt (fun cs x f h => h.lt' (fun cs x f h => h.lt)) a ha
theorem OEx.shape {w : World} {d : Nat} {cs : List Value} {x : Ex} {fp : List Nat} (h : OEx w d cs x fp) : ∃ sk sn st se p1 n1 q1 p2 n2 q2, cs = [.int .i64 sk, .int .i64 sn, .string st, .string se, .slice p1 n1 q1, .slice p2 n2 q2] := by
  cases d with
  | zero => exact h.elim
  | succ d =>
    obtain ⟨kv, cv, f1, f2, rfl, rfl, _, _, _, _, hr, hc⟩ := h
    obtain ⟨p1, c1, rfl, _⟩ := hr.shape
    obtain ⟨p2, c2, rfl, _⟩ := hc.shape
    exact ⟨_, _, _, _, _, _, _, _, _, _, rfl⟩
theorem OCl.shape {w : World} {O : List Value → Ex → List Nat → Prop} {cs : List Value} {x : Cl} {fp : List Nat} (h : OCl w O cs x fp) : ∃ p1 n1 q1 p2 n2 q2, cs = [.slice p1 n1 q1, .slice p2 n2 q2] := by
  obtain ⟨pv, bv, f1, f2, rfl, rfl, h1, h2⟩ := h
  obtain ⟨p1, c1, rfl, _⟩ := h1.shape
  obtain ⟨p2, c2, rfl, _⟩ := h2.shape
  exact ⟨_, _, _, _, _, _, rfl⟩
end Go.Proofs.YtpkhblhcdnohmaaGreatDoor
/-
  The laws' toExp and toClause: a copy of an expression or a clause in memory that the copy owns.
-/
namespace Go.Proofs.YtpkhblhcdnohmaaGreatDoor
open Go.ChangeShapes Go.WideShapes Go.ChangeAt Go.RowKit
set_option linter.unusedVariables false


set_option maxHeartbeats 4000000 in
theorem toExpS_ofO {d : Nat} (hE : ToO 103 (fun w v e => ∃ cs, v = .agg cs.toArray ∧ HEx w All d cs e) (fun w v e fp => ∃ cs, v = .agg cs.toArray ∧ OEx w d cs e fp) (wtEx d)) :
    ToO 88 (fun w v es => Rows w All 6 (HEx w All d) v es) (fun w v es fp => ORows w 73 6 (OEx w d) v es fp) (wtS (wtEx d)) := by
  intro w v es h hwt
  obtain ⟨p, cap, rfl, hcl, hcm, hx⟩ := h
  generalize hn : es.length = n at *
  have HN : Hid (es.length = n) := hn
  have HX : Hid _ := hx
  have hnb : n ≤ 1048576 := by unfold wtS at hwt; omega
  have HWT : Hid (wtS (wtEx d) es ≤ 1048576) := hwt
  clear hx hn hwt
  obtain ⟨M, hM, hmk⟩ := make_row (t := 46) (e := 73) (c := 6) Tryz.underlying46 (by kernel_rfl) w n hnb
  have HO : Hid (Made w (w.alloc (.cells M 73)) w.heap.size n 73 6 (fun w => OEx w d) es 0 M.toList []) := Made.start hM (by unfold maxLen; omega)
  generalize hG : w.heap.size = G at *
  have HG : Hid (w.heap.size = G) := hG
  go_enter Tryz.func88, Tryz.ntmps88
  go_wp2
  go_loopw [4] (fun iv wr => ∃ (k : Nat) (xs : List Value) (fps : List (List Nat)), k ≤ n ∧ iv = .int .i64 k ∧ Hid (Made w wr G n 73 6 (fun w => OEx w d) es k xs fps)) (fun iv _ => n - (intOf iv).toNat)
  case atStart => exact ⟨0, M.toList, [], Nat.zero_le _, rfl, HO⟩
  case round =>
    obtain ⟨k, xs, fps, hk, rfl, HM⟩ := hrel
    by_cases hlt : k < n
    · obtain ⟨x, hxk⟩ : ∃ x, es[k]? = some x := ⟨es[k]'(by rw [HN.out]; exact hlt), List.getElem?_eq_getElem _⟩
      obtain ⟨g, off, rfl, hg, hgl, hat⟩ := HX.out (by intro h; rw [h] at hxk; simp at hxk)
      obtain ⟨cs, hcl6, hcs, hex⟩ := hat k x hxk
      have hbw : Below w.heap.size w wr := by rw [HG.out]; exact HM.out.below
      have hex' : ∀ w', SameOn All wr w' → HEx w' All d cs x := fun w' hw => hex.mono (SameOn.trans (SameOn.of_below hbw) hw) (fun _ h => h)
      obtain ⟨z0, z1, z2, z3, z4, z5, rfl⟩ := len6 hcl6
      have a0 := hcs 0 (by omega)
      have a1 := hcs 1 (by omega)
      have a2 := hcs 2 (by omega)
      have a3 := hcs 3 (by omega)
      have a4 := hcs 4 (by omega)
      have a5 := hcs 5 (by omega)
      rw [← hbw.cell (p := ⟨g, _, none⟩) (by show g < w.heap.size; rw [HG.out]; exact hgl)] at a0 a1 a2 a3 a4 a5
      simp at a0 a1 a2 a3 a4 a5
      have hwx : wtEx d x ≤ 1048576 := by
        have h1 := HWT.out
        have h2 := sum_take_succ (wtEx d) es k x hxk
        have h3 := sum_take_le (wtEx d) es (k + 1)
        unfold wtS at h1
        omega
      clear hbw hcs hat hex hcl6
      go_wp2_with (go_at_call 103; go_must (refine (hE _ _ x ⟨_, rfl, hex' _ (by exact ⟨Nat.le_refl _, fun _ _ _ => rfl⟩)⟩ hwx).mono ?_; rintro e w1 ⟨u, fp, rfl, ⟨cs', rfl, hx1⟩, hnd, hrg, hb1⟩; obtain ⟨sk, sn, st, se, p1, n1, q1, p2, n2, q2, hsh⟩ := hx1.shape; subst hsh; have HB1 : Hid (Below wr.heap.size wr w1) := hb1; have HX1 : Hid (OEx w1 d [.int .i64 sk, .int .i64 sn, .string st, .string se, .slice p1 n1 q1, .slice p2 n2 q2] x fp) := hx1; have HND : Hid fp.Nodup := hnd; have HRG : Hid (∀ a ∈ fp, wr.heap.size ≤ a ∧ a < w1.heap.size) := hrg; have o1 := HM.out.own.kept (grownBy_belowR (r := none) hb1) (Or.inr (by simp [Value.ownBlock])); have HO1 : Hid (w1.ownsRow G 73 6 (.slice (some ⟨G, 0, none⟩) n n) n xs) := o1; have f0 := o1.frozenAt (k * 6); obtain ⟨y0, g0⟩ := own_someR o1 (k * 6) (by omega); have f1 := o1.frozenAt (k * 6 + 1); obtain ⟨y1, g1⟩ := own_someR o1 (k * 6 + 1) (by omega); have f2 := o1.frozenAt (k * 6 + 2); obtain ⟨y2, g2⟩ := own_someR o1 (k * 6 + 2) (by omega); have f3 := o1.frozenAt (k * 6 + 3); obtain ⟨y3, g3⟩ := own_someR o1 (k * 6 + 3) (by omega); have f4 := o1.frozenAt (k * 6 + 4); obtain ⟨y4, g4⟩ := own_someR o1 (k * 6 + 4) (by omega); have f5 := o1.frozenAt (k * 6 + 5); obtain ⟨y5, g5⟩ := own_someR o1 (k * 6 + 5) (by omega); clear o1 hb1 hx1 hnd hrg))
      have sd := stored6 HO1.out (k * 6) (.int .i64 sk) (.int .i64 sn) (.string st) (.string se) (.slice p1 n1 q1) (.slice p2 n2 q2)
      have hlen : xs.length = n * 6 := HO1.out.1
      exact ⟨⟨k + 1, _, _, by omega, by go_num, HM.out.step (fun w w' cs x f h hk => h.keep hk) hxk HB1.out HX1.out HND.out HRG.out rfl sd.1 sd.2 (fun m hm => set6_other hm) (fun j hj => set6_self (by omega) j hj)⟩, by simp [intOf]; omega⟩
    · obtain rfl : k = n := by omega
      obtain ⟨fp, r1, r2, r3⟩ := HM.out.done HN.out (by unfold maxLen; omega)
      have R1 : Hid (ORows wr 73 6 (OEx wr d) (.slice (some ⟨G, 0, none⟩) k k) es fp) := r1
      have R2 : Hid (fp.Nodup ∧ ∀ a ∈ fp, G ≤ a ∧ a < wr.heap.size) := ⟨r2, r3⟩
      clear r1 r2 r3
      go_wp2
      go_ret
      exact ⟨_, fp, rfl, R1.out, R2.out.1, R2.out.2, HM.out.below⟩

set_option maxHeartbeats 4000000 in
theorem toClauseS_ofO {d : Nat} (hE : ToO 72 (fun w v e => ∃ cs, v = .agg cs.toArray ∧ HCl w All (HEx w All d) cs e) (fun w v e fp => ∃ cs, v = .agg cs.toArray ∧ OCls w d cs e fp) (wtCl (wtEx d))) :
    ToO 55 (fun w v es => Rows w All 2 (HCl w All (HEx w All d)) v es) (fun w v es fp => ORows w 48 2 (OCls w d) v es fp) (wtS (wtCl (wtEx d))) := by
  intro w v es h hwt
  obtain ⟨p, cap, rfl, hcl, hcm, hx⟩ := h
  generalize hn : es.length = n at *
  have HN : Hid (es.length = n) := hn
  have HX : Hid _ := hx
  have hnb : n ≤ 1048576 := by unfold wtS at hwt; omega
  have HWT : Hid (wtS (wtCl (wtEx d)) es ≤ 1048576) := hwt
  clear hx hn hwt
  obtain ⟨M, hM, hmk⟩ := make_row (t := 41) (e := 48) (c := 2) Tryz.underlying41 (by kernel_rfl) w n hnb
  have HO : Hid (Made w (w.alloc (.cells M 48)) w.heap.size n 48 2 (fun w => OCls w d) es 0 M.toList []) := Made.start hM (by unfold maxLen; omega)
  generalize hG : w.heap.size = G at *
  have HG : Hid (w.heap.size = G) := hG
  go_enter Tryz.func55, Tryz.ntmps55
  go_wp2
  go_loopw [4] (fun iv wr => ∃ (k : Nat) (xs : List Value) (fps : List (List Nat)), k ≤ n ∧ iv = .int .i64 k ∧ Hid (Made w wr G n 48 2 (fun w => OCls w d) es k xs fps)) (fun iv _ => n - (intOf iv).toNat)
  case atStart => exact ⟨0, M.toList, [], Nat.zero_le _, rfl, HO⟩
  case round =>
    obtain ⟨k, xs, fps, hk, rfl, HM⟩ := hrel
    by_cases hlt : k < n
    · obtain ⟨x, hxk⟩ : ∃ x, es[k]? = some x := ⟨es[k]'(by rw [HN.out]; exact hlt), List.getElem?_eq_getElem _⟩
      obtain ⟨g, off, rfl, hg, hgl, hat⟩ := HX.out (by intro h; rw [h] at hxk; simp at hxk)
      obtain ⟨cs, hcl6, hcs, hex⟩ := hat k x hxk
      have hbw : Below w.heap.size w wr := by rw [HG.out]; exact HM.out.below
      have hex' : ∀ w', SameOn All wr w' → HCl w' All (HEx w' All d) cs x := fun w' hw => hex.mono (SameOn.trans (SameOn.of_below hbw) hw) (fun _ h => h) (fun _ _ => HEx.mono (SameOn.trans (SameOn.of_below hbw) hw) (fun _ h => h))
      obtain ⟨z0, z1, rfl⟩ := len2 hcl6
      have a0 := hcs 0 (by omega)
      have a1 := hcs 1 (by omega)
      rw [← hbw.cell (p := ⟨g, _, none⟩) (by show g < w.heap.size; rw [HG.out]; exact hgl)] at a0 a1
      simp at a0 a1
      have hwx : wtCl (wtEx d) x ≤ 1048576 := by
        have h1 := HWT.out
        have h2 := sum_take_succ (wtCl (wtEx d)) es k x hxk
        have h3 := sum_take_le (wtCl (wtEx d)) es (k + 1)
        unfold wtS at h1
        omega
      clear hbw hcs hat hex hcl6
      go_wp2_with (go_at_call 72; go_must (refine (hE _ _ x ⟨_, rfl, hex' _ (by exact ⟨Nat.le_refl _, fun _ _ _ => rfl⟩)⟩ hwx).mono ?_; rintro e w1 ⟨u, fp, rfl, ⟨cs', rfl, hx1⟩, hnd, hrg, hb1⟩; obtain ⟨p1, n1, q1, p2, n2, q2, hsh⟩ := hx1.shape; subst hsh; have HB1 : Hid (Below wr.heap.size wr w1) := hb1; have HX1 : Hid (OCls w1 d [.slice p1 n1 q1, .slice p2 n2 q2] x fp) := hx1; have HND : Hid fp.Nodup := hnd; have HRG : Hid (∀ a ∈ fp, wr.heap.size ≤ a ∧ a < w1.heap.size) := hrg; have o1 := HM.out.own.kept (grownBy_belowR (r := none) hb1) (Or.inr (by simp [Value.ownBlock])); have HO1 : Hid (w1.ownsRow G 48 2 (.slice (some ⟨G, 0, none⟩) n n) n xs) := o1; have f0 := o1.frozenAt (k * 2); obtain ⟨y0, g0⟩ := own_someR o1 (k * 2) (by omega); have f1 := o1.frozenAt (k * 2 + 1); obtain ⟨y1, g1⟩ := own_someR o1 (k * 2 + 1) (by omega); clear o1 hb1 hx1 hnd hrg))
      have sd := stored2 HO1.out (k * 2) (.slice p1 n1 q1) (.slice p2 n2 q2)
      have hlen : xs.length = n * 2 := HO1.out.1
      exact ⟨⟨k + 1, _, _, by omega, by go_num, Made.step (O := fun w => OCls w d) (c := 2) (fun w w' cs x f h hk => OCls.keep h hk) HM.out hxk HB1.out HX1.out HND.out HRG.out rfl sd.1 sd.2 (fun m hm => set2_other hm) (fun j hj => set2_self (by omega) j hj)⟩, by simp [intOf]; omega⟩
    · obtain rfl : k = n := by omega
      obtain ⟨fp, r1, r2, r3⟩ := HM.out.done HN.out (by unfold maxLen; omega)
      have R1 : Hid (ORows wr 48 2 (OCls wr d) (.slice (some ⟨G, 0, none⟩) k k) es fp) := r1
      have R2 : Hid (fp.Nodup ∧ ∀ a ∈ fp, G ≤ a ∧ a < wr.heap.size) := ⟨r2, r3⟩
      clear r1 r2 r3
      go_wp2
      go_ret
      exact ⟨_, fp, rfl, R1.out, R2.out.1, R2.out.2, HM.out.below⟩

set_option maxHeartbeats 4000000 in
theorem toClause_ofO {d : Nat} (h0 : ToO 88 (fun w v es => Rows w All 6 (HEx w All d) v es) (fun w v es fp => ORows w 73 6 (OEx w d) v es fp) (wtS (wtEx d))) (h1 : ToO 88 (fun w v es => Rows w All 6 (HEx w All d) v es) (fun w v es fp => ORows w 73 6 (OEx w d) v es fp) (wtS (wtEx d))) :
    ToO 72 (fun w v e => ∃ cs, v = .agg cs.toArray ∧ HCl w All (HEx w All d) cs e) (fun w v e fp => ∃ cs, v = .agg cs.toArray ∧ OCl w (OEx w d) cs e fp) (wtCl (wtEx d)) := by
  intro w v e i1 hwt
  obtain ⟨cs, rfl, v0, v1, rfl, f0, f1⟩ := i1
  have hw0 : wtS (wtEx d) e.1 ≤ 1048576 := by unfold wtCl at hwt; omega
  have E0 : ∀ w', SameOn All w w' → Rows w' All 6 (HEx w' All d) v0 e.1 := fun w' hw => f0.mono hw (fun _ h => h) (fun _ _ _ => HEx.mono hw (fun _ h => h))
  have hw1 : wtS (wtEx d) e.2 ≤ 1048576 := by unfold wtCl at hwt; omega
  have E1 : ∀ w', SameOn All w w' → Rows w' All 6 (HEx w' All d) v1 e.2 := fun w' hw => f1.mono hw (fun _ h => h) (fun _ _ _ => HEx.mono hw (fun _ h => h))
  obtain ⟨p0, c0, rfl, _⟩ := id f0
  obtain ⟨p1, c1, rfl, _⟩ := id f1
  clear f0 f1
  go_enter Tryz.func72, Tryz.ntmps72
  go_wp2_with fail
  have hal : Below w.heap.size w (((w.alloc (.cells #[.slice p0 e.1.length c0, .slice p1 e.2.length c1] 105)).alloc (.cells #[.slice none 0 0, .slice none 0 0] 48)).alloc (.cells #[.slice none 0 0, .slice none 0 0] 48)) := (((Below.refl _ _).alloc (Nat.le_refl _) _).alloc (by simp only [alloc_hs]; omega) _).alloc (by simp only [alloc_hs]; omega) _
  refine (h0 _ _ e.1 (E0 _ (SameOn.of_below hal)) hw0).mono ?_
  rintro ex w1 ⟨u, fA, rfl, r0, ndA, rgA, hb⟩
  have bA := ((Blk.new (w := w) (cs := #[.slice p0 e.1.length c0, .slice p1 e.2.length c1]) (t := 105)).alloc (o := .cells #[.slice none 0 0, .slice none 0 0] 48)).alloc (o := .cells #[.slice none 0 0, .slice none 0 0] 48)
  have bR := (Blk.new (w := (w.alloc (.cells #[.slice p0 e.1.length c0, .slice p1 e.2.length c1] 105))) (cs := #[.slice none 0 0, .slice none 0 0]) (t := 48)).alloc (o := .cells #[.slice none 0 0, .slice none 0 0] 48)
  have bO := (Blk.new (w := ((w.alloc (.cells #[.slice p0 e.1.length c0, .slice p1 e.2.length c1] 105)).alloc (.cells #[.slice none 0 0, .slice none 0 0] 48))) (cs := #[.slice none 0 0, .slice none 0 0]) (t := 48))
  simp only [alloc_hs] at bA bR bO rgA
  replace bA := bA.below hb (by simp only [alloc_hs]; omega)
  replace bR := bR.below hb (by simp only [alloc_hs]; omega)
  replace bO := bO.below hb (by simp only [alloc_hs]; omega)
  have B1 : Below w.heap.size w w1 := hal.trans (hb.mono hal.size)
  have z1 : w.heap.size + 3 ≤ w1.heap.size := by have := hb.size; simp only [alloc_hs] at this; omega
  have Z1 : Hid (w.heap.size + 3 ≤ w1.heap.size) := z1
  have T0 : Hid (ORows w1 73 6 (OEx w1 d) u e.1 fA) := r0
  have NA : Hid (fA.Nodup) := ndA
  have GA : Hid (∀ a ∈ fA, w.heap.size + 1 + 1 + 1 ≤ a ∧ a < w1.heap.size) := rgA
  clear hal hb z1 ndA rgA
  obtain ⟨p0', c0', hu, _⟩ := r0.shape
  subst hu
  clear r0
  have a1 := bA.cell 1 _ rfl
  have o0 := bO.cell 0 _ rfl
  have g0 := bO.frozen 0
  have HA : Hid (Blk w1 w.heap.size #[.slice p0 e.1.length c0, .slice p1 e.2.length c1] 105) := bA
  have HR : Hid (Blk w1 (w.heap.size + 1) #[.slice none 0 0, .slice none 0 0] 48) := bR
  have HO : Hid (Blk w1 (w.heap.size + 1 + 1) #[.slice none 0 0, .slice none 0 0] 48) := bO
  have HB1 : Hid (Below w.heap.size w w1) := B1
  clear bA bR bO B1
  go_wp2_with fail
  have hp : Below w.heap.size w (w1.setCell ⟨w.heap.size + 1 + 1, 0, none⟩ (.slice p0' e.1.length c0')) := HB1.out.setCell (by show _ ≤ w.heap.size + 1 + 1; omega) _
  refine (h1 _ _ e.2 (E1 _ (SameOn.of_below hp)) hw1).mono ?_
  rintro ex w2 ⟨u, fB, rfl, r1, ndB, rgB, hb⟩
  have bA := ((HA.out.other (p := ⟨w.heap.size + 1 + 1, 0, none⟩) (v := (.slice p0' e.1.length c0')) (by show w.heap.size ≠ w.heap.size + 1 + 1; omega)).below hb (by have := Z1.out; simp only [setCell_hs]; omega))
  have bR := ((HR.out.other (p := ⟨w.heap.size + 1 + 1, 0, none⟩) (v := (.slice p0' e.1.length c0')) (by show w.heap.size + 1 ≠ w.heap.size + 1 + 1; omega)).below hb (by have := Z1.out; simp only [setCell_hs]; omega))
  have bO := ((HO.out.same (j := 0) (v := (.slice p0' e.1.length c0')) (cs' := #[.slice p0' e.1.length c0', .slice none 0 0]) rfl).below hb (by have := Z1.out; simp only [setCell_hs]; omega))
  have B2 : Below w.heap.size w w2 := hp.trans (hb.mono hp.size)
  simp only [setCell_hs] at rgB
  have k01 : KeepOn fA w1 w2 := fun a ha => by
    have h := GA.out a ha
    exact (hb.block a (by simp only [setCell_hs]; exact h.2)).trans (Below.heap_setCell _ _ _ _ (by show a ≠ w.heap.size + 1 + 1; omega))
  have T0 : Hid (ORows w2 73 6 (OEx w2 d) (.slice p0' e.1.length c0') e.1 fA) := by have h := T0.out; exact h.keep k01 (fun cs x f _ hs h => h.keep (k01.sub hs))
  have T1 : Hid (ORows w2 73 6 (OEx w2 d) u e.2 fB) := r1
  have sz2 : w1.heap.size ≤ w2.heap.size := by have := hb.size; simp only [setCell_hs] at this; exact this
  have HND : Hid ((fA ++ fB).Nodup) := by
    show List.Nodup _
    rw [List.nodup_append]
    exact ⟨NA.out, ndB, fun a ha b hb => by have := GA.out a ha; have := rgB b hb; omega⟩
  have HRG : Hid (∀ a ∈ fA ++ fB, w.heap.size + 1 + 1 + 1 ≤ a ∧ a < w2.heap.size) := fun a ha => by
    rcases List.mem_append.1 ha with ha | ha
    · have := GA.out a ha; omega
    · have := rgB a ha; have := Z1.out; omega
  have HB2 : Hid (Below w.heap.size w w2) := B2
  obtain ⟨p1', c1', hu, _⟩ := r1.shape
  subst hu
  clear hp hb r1 HA HR HO HB1 k01 ndB rgB NA GA sz2 B2
  have o0 := bO.cell 0 _ rfl
  have q0 := bR.cell 0 _ rfl
  have k0 := bR.frozen 0
  have o1 := bO.cell 1 _ rfl
  have q1 := bR.cell 1 _ rfl
  have k1 := bR.frozen 1
  have g1 := bO.frozen 1
  clear bA bR bO
  go_wp2_with fail
  have sf : SameOn (fun g => w.heap.size + 1 + 1 + 1 ≤ g) w2 (((w2.setCell ⟨w.heap.size + 1 + 1, 1, none⟩ (.slice p1' e.2.length c1')).setCell ⟨w.heap.size + 1, 0, none⟩ (.slice p0' e.1.length c0')).setCell ⟨w.heap.size + 1, 1, none⟩ (.slice p1' e.2.length c1')) := SameOn.setCell (SameOn.setCell (SameOn.setCell (SameOn.of_below (Below.refl _ _)) (by show ¬ (_ ≤ w.heap.size + 1 + 1); omega) _) (by show ¬ (_ ≤ w.heap.size + 1); omega) _) (by show ¬ (_ ≤ w.heap.size + 1); omega) _
  have bf : Below w.heap.size w (((w2.setCell ⟨w.heap.size + 1 + 1, 1, none⟩ (.slice p1' e.2.length c1')).setCell ⟨w.heap.size + 1, 0, none⟩ (.slice p0' e.1.length c0')).setCell ⟨w.heap.size + 1, 1, none⟩ (.slice p1' e.2.length c1')) := Below.setCell (Below.setCell (Below.setCell (HB2.out) (by show _ ≤ w.heap.size + 1 + 1; omega) _) (by show _ ≤ w.heap.size + 1; omega) _) (by show _ ≤ w.heap.size + 1; omega) _
  have kf : KeepOn (fA ++ fB) w2 (((w2.setCell ⟨w.heap.size + 1 + 1, 1, none⟩ (.slice p1' e.2.length c1')).setCell ⟨w.heap.size + 1, 0, none⟩ (.slice p0' e.1.length c0')).setCell ⟨w.heap.size + 1, 1, none⟩ (.slice p1' e.2.length c1')) := fun a ha => sf.2 a (HRG.out a ha).1 (HRG.out a ha).2
  have kA := kf.sub (fp' := fA) (fun a ha => by simp [ha])
  have kB := kf.sub (fp' := fB) (fun a ha => by simp [ha])
  have U0 := T0.out.keep kA (fun cs x f _ hs h => h.keep (kA.sub hs))
  have U1 := T1.out.keep kB (fun cs x f _ hs h => h.keep (kB.sub hs))
  exact bodyPost_ret (v := .agg #[.slice p0' e.1.length c0', .slice p1' e.2.length c1']) (by simp [results, Tryz.results72, go_sem, q0, q1]) rfl
    ⟨_, fA ++ fB, rfl, ⟨_, rfl, _, _, fA, fB, rfl, rfl, U0, U1⟩, HND.out, fun a ha => ⟨by have := (HRG.out a ha).1; omega, Nat.lt_of_lt_of_le (HRG.out a ha).2 sf.1⟩, bf⟩

set_option maxHeartbeats 4000000 in
theorem toExp_ofO {d : Nat} (h0 : ToO 88 (fun w v es => Rows w All 6 (HEx w All d) v es) (fun w v es fp => ORows w 73 6 (OEx w d) v es fp) (wtS (wtEx d))) (h1 : ToO 55 (fun w v es => Rows w All 2 (HCl w All (HEx w All d)) v es) (fun w v es fp => ORows w 48 2 (OCls w d) v es fp) (wtS (wtCl (wtEx d)))) :
    ToO 103 (fun w v e => ∃ cs, v = .agg cs.toArray ∧ HEx w All (d + 1) cs e) (fun w v e fp => ∃ cs, v = .agg cs.toArray ∧ OEx w (d + 1) cs e fp) (wtEx (d + 1)) := by
  intro w v e i1 hwt
  obtain ⟨cs, rfl, v0, v1, rfl, s0, s1, s2, s3, f0, f1⟩ := i1
  have hw0 : wtS (wtEx d) e.kids ≤ 1048576 := by unfold wtEx at hwt; omega
  have E0 : ∀ w', SameOn All w w' → Rows w' All 6 (HEx w' All d) v0 e.kids := fun w' hw => f0.mono hw (fun _ h => h) (fun _ _ _ => HEx.mono hw (fun _ h => h))
  have hw1 : wtS (wtCl (wtEx d)) e.clauses ≤ 1048576 := by unfold wtEx at hwt; omega
  have E1 : ∀ w', SameOn All w w' → Rows w' All 2 (HCl w' All (HEx w' All d)) v1 e.clauses := fun w' hw => f1.mono hw (fun _ h => h) (fun _ _ _ h => h.mono hw (fun _ h => h) (fun _ _ => HEx.mono hw (fun _ h => h)))
  obtain ⟨p0, c0, rfl, _⟩ := id f0
  obtain ⟨p1, c1, rfl, _⟩ := id f1
  clear f0 f1
  go_enter Tryz.func103, Tryz.ntmps103
  go_wp2_with fail
  have hal : Below w.heap.size w (((w.alloc (.cells #[.int .i64 e.kind, .int .i64 e.n, .string e.text, .string e.mod, .slice p0 e.kids.length c0, .slice p1 e.clauses.length c1] 131)).alloc (.cells #[.int .i64 0, .int .i64 0, .string ⟨#[]⟩, .string ⟨#[]⟩, .slice none 0 0, .slice none 0 0] 73)).alloc (.cells #[.int .i64 e.kind, .int .i64 e.n, .string e.text, .string e.mod, .slice none 0 0, .slice none 0 0] 73)) := (((Below.refl _ _).alloc (Nat.le_refl _) _).alloc (by simp only [alloc_hs]; omega) _).alloc (by simp only [alloc_hs]; omega) _
  refine (h0 _ _ e.kids (E0 _ (SameOn.of_below hal)) hw0).mono ?_
  rintro ex w1 ⟨u, fA, rfl, r0, ndA, rgA, hb⟩
  have bA := ((Blk.new (w := w) (cs := #[.int .i64 e.kind, .int .i64 e.n, .string e.text, .string e.mod, .slice p0 e.kids.length c0, .slice p1 e.clauses.length c1]) (t := 131)).alloc (o := .cells #[.int .i64 0, .int .i64 0, .string ⟨#[]⟩, .string ⟨#[]⟩, .slice none 0 0, .slice none 0 0] 73)).alloc (o := .cells #[.int .i64 e.kind, .int .i64 e.n, .string e.text, .string e.mod, .slice none 0 0, .slice none 0 0] 73)
  have bR := (Blk.new (w := (w.alloc (.cells #[.int .i64 e.kind, .int .i64 e.n, .string e.text, .string e.mod, .slice p0 e.kids.length c0, .slice p1 e.clauses.length c1] 131))) (cs := #[.int .i64 0, .int .i64 0, .string ⟨#[]⟩, .string ⟨#[]⟩, .slice none 0 0, .slice none 0 0]) (t := 73)).alloc (o := .cells #[.int .i64 e.kind, .int .i64 e.n, .string e.text, .string e.mod, .slice none 0 0, .slice none 0 0] 73)
  have bO := (Blk.new (w := ((w.alloc (.cells #[.int .i64 e.kind, .int .i64 e.n, .string e.text, .string e.mod, .slice p0 e.kids.length c0, .slice p1 e.clauses.length c1] 131)).alloc (.cells #[.int .i64 0, .int .i64 0, .string ⟨#[]⟩, .string ⟨#[]⟩, .slice none 0 0, .slice none 0 0] 73))) (cs := #[.int .i64 e.kind, .int .i64 e.n, .string e.text, .string e.mod, .slice none 0 0, .slice none 0 0]) (t := 73))
  simp only [alloc_hs] at bA bR bO rgA
  replace bA := bA.below hb (by simp only [alloc_hs]; omega)
  replace bR := bR.below hb (by simp only [alloc_hs]; omega)
  replace bO := bO.below hb (by simp only [alloc_hs]; omega)
  have B1 : Below w.heap.size w w1 := hal.trans (hb.mono hal.size)
  have z1 : w.heap.size + 3 ≤ w1.heap.size := by have := hb.size; simp only [alloc_hs] at this; omega
  have Z1 : Hid (w.heap.size + 3 ≤ w1.heap.size) := z1
  have T0 : Hid (ORows w1 73 6 (OEx w1 d) u e.kids fA) := r0
  have NA : Hid (fA.Nodup) := ndA
  have GA : Hid (∀ a ∈ fA, w.heap.size + 1 + 1 + 1 ≤ a ∧ a < w1.heap.size) := rgA
  clear hal hb z1 ndA rgA
  obtain ⟨p0', c0', hu, _⟩ := r0.shape
  subst hu
  clear r0
  have a5 := bA.cell 5 _ rfl
  have o4 := bO.cell 4 _ rfl
  have g4 := bO.frozen 4
  have HA : Hid (Blk w1 w.heap.size #[.int .i64 e.kind, .int .i64 e.n, .string e.text, .string e.mod, .slice p0 e.kids.length c0, .slice p1 e.clauses.length c1] 131) := bA
  have HR : Hid (Blk w1 (w.heap.size + 1) #[.int .i64 0, .int .i64 0, .string ⟨#[]⟩, .string ⟨#[]⟩, .slice none 0 0, .slice none 0 0] 73) := bR
  have HO : Hid (Blk w1 (w.heap.size + 1 + 1) #[.int .i64 e.kind, .int .i64 e.n, .string e.text, .string e.mod, .slice none 0 0, .slice none 0 0] 73) := bO
  have HB1 : Hid (Below w.heap.size w w1) := B1
  clear bA bR bO B1
  go_wp2_with fail
  have hp : Below w.heap.size w (w1.setCell ⟨w.heap.size + 1 + 1, 4, none⟩ (.slice p0' e.kids.length c0')) := HB1.out.setCell (by show _ ≤ w.heap.size + 1 + 1; omega) _
  refine (h1 _ _ e.clauses (E1 _ (SameOn.of_below hp)) hw1).mono ?_
  rintro ex w2 ⟨u, fB, rfl, r1, ndB, rgB, hb⟩
  have bA := ((HA.out.other (p := ⟨w.heap.size + 1 + 1, 4, none⟩) (v := (.slice p0' e.kids.length c0')) (by show w.heap.size ≠ w.heap.size + 1 + 1; omega)).below hb (by have := Z1.out; simp only [setCell_hs]; omega))
  have bR := ((HR.out.other (p := ⟨w.heap.size + 1 + 1, 4, none⟩) (v := (.slice p0' e.kids.length c0')) (by show w.heap.size + 1 ≠ w.heap.size + 1 + 1; omega)).below hb (by have := Z1.out; simp only [setCell_hs]; omega))
  have bO := ((HO.out.same (j := 4) (v := (.slice p0' e.kids.length c0')) (cs' := #[.int .i64 e.kind, .int .i64 e.n, .string e.text, .string e.mod, .slice p0' e.kids.length c0', .slice none 0 0]) rfl).below hb (by have := Z1.out; simp only [setCell_hs]; omega))
  have B2 : Below w.heap.size w w2 := hp.trans (hb.mono hp.size)
  simp only [setCell_hs] at rgB
  have k01 : KeepOn fA w1 w2 := fun a ha => by
    have h := GA.out a ha
    exact (hb.block a (by simp only [setCell_hs]; exact h.2)).trans (Below.heap_setCell _ _ _ _ (by show a ≠ w.heap.size + 1 + 1; omega))
  have T0 : Hid (ORows w2 73 6 (OEx w2 d) (.slice p0' e.kids.length c0') e.kids fA) := by have h := T0.out; exact h.keep k01 (fun cs x f _ hs h => h.keep (k01.sub hs))
  have T1 : Hid (ORows w2 48 2 (OCls w2 d) u e.clauses fB) := r1
  have sz2 : w1.heap.size ≤ w2.heap.size := by have := hb.size; simp only [setCell_hs] at this; exact this
  have HND : Hid ((fA ++ fB).Nodup) := by
    show List.Nodup _
    rw [List.nodup_append]
    exact ⟨NA.out, ndB, fun a ha b hb => by have := GA.out a ha; have := rgB b hb; omega⟩
  have HRG : Hid (∀ a ∈ fA ++ fB, w.heap.size + 1 + 1 + 1 ≤ a ∧ a < w2.heap.size) := fun a ha => by
    rcases List.mem_append.1 ha with ha | ha
    · have := GA.out a ha; omega
    · have := rgB a ha; have := Z1.out; omega
  have HB2 : Hid (Below w.heap.size w w2) := B2
  obtain ⟨p1', c1', hu, _⟩ := r1.shape
  subst hu
  clear hp hb r1 HA HR HO HB1 k01 ndB rgB NA GA sz2 B2
  have o0 := bO.cell 0 _ rfl
  have q0 := bR.cell 0 _ rfl
  have k0 := bR.frozen 0
  have o1 := bO.cell 1 _ rfl
  have q1 := bR.cell 1 _ rfl
  have k1 := bR.frozen 1
  have o2 := bO.cell 2 _ rfl
  have q2 := bR.cell 2 _ rfl
  have k2 := bR.frozen 2
  have o3 := bO.cell 3 _ rfl
  have q3 := bR.cell 3 _ rfl
  have k3 := bR.frozen 3
  have o4 := bO.cell 4 _ rfl
  have q4 := bR.cell 4 _ rfl
  have k4 := bR.frozen 4
  have o5 := bO.cell 5 _ rfl
  have q5 := bR.cell 5 _ rfl
  have k5 := bR.frozen 5
  have g5 := bO.frozen 5
  clear bA bR bO
  go_wp2_with fail
  have sf : SameOn (fun g => w.heap.size + 1 + 1 + 1 ≤ g) w2 (((((((w2.setCell ⟨w.heap.size + 1 + 1, 5, none⟩ (.slice p1' e.clauses.length c1')).setCell ⟨w.heap.size + 1, 0, none⟩ (.int .i64 e.kind)).setCell ⟨w.heap.size + 1, 1, none⟩ (.int .i64 e.n)).setCell ⟨w.heap.size + 1, 2, none⟩ (.string e.text)).setCell ⟨w.heap.size + 1, 3, none⟩ (.string e.mod)).setCell ⟨w.heap.size + 1, 4, none⟩ (.slice p0' e.kids.length c0')).setCell ⟨w.heap.size + 1, 5, none⟩ (.slice p1' e.clauses.length c1')) := SameOn.setCell (SameOn.setCell (SameOn.setCell (SameOn.setCell (SameOn.setCell (SameOn.setCell (SameOn.setCell (SameOn.of_below (Below.refl _ _)) (by show ¬ (_ ≤ w.heap.size + 1 + 1); omega) _) (by show ¬ (_ ≤ w.heap.size + 1); omega) _) (by show ¬ (_ ≤ w.heap.size + 1); omega) _) (by show ¬ (_ ≤ w.heap.size + 1); omega) _) (by show ¬ (_ ≤ w.heap.size + 1); omega) _) (by show ¬ (_ ≤ w.heap.size + 1); omega) _) (by show ¬ (_ ≤ w.heap.size + 1); omega) _
  have bf : Below w.heap.size w (((((((w2.setCell ⟨w.heap.size + 1 + 1, 5, none⟩ (.slice p1' e.clauses.length c1')).setCell ⟨w.heap.size + 1, 0, none⟩ (.int .i64 e.kind)).setCell ⟨w.heap.size + 1, 1, none⟩ (.int .i64 e.n)).setCell ⟨w.heap.size + 1, 2, none⟩ (.string e.text)).setCell ⟨w.heap.size + 1, 3, none⟩ (.string e.mod)).setCell ⟨w.heap.size + 1, 4, none⟩ (.slice p0' e.kids.length c0')).setCell ⟨w.heap.size + 1, 5, none⟩ (.slice p1' e.clauses.length c1')) := Below.setCell (Below.setCell (Below.setCell (Below.setCell (Below.setCell (Below.setCell (Below.setCell (HB2.out) (by show _ ≤ w.heap.size + 1 + 1; omega) _) (by show _ ≤ w.heap.size + 1; omega) _) (by show _ ≤ w.heap.size + 1; omega) _) (by show _ ≤ w.heap.size + 1; omega) _) (by show _ ≤ w.heap.size + 1; omega) _) (by show _ ≤ w.heap.size + 1; omega) _) (by show _ ≤ w.heap.size + 1; omega) _
  have kf : KeepOn (fA ++ fB) w2 (((((((w2.setCell ⟨w.heap.size + 1 + 1, 5, none⟩ (.slice p1' e.clauses.length c1')).setCell ⟨w.heap.size + 1, 0, none⟩ (.int .i64 e.kind)).setCell ⟨w.heap.size + 1, 1, none⟩ (.int .i64 e.n)).setCell ⟨w.heap.size + 1, 2, none⟩ (.string e.text)).setCell ⟨w.heap.size + 1, 3, none⟩ (.string e.mod)).setCell ⟨w.heap.size + 1, 4, none⟩ (.slice p0' e.kids.length c0')).setCell ⟨w.heap.size + 1, 5, none⟩ (.slice p1' e.clauses.length c1')) := fun a ha => sf.2 a (HRG.out a ha).1 (HRG.out a ha).2
  have kA := kf.sub (fp' := fA) (fun a ha => by simp [ha])
  have kB := kf.sub (fp' := fB) (fun a ha => by simp [ha])
  have U0 := T0.out.keep kA (fun cs x f _ hs h => h.keep (kA.sub hs))
  have U1 := T1.out.keep kB (fun cs x f _ hs h => OCls.keep h (kB.sub hs))
  exact bodyPost_ret (v := .agg #[.int .i64 e.kind, .int .i64 e.n, .string e.text, .string e.mod, .slice p0' e.kids.length c0', .slice p1' e.clauses.length c1']) (by simp [results, Tryz.results103, go_sem, q0, q1, q2, q3, q4, q5]) rfl
    ⟨_, fA ++ fB, rfl, ⟨_, rfl, _, _, fA, fB, rfl, rfl, s0, s1, s2, s3, U0, U1⟩, HND.out, fun a ha => ⟨by have := (HRG.out a ha).1; omega, Nat.lt_of_lt_of_le (HRG.out a ha).2 sf.1⟩, bf⟩

theorem toExp_own : ∀ d, ToO 103 (fun w v e => ∃ cs, v = .agg cs.toArray ∧ HEx w All d cs e) (fun w v e fp => ∃ cs, v = .agg cs.toArray ∧ OEx w d cs e fp) (wtEx d)
  | 0 => fun w v x ⟨_, _, h⟩ _ => h.elim
  | d + 1 => toExp_ofO (toExpS_ofO (toExp_own d)) (toClauseS_ofO (toClause_ofO (toExpS_ofO (toExp_own d)) (toExpS_ofO (toExp_own d))))
theorem toClause_own (d : Nat) : ToO 72 (fun w v e => ∃ cs, v = .agg cs.toArray ∧ HCl w All (HEx w All d) cs e) (fun w v e fp => ∃ cs, v = .agg cs.toArray ∧ OCl w (OEx w d) cs e fp) (wtCl (wtEx d)) :=
  toClause_ofO (toExpS_ofO (toExp_own d)) (toExpS_ofO (toExp_own d))
theorem toExpS_own (d : Nat) : ToO 88 (fun w v es => Rows w All 6 (HEx w All d) v es) (fun w v es fp => ORows w 73 6 (OEx w d) v es fp) (wtS (wtEx d)) := toExpS_ofO (toExp_own d)
theorem toClauseS_own (d : Nat) : ToO 55 (fun w v es => Rows w All 2 (HCl w All (HEx w All d)) v es) (fun w v es fp => ORows w 48 2 (OCl w (OEx w d)) v es fp) (wtS (wtCl (wtEx d))) := toClauseS_ofO (toClause_own d)
end Go.Proofs.YtpkhblhcdnohmaaGreatDoor
/-
  Modules that own their memory.
-/
namespace Go.Proofs.YtpkhblhcdnohmaaGreatDoor
open Go.ChangeShapes Go.WideShapes Go.ChangeAt Go.RowKit
set_option linter.unusedVariables false

/-- Two cells that are a name with its number: no memory. -/
def ORf (_ : World) (_ : Nat) (cs : List Value) (r : Rf) (fp : List Nat) : Prop := HRf cs r ∧ fp = []
/-- Three cells that are a function which owns its memory. -/
def OFn (w : World) (d : Nat) (cs : List Value) (f : Fn') (fp : List Nat) : Prop :=
  ∃ cv, cs = [.string f.name, .int .i64 f.arity, cv] ∧ okS f.name ∧ okI f.arity ∧ ORows w 48 2 (OCl w (OEx w d)) cv f.clauses fp
/-- Three cells that are a module which owns its memory. -/
def OMd (w : World) (d : Nat) (cs : List Value) (m : Md) (fp : List Nat) : Prop :=
  ∃ ev fv f1 f2, cs = [.string m.name, ev, fv] ∧ fp = f1 ++ f2 ∧ okS m.name ∧ ORows w 50 2 (ORf w d) ev m.exports f1 ∧ ORows w 43 3 (OFn w d) fv m.funs f2

theorem ORf.keep {w w' : World} {d : Nat} {cs : List Value} {r : Rf} {fp : List Nat} (h : ORf w d cs r fp) (_ : KeepOn fp w w') : ORf w' d cs r fp := h
theorem ORf.tree {w : World} {d : Nat} {cs : List Value} {r : Rf} {fp : List Nat} (h : ORf w d cs r fp) : HRf cs r := h.1
theorem ORf.lt {w : World} {d : Nat} {cs : List Value} {r : Rf} {fp : List Nat} (h : ORf w d cs r fp) : ∀ a ∈ fp, a < w.heap.size := by rw [h.2]; simp
theorem ORf.shape {w : World} {d : Nat} {cs : List Value} {x : Rf} {fp : List Nat} (h : ORf w d cs x fp) : ∃ st sk, cs = [.string st, .int .i64 sk] := by
  obtain ⟨⟨rfl, _⟩, _⟩ := h
  exact ⟨_, _, rfl⟩
theorem OFn.keep {w w' : World} {d : Nat} {cs : List Value} {f : Fn'} {fp : List Nat} (h : OFn w d cs f fp) (hk : KeepOn fp w w') : OFn w' d cs f fp := by
  obtain ⟨cv, rfl, h1, h2, h3⟩ := h
  exact ⟨cv, rfl, h1, h2, h3.keep hk (fun cs x f _ hs h => OCls.keep h (hk.sub hs))⟩
theorem OFn.tree {w : World} {S : Nat → Prop} {d : Nat} {cs : List Value} {f : Fn'} {fp : List Nat} (h : OFn w d cs f fp) (hS : ∀ a ∈ fp, S a) : HFn w S d cs f := by
  obtain ⟨cv, rfl, h1, h2, h3⟩ := h
  exact ⟨cv, rfl, h1, h2, h3.rows hS (fun cs x f _ hs h => OCls.tree h (fun a ha => hS a (hs a ha)))⟩
theorem OFn.lt {w : World} {d : Nat} {cs : List Value} {f : Fn'} {fp : List Nat} (h : OFn w d cs f fp) : ∀ a ∈ fp, a < w.heap.size := by
  obtain ⟨cv, rfl, h1, h2, h3⟩ := h
  exact h3.lt (fun cs x f h => h.lt' (fun cs x f h => h.lt))
theorem OFn.shape {w : World} {d : Nat} {cs : List Value} {x : Fn'} {fp : List Nat} (h : OFn w d cs x fp) : ∃ st sk p1 n1 q1, cs = [.string st, .int .i64 sk, .slice p1 n1 q1] := by
  obtain ⟨cv, rfl, h1, h2, h3⟩ := h
  obtain ⟨p1, c1, rfl, _⟩ := h3.shape
  exact ⟨_, _, _, _, _, rfl⟩
theorem OMd.keep {w w' : World} {d : Nat} {cs : List Value} {m : Md} {fp : List Nat} (h : OMd w d cs m fp) (hk : KeepOn fp w w') : OMd w' d cs m fp := by
  obtain ⟨ev, fv, f1, f2, rfl, rfl, h1, h2, h3⟩ := h
  exact ⟨ev, fv, f1, f2, rfl, rfl, h1, h2.keep (hk.sub (fun a ha => by simp [ha])) (fun cs x f _ hs h => h), h3.keep (hk.sub (fun a ha => by simp [ha])) (fun cs x f _ hs h => h.keep (hk.sub (fun a ha => by simp [hs a ha])))⟩
theorem OMd.tree {w : World} {S : Nat → Prop} {d : Nat} {cs : List Value} {m : Md} {fp : List Nat} (h : OMd w d cs m fp) (hS : ∀ a ∈ fp, S a) : HMd w S d cs m := by
  obtain ⟨ev, fv, f1, f2, rfl, rfl, h1, h2, h3⟩ := h
  exact ⟨ev, fv, rfl, h1, h2.rows (fun a ha => hS a (by simp [ha])) (fun cs x f _ hs h => h.1), h3.rows (fun a ha => hS a (by simp [ha])) (fun cs x f _ hs h => h.tree (fun a ha => hS a (by simp [hs a ha])))⟩
theorem OMd.lt {w : World} {d : Nat} {cs : List Value} {m : Md} {fp : List Nat} (h : OMd w d cs m fp) : ∀ a ∈ fp, a < w.heap.size := by
  obtain ⟨ev, fv, f1, f2, rfl, rfl, h1, h2, h3⟩ := h
  intro a ha
  rcases List.mem_append.1 ha with ha | ha
  · exact h2.lt (fun cs x f h => h.lt) a ha
  · exact h3.lt (fun cs x f h => h.lt) a ha
theorem OMd.shape {w : World} {d : Nat} {cs : List Value} {x : Md} {fp : List Nat} (h : OMd w d cs x fp) : ∃ st p1 n1 q1 p2 n2 q2, cs = [.string st, .slice p1 n1 q1, .slice p2 n2 q2] := by
  obtain ⟨ev, fv, f1, f2, rfl, rfl, h1, h2, h3⟩ := h
  obtain ⟨p1, c1, rfl, _⟩ := h2.shape
  obtain ⟨p2, c2, rfl, _⟩ := h3.shape
  exact ⟨_, _, _, _, _, _, _, rfl⟩
end Go.Proofs.YtpkhblhcdnohmaaGreatDoor
/-
  The laws' toModule and what it calls: a copy of a module in memory that the copy owns.
-/
namespace Go.Proofs.YtpkhblhcdnohmaaGreatDoor
open Go.ChangeShapes Go.WideShapes Go.ChangeAt Go.RowKit
set_option linter.unusedVariables false


set_option maxHeartbeats 4000000 in
theorem toRefS_ofO {d : Nat} (hE : ToO 38 (fun w v e => ∃ cs, v = .agg cs.toArray ∧ HRf cs e) (fun w v e fp => ∃ cs, v = .agg cs.toArray ∧ ORf w d cs e fp) (wtRf)) :
    ToO 17 (fun w v es => Rows w All 2 (HRf) v es) (fun w v es fp => ORows w 50 2 (ORf w d) v es fp) (wtS (wtRf)) := by
  intro w v es h hwt
  obtain ⟨p, cap, rfl, hcl, hcm, hx⟩ := h
  generalize hn : es.length = n at *
  have HN : Hid (es.length = n) := hn
  have HX : Hid _ := hx
  have hnb : n ≤ 1048576 := by unfold wtS at hwt; omega
  have HWT : Hid (wtS (wtRf) es ≤ 1048576) := hwt
  clear hx hn hwt
  obtain ⟨M, hM, hmk⟩ := make_row (t := 27) (e := 50) (c := 2) Tryz.underlying27 (by kernel_rfl) w n hnb
  have HO : Hid (Made w (w.alloc (.cells M 50)) w.heap.size n 50 2 (fun w => ORf w d) es 0 M.toList []) := Made.start hM (by unfold maxLen; omega)
  generalize hG : w.heap.size = G at *
  have HG : Hid (w.heap.size = G) := hG
  go_enter Tryz.func17, Tryz.ntmps17
  go_wp2
  go_loopw [4] (fun iv wr => ∃ (k : Nat) (xs : List Value) (fps : List (List Nat)), k ≤ n ∧ iv = .int .i64 k ∧ Hid (Made w wr G n 50 2 (fun w => ORf w d) es k xs fps)) (fun iv _ => n - (intOf iv).toNat)
  case atStart => exact ⟨0, M.toList, [], Nat.zero_le _, rfl, HO⟩
  case round =>
    obtain ⟨k, xs, fps, hk, rfl, HM⟩ := hrel
    by_cases hlt : k < n
    · obtain ⟨x, hxk⟩ : ∃ x, es[k]? = some x := ⟨es[k]'(by rw [HN.out]; exact hlt), List.getElem?_eq_getElem _⟩
      obtain ⟨g, off, rfl, hg, hgl, hat⟩ := HX.out (by intro h; rw [h] at hxk; simp at hxk)
      obtain ⟨cs, hcl6, hcs, hex⟩ := hat k x hxk
      have hbw : Below w.heap.size w wr := by rw [HG.out]; exact HM.out.below
      have hex' : ∀ w', SameOn All wr w' → HRf cs x := fun w' hw => hex
      obtain ⟨z0, z1, rfl⟩ := len2 hcl6
      have a0 := hcs 0 (by omega)
      have a1 := hcs 1 (by omega)
      rw [← hbw.cell (p := ⟨g, _, none⟩) (by show g < w.heap.size; rw [HG.out]; exact hgl)] at a0 a1
      simp at a0 a1
      have hwx : wtRf x ≤ 1048576 := by
        have h1 := HWT.out
        have h2 := sum_take_succ (wtRf) es k x hxk
        have h3 := sum_take_le (wtRf) es (k + 1)
        unfold wtS at h1
        omega
      clear hbw hcs hat hex hcl6
      go_wp2_with (go_at_call 38; go_must (refine (hE _ _ x ⟨_, rfl, hex' _ (by exact ⟨Nat.le_refl _, fun _ _ _ => rfl⟩)⟩ hwx).mono ?_; rintro e w1 ⟨u, fp, rfl, ⟨cs', rfl, hx1⟩, hnd, hrg, hb1⟩; obtain ⟨st, sk, hsh⟩ := hx1.shape; subst hsh; have HB1 : Hid (Below wr.heap.size wr w1) := hb1; have HX1 : Hid (ORf w1 d [.string st, .int .i64 sk] x fp) := hx1; have HND : Hid fp.Nodup := hnd; have HRG : Hid (∀ a ∈ fp, wr.heap.size ≤ a ∧ a < w1.heap.size) := hrg; have o1 := HM.out.own.kept (grownBy_belowR (r := none) hb1) (Or.inr (by simp [Value.ownBlock])); have HO1 : Hid (w1.ownsRow G 50 2 (.slice (some ⟨G, 0, none⟩) n n) n xs) := o1; have f0 := o1.frozenAt (k * 2); obtain ⟨y0, g0⟩ := own_someR o1 (k * 2) (by omega); have f1 := o1.frozenAt (k * 2 + 1); obtain ⟨y1, g1⟩ := own_someR o1 (k * 2 + 1) (by omega); clear o1 hb1 hx1 hnd hrg))
      have sd := stored2 HO1.out (k * 2) (.string st) (.int .i64 sk)
      have hlen : xs.length = n * 2 := HO1.out.1
      exact ⟨⟨k + 1, _, _, by omega, by go_num, Made.step (O := fun w => ORf w d) (c := 2) (fun w w' cs x f h hk => h) HM.out hxk HB1.out HX1.out HND.out HRG.out rfl sd.1 sd.2 (fun m hm => set2_other hm) (fun j hj => set2_self (by omega) j hj)⟩, by simp [intOf]; omega⟩
    · obtain rfl : k = n := by omega
      obtain ⟨fp, r1, r2, r3⟩ := HM.out.done HN.out (by unfold maxLen; omega)
      have R1 : Hid (ORows wr 50 2 (ORf wr d) (.slice (some ⟨G, 0, none⟩) k k) es fp) := r1
      have R2 : Hid (fp.Nodup ∧ ∀ a ∈ fp, G ≤ a ∧ a < wr.heap.size) := ⟨r2, r3⟩
      clear r1 r2 r3
      go_wp2
      go_ret
      exact ⟨_, fp, rfl, R1.out, R2.out.1, R2.out.2, HM.out.below⟩

set_option maxHeartbeats 4000000 in
theorem toFunS_ofO {d : Nat} (hE : ToO 39 (fun w v e => ∃ cs, v = .agg cs.toArray ∧ HFn w All d cs e) (fun w v e fp => ∃ cs, v = .agg cs.toArray ∧ OFn w d cs e fp) (wtFn d)) :
    ToO 18 (fun w v es => Rows w All 3 (HFn w All d) v es) (fun w v es fp => ORows w 43 3 (OFn w d) v es fp) (wtS (wtFn d)) := by
  intro w v es h hwt
  obtain ⟨p, cap, rfl, hcl, hcm, hx⟩ := h
  generalize hn : es.length = n at *
  have HN : Hid (es.length = n) := hn
  have HX : Hid _ := hx
  have hnb : n ≤ 1048576 := by unfold wtS at hwt; omega
  have HWT : Hid (wtS (wtFn d) es ≤ 1048576) := hwt
  clear hx hn hwt
  obtain ⟨M, hM, hmk⟩ := make_row (t := 29) (e := 43) (c := 3) Tryz.underlying29 (by kernel_rfl) w n hnb
  have HO : Hid (Made w (w.alloc (.cells M 43)) w.heap.size n 43 3 (fun w => OFn w d) es 0 M.toList []) := Made.start hM (by unfold maxLen; omega)
  generalize hG : w.heap.size = G at *
  have HG : Hid (w.heap.size = G) := hG
  go_enter Tryz.func18, Tryz.ntmps18
  go_wp2
  go_loopw [4] (fun iv wr => ∃ (k : Nat) (xs : List Value) (fps : List (List Nat)), k ≤ n ∧ iv = .int .i64 k ∧ Hid (Made w wr G n 43 3 (fun w => OFn w d) es k xs fps)) (fun iv _ => n - (intOf iv).toNat)
  case atStart => exact ⟨0, M.toList, [], Nat.zero_le _, rfl, HO⟩
  case round =>
    obtain ⟨k, xs, fps, hk, rfl, HM⟩ := hrel
    by_cases hlt : k < n
    · obtain ⟨x, hxk⟩ : ∃ x, es[k]? = some x := ⟨es[k]'(by rw [HN.out]; exact hlt), List.getElem?_eq_getElem _⟩
      obtain ⟨g, off, rfl, hg, hgl, hat⟩ := HX.out (by intro h; rw [h] at hxk; simp at hxk)
      obtain ⟨cs, hcl6, hcs, hex⟩ := hat k x hxk
      have hbw : Below w.heap.size w wr := by rw [HG.out]; exact HM.out.below
      have hex' : ∀ w', SameOn All wr w' → HFn w' All d cs x := fun w' hw => hex.mono (SameOn.trans (SameOn.of_below hbw) hw) (fun _ h => h)
      obtain ⟨z0, z1, z2, rfl⟩ := len3 hcl6
      have a0 := hcs 0 (by omega)
      have a1 := hcs 1 (by omega)
      have a2 := hcs 2 (by omega)
      rw [← hbw.cell (p := ⟨g, _, none⟩) (by show g < w.heap.size; rw [HG.out]; exact hgl)] at a0 a1 a2
      simp at a0 a1 a2
      have hwx : wtFn d x ≤ 1048576 := by
        have h1 := HWT.out
        have h2 := sum_take_succ (wtFn d) es k x hxk
        have h3 := sum_take_le (wtFn d) es (k + 1)
        unfold wtS at h1
        omega
      clear hbw hcs hat hex hcl6
      go_wp2_with (go_at_call 39; go_must (refine (hE _ _ x ⟨_, rfl, hex' _ (by exact ⟨Nat.le_refl _, fun _ _ _ => rfl⟩)⟩ hwx).mono ?_; rintro e w1 ⟨u, fp, rfl, ⟨cs', rfl, hx1⟩, hnd, hrg, hb1⟩; obtain ⟨st, sk, p1, n1, q1, hsh⟩ := hx1.shape; subst hsh; have HB1 : Hid (Below wr.heap.size wr w1) := hb1; have HX1 : Hid (OFn w1 d [.string st, .int .i64 sk, .slice p1 n1 q1] x fp) := hx1; have HND : Hid fp.Nodup := hnd; have HRG : Hid (∀ a ∈ fp, wr.heap.size ≤ a ∧ a < w1.heap.size) := hrg; have o1 := HM.out.own.kept (grownBy_belowR (r := none) hb1) (Or.inr (by simp [Value.ownBlock])); have HO1 : Hid (w1.ownsRow G 43 3 (.slice (some ⟨G, 0, none⟩) n n) n xs) := o1; have f0 := o1.frozenAt (k * 3); obtain ⟨y0, g0⟩ := own_someR o1 (k * 3) (by omega); have f1 := o1.frozenAt (k * 3 + 1); obtain ⟨y1, g1⟩ := own_someR o1 (k * 3 + 1) (by omega); have f2 := o1.frozenAt (k * 3 + 2); obtain ⟨y2, g2⟩ := own_someR o1 (k * 3 + 2) (by omega); clear o1 hb1 hx1 hnd hrg))
      have sd := stored3 HO1.out (k * 3) (.string st) (.int .i64 sk) (.slice p1 n1 q1)
      have hlen : xs.length = n * 3 := HO1.out.1
      exact ⟨⟨k + 1, _, _, by omega, by go_num, Made.step (O := fun w => OFn w d) (c := 3) (fun w w' cs x f h hk => OFn.keep h hk) HM.out hxk HB1.out HX1.out HND.out HRG.out rfl sd.1 sd.2 (fun m hm => set3_other hm) (fun j hj => set3_self (by omega) j hj)⟩, by simp [intOf]; omega⟩
    · obtain rfl : k = n := by omega
      obtain ⟨fp, r1, r2, r3⟩ := HM.out.done HN.out (by unfold maxLen; omega)
      have R1 : Hid (ORows wr 43 3 (OFn wr d) (.slice (some ⟨G, 0, none⟩) k k) es fp) := r1
      have R2 : Hid (fp.Nodup ∧ ∀ a ∈ fp, G ≤ a ∧ a < wr.heap.size) := ⟨r2, r3⟩
      clear r1 r2 r3
      go_wp2
      go_ret
      exact ⟨_, fp, rfl, R1.out, R2.out.1, R2.out.2, HM.out.below⟩

set_option maxHeartbeats 4000000 in
theorem toRef_ofO {d : Nat} :
    ToO 38 (fun w v e => ∃ cs, v = .agg cs.toArray ∧ HRf cs e) (fun w v e fp => ∃ cs, v = .agg cs.toArray ∧ ORf w d cs e fp) (wtRf) := by
  intro w v e i1 hwt
  obtain ⟨cs, rfl, rfl, s0, s1⟩ := i1
  go_enter Tryz.func38, Tryz.ntmps38
  go_wp2
  exact bodyPost_ret (v := .agg #[.string e.name, .int .i64 e.arity]) (by simp [results, Tryz.results38, go_sem]) rfl ⟨_, [], rfl, ⟨_, rfl, ⟨rfl, s0, s1⟩, rfl⟩, by simp, fun a ha => by simp at ha, (((Below.refl _ _).alloc (Nat.le_refl _) _).alloc (by simp only [alloc_hs]; omega) _).alloc (by simp only [alloc_hs]; omega) _⟩

set_option maxHeartbeats 4000000 in
theorem toFun_ofO {d : Nat} (h0 : ToO 55 (fun w v es => Rows w All 2 (HCl w All (HEx w All d)) v es) (fun w v es fp => ORows w 48 2 (OCls w d) v es fp) (wtS (wtCl (wtEx d)))) :
    ToO 39 (fun w v e => ∃ cs, v = .agg cs.toArray ∧ HFn w All d cs e) (fun w v e fp => ∃ cs, v = .agg cs.toArray ∧ OFn w d cs e fp) (wtFn d) := by
  intro w v e i1 hwt
  obtain ⟨cs, rfl, v0, rfl, s0, s1, f0⟩ := i1
  have hw0 : wtS (wtCl (wtEx d)) e.clauses ≤ 1048576 := by unfold wtFn at hwt; omega
  have E0 : ∀ w', SameOn All w w' → Rows w' All 2 (HCl w' All (HEx w' All d)) v0 e.clauses := fun w' hw => f0.mono hw (fun _ h => h) (fun _ _ _ h => h.mono hw (fun _ h => h) (fun _ _ => HEx.mono hw (fun _ h => h)))
  obtain ⟨p0, c0, rfl, _⟩ := id f0
  clear f0
  go_enter Tryz.func39, Tryz.ntmps39
  go_wp2_with fail
  have hal : Below w.heap.size w (((w.alloc (.cells #[.string e.name, .int .i64 e.arity, .slice p0 e.clauses.length c0] 65)).alloc (.cells #[.string ⟨#[]⟩, .int .i64 0, .slice none 0 0] 43)).alloc (.cells #[.string e.name, .int .i64 e.arity, .slice none 0 0] 43)) := (((Below.refl _ _).alloc (Nat.le_refl _) _).alloc (by simp only [alloc_hs]; omega) _).alloc (by simp only [alloc_hs]; omega) _
  refine (h0 _ _ e.clauses (E0 _ (SameOn.of_below hal)) hw0).mono ?_
  rintro ex w1 ⟨u, fp, rfl, r0, hnd, hrg, hb⟩
  have bR := (Blk.new (w := (w.alloc (.cells #[.string e.name, .int .i64 e.arity, .slice p0 e.clauses.length c0] 65))) (cs := #[.string ⟨#[]⟩, .int .i64 0, .slice none 0 0]) (t := 43)).alloc (o := .cells #[.string e.name, .int .i64 e.arity, .slice none 0 0] 43)
  have bO := (Blk.new (w := ((w.alloc (.cells #[.string e.name, .int .i64 e.arity, .slice p0 e.clauses.length c0] 65)).alloc (.cells #[.string ⟨#[]⟩, .int .i64 0, .slice none 0 0] 43))) (cs := #[.string e.name, .int .i64 e.arity, .slice none 0 0]) (t := 43))
  simp only [alloc_hs] at bR bO hrg
  replace bR := bR.below hb (by simp only [alloc_hs]; omega)
  replace bO := bO.below hb (by simp only [alloc_hs]; omega)
  have HB1 : Hid (Below w.heap.size w w1) := hal.trans (hb.mono hal.size)
  have HND : Hid (fp.Nodup) := hnd
  have HRG : Hid (∀ a ∈ fp, w.heap.size + 1 + 1 + 1 ≤ a ∧ a < w1.heap.size) := hrg
  have T0 : Hid (ORows w1 48 2 (OCls w1 d) u e.clauses fp) := r0
  clear hal hb hnd hrg
  obtain ⟨p1, c1, hu, _⟩ := r0.shape
  subst hu
  clear r0
  have o0 := bO.cell 0 _ rfl
  have q0 := bR.cell 0 _ rfl
  have k0 := bR.frozen 0
  have o1 := bO.cell 1 _ rfl
  have q1 := bR.cell 1 _ rfl
  have k1 := bR.frozen 1
  have o2 := bO.cell 2 _ rfl
  have q2 := bR.cell 2 _ rfl
  have k2 := bR.frozen 2
  have g2 := bO.frozen 2
  clear bR bO
  go_wp2_with fail
  have sf : SameOn (fun g => w.heap.size + 1 + 1 + 1 ≤ g) w1 ((((w1.setCell ⟨w.heap.size + 1 + 1, 2, none⟩ (.slice p1 e.clauses.length c1)).setCell ⟨w.heap.size + 1, 0, none⟩ (.string e.name)).setCell ⟨w.heap.size + 1, 1, none⟩ (.int .i64 e.arity)).setCell ⟨w.heap.size + 1, 2, none⟩ (.slice p1 e.clauses.length c1)) := SameOn.setCell (SameOn.setCell (SameOn.setCell (SameOn.setCell (SameOn.of_below (Below.refl _ _)) (by show ¬ (_ ≤ w.heap.size + 1 + 1); omega) _) (by show ¬ (_ ≤ w.heap.size + 1); omega) _) (by show ¬ (_ ≤ w.heap.size + 1); omega) _) (by show ¬ (_ ≤ w.heap.size + 1); omega) _
  have bf : Below w.heap.size w ((((w1.setCell ⟨w.heap.size + 1 + 1, 2, none⟩ (.slice p1 e.clauses.length c1)).setCell ⟨w.heap.size + 1, 0, none⟩ (.string e.name)).setCell ⟨w.heap.size + 1, 1, none⟩ (.int .i64 e.arity)).setCell ⟨w.heap.size + 1, 2, none⟩ (.slice p1 e.clauses.length c1)) := Below.setCell (Below.setCell (Below.setCell (Below.setCell (HB1.out) (by show _ ≤ w.heap.size + 1 + 1; omega) _) (by show _ ≤ w.heap.size + 1; omega) _) (by show _ ≤ w.heap.size + 1; omega) _) (by show _ ≤ w.heap.size + 1; omega) _
  have kf : KeepOn fp w1 ((((w1.setCell ⟨w.heap.size + 1 + 1, 2, none⟩ (.slice p1 e.clauses.length c1)).setCell ⟨w.heap.size + 1, 0, none⟩ (.string e.name)).setCell ⟨w.heap.size + 1, 1, none⟩ (.int .i64 e.arity)).setCell ⟨w.heap.size + 1, 2, none⟩ (.slice p1 e.clauses.length c1)) := fun a ha => sf.2 a (HRG.out a ha).1 (HRG.out a ha).2
  exact bodyPost_ret (v := .agg #[.string e.name, .int .i64 e.arity, .slice p1 e.clauses.length c1]) (by simp [results, Tryz.results39, go_sem, q0, q1, q2]) rfl
    ⟨_, fp, rfl, ⟨_, rfl, _, rfl, s0, s1, T0.out.keep kf (fun cs x f _ hs h => OCls.keep h (kf.sub hs))⟩, HND.out, fun a ha => ⟨by have := (HRG.out a ha).1; omega, Nat.lt_of_lt_of_le (HRG.out a ha).2 sf.1⟩, bf⟩

set_option maxHeartbeats 4000000 in
theorem toModule_ofO {d : Nat} (h0 : ToO 17 (fun w v es => Rows w All 2 (HRf) v es) (fun w v es fp => ORows w 50 2 (ORf w d) v es fp) (wtS (wtRf))) (h1 : ToO 18 (fun w v es => Rows w All 3 (HFn w All d) v es) (fun w v es fp => ORows w 43 3 (OFn w d) v es fp) (wtS (wtFn d))) :
    ToO 6 (fun w v e => ∃ cs, v = .agg cs.toArray ∧ HMd w All d cs e) (fun w v e fp => ∃ cs, v = .agg cs.toArray ∧ OMd w d cs e fp) (wtMd d) := by
  intro w v e i1 hwt
  obtain ⟨cs, rfl, v0, v1, rfl, s0, f0, f1⟩ := i1
  have hw0 : wtS (wtRf) e.exports ≤ 1048576 := by unfold wtMd at hwt; omega
  have E0 : ∀ w', SameOn All w w' → Rows w' All 2 (HRf) v0 e.exports := fun w' hw => f0.mono hw (fun _ h => h) (fun _ _ _ h => h)
  have hw1 : wtS (wtFn d) e.funs ≤ 1048576 := by unfold wtMd at hwt; omega
  have E1 : ∀ w', SameOn All w w' → Rows w' All 3 (HFn w' All d) v1 e.funs := fun w' hw => f1.mono hw (fun _ h => h) (fun _ _ _ h => h.mono hw (fun _ h => h))
  obtain ⟨p0, c0, rfl, _⟩ := id f0
  obtain ⟨p1, c1, rfl, _⟩ := id f1
  clear f0 f1
  go_enter Tryz.func6, Tryz.ntmps6
  go_wp2_with fail
  have hal : Below w.heap.size w (((w.alloc (.cells #[.string e.name, .slice p0 e.exports.length c0, .slice p1 e.funs.length c1] 25)).alloc (.cells #[.string ⟨#[]⟩, .slice none 0 0, .slice none 0 0] 31)).alloc (.cells #[.string e.name, .slice none 0 0, .slice none 0 0] 31)) := (((Below.refl _ _).alloc (Nat.le_refl _) _).alloc (by simp only [alloc_hs]; omega) _).alloc (by simp only [alloc_hs]; omega) _
  refine (h0 _ _ e.exports (E0 _ (SameOn.of_below hal)) hw0).mono ?_
  rintro ex w1 ⟨u, fA, rfl, r0, ndA, rgA, hb⟩
  have bA := ((Blk.new (w := w) (cs := #[.string e.name, .slice p0 e.exports.length c0, .slice p1 e.funs.length c1]) (t := 25)).alloc (o := .cells #[.string ⟨#[]⟩, .slice none 0 0, .slice none 0 0] 31)).alloc (o := .cells #[.string e.name, .slice none 0 0, .slice none 0 0] 31)
  have bR := (Blk.new (w := (w.alloc (.cells #[.string e.name, .slice p0 e.exports.length c0, .slice p1 e.funs.length c1] 25))) (cs := #[.string ⟨#[]⟩, .slice none 0 0, .slice none 0 0]) (t := 31)).alloc (o := .cells #[.string e.name, .slice none 0 0, .slice none 0 0] 31)
  have bO := (Blk.new (w := ((w.alloc (.cells #[.string e.name, .slice p0 e.exports.length c0, .slice p1 e.funs.length c1] 25)).alloc (.cells #[.string ⟨#[]⟩, .slice none 0 0, .slice none 0 0] 31))) (cs := #[.string e.name, .slice none 0 0, .slice none 0 0]) (t := 31))
  simp only [alloc_hs] at bA bR bO rgA
  replace bA := bA.below hb (by simp only [alloc_hs]; omega)
  replace bR := bR.below hb (by simp only [alloc_hs]; omega)
  replace bO := bO.below hb (by simp only [alloc_hs]; omega)
  have B1 : Below w.heap.size w w1 := hal.trans (hb.mono hal.size)
  have z1 : w.heap.size + 3 ≤ w1.heap.size := by have := hb.size; simp only [alloc_hs] at this; omega
  have Z1 : Hid (w.heap.size + 3 ≤ w1.heap.size) := z1
  have T0 : Hid (ORows w1 50 2 (ORf w1 d) u e.exports fA) := r0
  have NA : Hid (fA.Nodup) := ndA
  have GA : Hid (∀ a ∈ fA, w.heap.size + 1 + 1 + 1 ≤ a ∧ a < w1.heap.size) := rgA
  clear hal hb z1 ndA rgA
  obtain ⟨p0', c0', hu, _⟩ := r0.shape
  subst hu
  clear r0
  have a2 := bA.cell 2 _ rfl
  have o1 := bO.cell 1 _ rfl
  have g1 := bO.frozen 1
  have HA : Hid (Blk w1 w.heap.size #[.string e.name, .slice p0 e.exports.length c0, .slice p1 e.funs.length c1] 25) := bA
  have HR : Hid (Blk w1 (w.heap.size + 1) #[.string ⟨#[]⟩, .slice none 0 0, .slice none 0 0] 31) := bR
  have HO : Hid (Blk w1 (w.heap.size + 1 + 1) #[.string e.name, .slice none 0 0, .slice none 0 0] 31) := bO
  have HB1 : Hid (Below w.heap.size w w1) := B1
  clear bA bR bO B1
  go_wp2_with fail
  have hp : Below w.heap.size w (w1.setCell ⟨w.heap.size + 1 + 1, 1, none⟩ (.slice p0' e.exports.length c0')) := HB1.out.setCell (by show _ ≤ w.heap.size + 1 + 1; omega) _
  refine (h1 _ _ e.funs (E1 _ (SameOn.of_below hp)) hw1).mono ?_
  rintro ex w2 ⟨u, fB, rfl, r1, ndB, rgB, hb⟩
  have bA := ((HA.out.other (p := ⟨w.heap.size + 1 + 1, 1, none⟩) (v := (.slice p0' e.exports.length c0')) (by show w.heap.size ≠ w.heap.size + 1 + 1; omega)).below hb (by have := Z1.out; simp only [setCell_hs]; omega))
  have bR := ((HR.out.other (p := ⟨w.heap.size + 1 + 1, 1, none⟩) (v := (.slice p0' e.exports.length c0')) (by show w.heap.size + 1 ≠ w.heap.size + 1 + 1; omega)).below hb (by have := Z1.out; simp only [setCell_hs]; omega))
  have bO := ((HO.out.same (j := 1) (v := (.slice p0' e.exports.length c0')) (cs' := #[.string e.name, .slice p0' e.exports.length c0', .slice none 0 0]) rfl).below hb (by have := Z1.out; simp only [setCell_hs]; omega))
  have B2 : Below w.heap.size w w2 := hp.trans (hb.mono hp.size)
  simp only [setCell_hs] at rgB
  have k01 : KeepOn fA w1 w2 := fun a ha => by
    have h := GA.out a ha
    exact (hb.block a (by simp only [setCell_hs]; exact h.2)).trans (Below.heap_setCell _ _ _ _ (by show a ≠ w.heap.size + 1 + 1; omega))
  have T0 : Hid (ORows w2 50 2 (ORf w2 d) (.slice p0' e.exports.length c0') e.exports fA) := by have h := T0.out; exact h.keep k01 (fun cs x f _ hs h => h)
  have T1 : Hid (ORows w2 43 3 (OFn w2 d) u e.funs fB) := r1
  have sz2 : w1.heap.size ≤ w2.heap.size := by have := hb.size; simp only [setCell_hs] at this; exact this
  have HND : Hid ((fA ++ fB).Nodup) := by
    show List.Nodup _
    rw [List.nodup_append]
    exact ⟨NA.out, ndB, fun a ha b hb => by have := GA.out a ha; have := rgB b hb; omega⟩
  have HRG : Hid (∀ a ∈ fA ++ fB, w.heap.size + 1 + 1 + 1 ≤ a ∧ a < w2.heap.size) := fun a ha => by
    rcases List.mem_append.1 ha with ha | ha
    · have := GA.out a ha; omega
    · have := rgB a ha; have := Z1.out; omega
  have HB2 : Hid (Below w.heap.size w w2) := B2
  obtain ⟨p1', c1', hu, _⟩ := r1.shape
  subst hu
  clear hp hb r1 HA HR HO HB1 k01 ndB rgB NA GA sz2 B2
  have o0 := bO.cell 0 _ rfl
  have q0 := bR.cell 0 _ rfl
  have k0 := bR.frozen 0
  have o1 := bO.cell 1 _ rfl
  have q1 := bR.cell 1 _ rfl
  have k1 := bR.frozen 1
  have o2 := bO.cell 2 _ rfl
  have q2 := bR.cell 2 _ rfl
  have k2 := bR.frozen 2
  have g2 := bO.frozen 2
  clear bA bR bO
  go_wp2_with fail
  have sf : SameOn (fun g => w.heap.size + 1 + 1 + 1 ≤ g) w2 ((((w2.setCell ⟨w.heap.size + 1 + 1, 2, none⟩ (.slice p1' e.funs.length c1')).setCell ⟨w.heap.size + 1, 0, none⟩ (.string e.name)).setCell ⟨w.heap.size + 1, 1, none⟩ (.slice p0' e.exports.length c0')).setCell ⟨w.heap.size + 1, 2, none⟩ (.slice p1' e.funs.length c1')) := SameOn.setCell (SameOn.setCell (SameOn.setCell (SameOn.setCell (SameOn.of_below (Below.refl _ _)) (by show ¬ (_ ≤ w.heap.size + 1 + 1); omega) _) (by show ¬ (_ ≤ w.heap.size + 1); omega) _) (by show ¬ (_ ≤ w.heap.size + 1); omega) _) (by show ¬ (_ ≤ w.heap.size + 1); omega) _
  have bf : Below w.heap.size w ((((w2.setCell ⟨w.heap.size + 1 + 1, 2, none⟩ (.slice p1' e.funs.length c1')).setCell ⟨w.heap.size + 1, 0, none⟩ (.string e.name)).setCell ⟨w.heap.size + 1, 1, none⟩ (.slice p0' e.exports.length c0')).setCell ⟨w.heap.size + 1, 2, none⟩ (.slice p1' e.funs.length c1')) := Below.setCell (Below.setCell (Below.setCell (Below.setCell (HB2.out) (by show _ ≤ w.heap.size + 1 + 1; omega) _) (by show _ ≤ w.heap.size + 1; omega) _) (by show _ ≤ w.heap.size + 1; omega) _) (by show _ ≤ w.heap.size + 1; omega) _
  have kf : KeepOn (fA ++ fB) w2 ((((w2.setCell ⟨w.heap.size + 1 + 1, 2, none⟩ (.slice p1' e.funs.length c1')).setCell ⟨w.heap.size + 1, 0, none⟩ (.string e.name)).setCell ⟨w.heap.size + 1, 1, none⟩ (.slice p0' e.exports.length c0')).setCell ⟨w.heap.size + 1, 2, none⟩ (.slice p1' e.funs.length c1')) := fun a ha => sf.2 a (HRG.out a ha).1 (HRG.out a ha).2
  have kA := kf.sub (fp' := fA) (fun a ha => by simp [ha])
  have kB := kf.sub (fp' := fB) (fun a ha => by simp [ha])
  have U0 := T0.out.keep kA (fun cs x f _ hs h => h)
  have U1 := T1.out.keep kB (fun cs x f _ hs h => h.keep (kB.sub hs))
  exact bodyPost_ret (v := .agg #[.string e.name, .slice p0' e.exports.length c0', .slice p1' e.funs.length c1']) (by simp [results, Tryz.results6, go_sem, q0, q1, q2]) rfl
    ⟨_, fA ++ fB, rfl, ⟨_, rfl, _, _, fA, fB, rfl, rfl, s0, U0, U1⟩, HND.out, fun a ha => ⟨by have := (HRG.out a ha).1; omega, Nat.lt_of_lt_of_le (HRG.out a ha).2 sf.1⟩, bf⟩

theorem toModule_own (d : Nat) : ToO 6 (fun w v e => ∃ cs, v = .agg cs.toArray ∧ HMd w All d cs e) (fun w v e fp => ∃ cs, v = .agg cs.toArray ∧ OMd w d cs e fp) (wtMd d) :=
  toModule_ofO (toRefS_ofO (toRef_ofO (d := d))) (toFunS_ofO (toFun_ofO (toClauseS_own d)))
end Go.Proofs.YtpkhblhcdnohmaaGreatDoor
/-
  What the laws' own markText answers: m and the decimal text of a number from 1 on. Condition: the number is one of 1 .. 2^40.
-/
namespace Go.Proofs.YtpkhblhcdnohmaaGreatDoor
open Go.ChangeShapes Go.WideShapes Go.ChangeAt Go.RowKit
set_option linter.unusedVariables false

theorem ret_strM {a b : List UInt8} (h : a = b) : Ending.returned (.string ⟨a.toArray⟩) = .returned (.string ⟨b.toArray⟩) := by rw [h]

theorem mk_length_le : ∀ (k u : Nat), u < 10 ^ (k + 1) → (Lib.decDigits u).length ≤ k + 1
  | 0, u, h => by
    rw [Lib.decDigits, dif_pos (by simpa using h)]; simp
  | k + 1, u, h => by
    by_cases hu : u < 10
    · rw [Lib.decDigits, dif_pos hu]; simp
    · rw [Lib.decDigits, dif_neg hu, List.length_append]
      have := mk_length_le k (u / 10) (by rw [Nat.div_lt_iff_lt_mul (by omega)]; rw [Nat.pow_succ] at h; exact h)
      simp only [List.length_cons, List.length_nil]; omega
theorem mk_step (x : Nat) (l D : List UInt8) (h : Lib.decDigits x ++ l = D) :
    (x / 10 ≠ 0 → Lib.decDigits (x / 10) ++ ((48 + UInt8.ofNat (x % 10)) :: l) = D) ∧ (x / 10 = 0 → (48 + UInt8.ofNat (x % 10)) :: l = D) := by
  have e : ∀ m : Nat, (48 + UInt8.ofNat m) = UInt8.ofNat (48 + m) := fun m => (UInt8.ofNat_add 48 m).symm
  rw [e]
  refine ⟨fun h0 => ?_, fun h0 => ?_⟩
  · rw [Lib.decDigits, dif_neg (by omega)] at h
    rw [← h]; simp
  · rw [Lib.decDigits, dif_pos (by omega)] at h
    rw [← h, Nat.mod_eq_of_lt (by omega)]; rfl
theorem mk_cons (c : UInt8) (l : List UInt8) : ((⟨#[c]⟩ : ByteArray) ++ ⟨l.toArray⟩) = ⟨(c :: l).toArray⟩ := by
  apply ByteArray.ext; simp
theorem mk_conv (wr : World) (x : Nat) :
    Sem.run Tryz.prog (convert 86 9 (.slice (some ⟨wr.heap.size, 0, none⟩) 1 1)) (wr.alloc (.cells #[.int .u8 (48 + (x : Int) % 10)] 5)) =
      .ok (.string ⟨#[UInt8.ofNat (48 + x % 10)]⟩) (wr.alloc (.cells #[.int .u8 (48 + (x : Int) % 10)] 5)) := by
  refine Go.run_convert_bytes_back (P := Tryz.prog) _ _ _ 5 ⟨wr.heap.size, 0, none⟩ 1 [UInt8.ofNat (48 + x % 10)] Tryz.underlying86 Tryz.underlying5 Tryz.underlying9 ?_
  intro j hj
  simp only [List.length_cons, List.length_nil] at hj
  obtain rfl : j = 0 := by omega
  have e : (UInt8.ofNat (48 + x % 10)).toNat = 48 + x % 10 := by
    rw [UInt8.toNat_ofNat']; omega
  simp only [List.getElem_cons_zero, e]
  simp [Addr.add]

set_option maxHeartbeats 1000000 in
theorem markText_any (n : Nat) (w : World) (h0 : 1 ≤ n) (h1 : n ≤ 1099511627776) :
    Calls Tryz.prog 26 #[.int .i64 n] w fun e w' => e = .returned (.string ⟨(109 :: Lib.decDigits n).toArray⟩) ∧ Below w.heap.size w w' := by
  have hD : (Lib.decDigits n).length ≤ 13 := mk_length_le 12 n (by omega)
  have hz : ¬ n = 0 := by omega
  go_enter Tryz.func26, Tryz.ntmps26
  go_wp2
  go_loopw [0, 3] (fun m o wr => ∃ (x : Nat) (l : List UInt8), m = .int .i64 x ∧ o = .string ⟨l.toArray⟩ ∧ x ≤ n ∧ (x ≠ 0 → Lib.decDigits x ++ l = Lib.decDigits n) ∧ (x = 0 → l = Lib.decDigits n) ∧ Below w.heap.size w wr) (fun m _ _ => (intOf m).toNat)
  case atStart => exact ⟨n, [], rfl, rfl, Nat.le_refl _, fun _ => by simp, fun h => by omega, Below.refl _ _⟩
  case round =>
    obtain ⟨x, l, rfl, rfl, hx, hr1, hr2, hb⟩ := hrel
    have H1 : Hid (x ≠ 0 → Lib.decDigits x ++ l = Lib.decDigits n) := hr1
    have H2 : Hid (x = 0 → l = Lib.decDigits n) := hr2
    have HB : Hid (Below w.heap.size w wr) := hb
    clear hr1 hr2 hb
    by_cases hxz : 0 < x
    · have hcat := H1.out (by omega)
      have hll : l.length ≤ 20 := by have := congrArg List.length hcat; rw [List.length_append] at this; omega
      have HS : Hid _ := mk_step x l _ hcat
      have hcv := mk_conv wr x
      clear hcat H1 H2 hD
      go_wp2
      refine ⟨⟨x / 10, _, by go_num, by rw [mk_cons], by omega, HS.out.1, HS.out.2, HB.out.alloc HB.out.size _⟩, ?_⟩
      simp only [intOf]; omega
    · have hl : l = Lib.decDigits n := H2.out (by omega)
      have hll : l.length ≤ 20 := by rw [hl]; omega
      have HL : Hid (l = Lib.decDigits n) := hl
      clear hl hD
      go_wp2
      go_ret
      exact ⟨by rw [mk_cons]; exact ret_strM (by rw [HL.out]), HB.out⟩
end Go.Proofs.YtpkhblhcdnohmaaGreatDoor
/-
  The laws' markExp and markClause: numbers and texts are written into a tree that owns its memory, and nothing else turns.
-/
namespace Go.Proofs.YtpkhblhcdnohmaaGreatDoor
open Go.ChangeShapes Go.WideShapes Go.ChangeAt Go.RowKit
set_option linter.unusedVariables false

def mtext (n : Nat) : ByteArray := ⟨(109 :: Lib.decDigits n).toArray⟩
theorem mtext_ok {n : Nat} (h : n ≤ 1099511627776) : okS (mtext n) := by
  have hD : (Lib.decDigits n).length ≤ 13 := mk_length_le 12 n (by omega)
  unfold okS mtext maxLen
  show (109 :: Lib.decDigits n).toArray.size ≤ _
  simp; omega
theorem nat_ok {n : Nat} (h : n ≤ 1099511627776) : okI n := by
  show (Lit.int .i64 (n : Int)).wf = true
  have h1 : (n : Int) ≤ 1099511627776 := by omega
  have h0 : (0 : Int) ≤ n := by omega
  generalize (n : Int) = z at h1 h0
  simp only [Lit.wf, Bool.and_eq_true, decide_eq_true_eq]
  exact ⟨Int.le_trans (by decide) h0, Int.le_trans h1 (by decide)⟩
theorem markText_at {w : World} (n : Nat) (z : Int) (hz : z = n) (h0 : 1 ≤ n) (h1 : n ≤ 1099511627776) :
    Calls Tryz.prog 26 #[.int .i64 z] w fun e w' => e = .returned (.string (mtext n)) ∧ Below w.heap.size w w' := by
  subst hz; exact markText_any n w h0 h1

def cntC (f : Ex → Nat) (c : Cl) : Nat := (c.1.map f).sum + (c.2.map f).sum
def cntE : Nat → Ex → Nat
  | 0, _ => 0
  | d + 1, e => 4 + (e.kids.map (cntE d)).sum + (e.clauses.map (cntC (cntE d))).sum
def markC (m : Nat → Ex → Ex) (f : Ex → Nat) (k : Nat) (c : Cl) : Cl := (markL m f k c.1, markL m f (k + (c.1.map f).sum) c.2)
def markE : Nat → Nat → Ex → Ex
  | 0, _, e => e
  | d + 1, k, e => .mk k (k + 1) (mtext (k + 2)) (mtext (k + 3)) (markL (markE d) (cntE d) (k + 4) e.kids) (markL (markC (markE d) (cntE d)) (cntC (cntE d)) (k + 4 + (e.kids.map (cntE d)).sum) e.clauses)

/-- What markExpS answers and leaves. -/
def MarkES (d : Nat) : Prop :=
  ∀ (w : World) (v : Value) (es : List Ex) (fp : List Nat) (k : Nat), ORows w 73 6 (OEx w d) v es fp → fp.Nodup → 1 ≤ k → k + (es.map (cntE d)).sum ≤ 1099511627776 →
    Calls Tryz.prog 68 #[v, .int .i64 k] w fun e w' => e = .returned (.int .i64 ((k + (es.map (cntE d)).sum : Nat) : Int)) ∧ ORows w' 73 6 (OEx w' d) v (markL (markE d) (cntE d) k es) fp ∧ Off fp w w'
def MarkCS (d : Nat) : Prop :=
  ∀ (w : World) (v : Value) (es : List Cl) (fp : List Nat) (k : Nat), ORows w 48 2 (OCls w d) v es fp → fp.Nodup → 1 ≤ k → k + (es.map (cntC (cntE d))).sum ≤ 1099511627776 →
    Calls Tryz.prog 46 #[v, .int .i64 k] w fun e w' => e = .returned (.int .i64 ((k + (es.map (cntC (cntE d))).sum : Nat) : Int)) ∧ ORows w' 48 2 (OCls w' d) v (markL (markC (markE d) (cntE d)) (cntC (cntE d)) k es) fp ∧ Off fp w w'
theorem MarkES.at {d : Nat} (h : MarkES d) {w : World} {v : Value} (es : List Ex) (fp : List Nat) (k : Nat) (z : Int) (hz : z = k) (ho : ORows w 73 6 (OEx w d) v es fp) (hn : fp.Nodup) (h1 : 1 ≤ k) (hb : k + (es.map (cntE d)).sum ≤ 1099511627776) :
    Calls Tryz.prog 68 #[v, .int .i64 z] w fun e w' => e = .returned (.int .i64 ((k + (es.map (cntE d)).sum : Nat) : Int)) ∧ ORows w' 73 6 (OEx w' d) v (markL (markE d) (cntE d) k es) fp ∧ Off fp w w' := by
  subst hz; exact h w v es fp k ho hn h1 hb
theorem MarkCS.at {d : Nat} (h : MarkCS d) {w : World} {v : Value} (es : List Cl) (fp : List Nat) (k : Nat) (z : Int) (hz : z = k) (ho : ORows w 48 2 (OCls w d) v es fp) (hn : fp.Nodup) (h1 : 1 ≤ k) (hb : k + (es.map (cntC (cntE d))).sum ≤ 1099511627776) :
    Calls Tryz.prog 46 #[v, .int .i64 z] w fun e w' => e = .returned (.int .i64 ((k + (es.map (cntC (cntE d))).sum : Nat) : Int)) ∧ ORows w' 48 2 (OCls w' d) v (markL (markC (markE d) (cntE d)) (cntC (cntE d)) k es) fp ∧ Off fp w w' := by
  subst hz; exact h w v es fp k ho hn h1 hb

set_option maxHeartbeats 16000000 in
theorem MarkCS_of {d : Nat} (ihE : MarkES d) : MarkCS d := by
  intro w v es fp k h hnd hk1 hkb
  obtain ⟨p, cap, rfl, hcl, hcm⟩ := h.shape
  have hnb : es.length ≤ 9223372036854775807 := by unfold maxLen at hcm; omega
  have HL : Hid ((markL (markC (markE d) (cntE d)) (cntC (cntE d)) k es).length = es.length) := markL_length _ _ _ _
  have HO : Hid (ORows w 48 2 (OCls w d) (.slice p es.length cap) es fp) := h
  have HND : Hid fp.Nodup := hnd
  have HKB : Hid (k + (es.map (cntC (cntE d))).sum ≤ 1099511627776) := hkb
  generalize hn : es.length = n at *
  have HN : Hid (es.length = n) := hn
  clear h hnd hn hkb
  go_enter Tryz.func46, Tryz.ntmps46
  go_wp2
  go_loopw [1, 5] (fun kv iv wr => ∃ i kk : Nat, i ≤ n ∧ iv = .int .i64 i ∧ kv = .int .i64 kk ∧ Hid (kk = k + ((es.take i).map (cntC (cntE d))).sum) ∧ Hid (ORows wr 48 2 (OCls wr d) (.slice p n cap) (mix i (markL (markC (markE d) (cntE d)) (cntC (cntE d)) k es) es) fp) ∧ Hid (Off fp w wr)) (fun _ iv _ => n - (intOf iv).toNat)
  case atStart => exact ⟨0, k, Nat.zero_le _, rfl, rfl, (by show k = _; simp), (by show ORows _ _ _ _ _ _ _; rw [mix_zero]; exact HO.out), Off.refl _ _⟩
  case round =>
    obtain ⟨i, kk, hi, rfl, rfl, HK, HR, HF⟩ := hrel
    by_cases hlt : i < n
    · obtain ⟨x, hxi⟩ : ∃ x, es[i]? = some x := ⟨es[i]'(by rw [HN.out]; exact hlt), List.getElem?_eq_getElem _⟩
      have hml : (mix i (markL (markC (markE d) (cntE d)) (cntC (cntE d)) k es) es).length = n := by rw [mix_length (by rw [HL.out, HN.out]), HN.out]
      have hmx : (mix i (markL (markC (markE d) (cntE d)) (cntC (cntE d)) k es) es)[i]? = some x := by rw [mix_at (by rw [HL.out, HN.out]) (by rw [HN.out]; exact hlt)]; exact hxi
      have HMX : Hid ((mix i (markL (markC (markE d) (cntE d)) (cntC (cntE d)) k es) es).length = n) := hml
      rcases HR.out with hnil | ⟨hne, cells, g, cap', fps, ho, hv, hl, hfp, hat⟩
      · rw [hnil.1] at hml; simp at hml; omega
      rw [hml] at ho hv hl
      obtain ⟨f, hf⟩ : ∃ f, fps[i]? = some f := ⟨fps[i]'(by rw [hl]; exact hlt), List.getElem?_eq_getElem _⟩
      obtain ⟨cs, hcs4, hcs, hx⟩ := hat i x f hmx hf
      cases hv
      have hlc : cells.length = n * 2 := ho.1
      have hnp := nodup_parts (hfp ▸ HND.out)
      have hsum : ((es.take (i + 1)).map (cntC (cntE d))).sum = ((es.take i).map (cntC (cntE d))).sum + cntC (cntE d) x := sum_take_succ _ es i x hxi
      have hle : ((es.take (i + 1)).map (cntC (cntE d))).sum ≤ (es.map (cntC (cntE d))).sum := sum_take_le _ es (i + 1)
      have hkk := HK.out
      have hkb := HKB.out
      have hg0 : g ∈ fp := by rw [hfp]; simp
      have hfs : ∀ a ∈ f, a ∈ fp := fun a ha => by rw [hfp]; exact List.mem_cons_of_mem _ (List.mem_flatten.2 ⟨f, List.mem_of_getElem? hf, ha⟩)
      have hgf : g ∉ f := (hnp.1 f (List.mem_of_getElem? hf)).1
      have hfn : f.Nodup := (hnp.1 f (List.mem_of_getElem? hf)).2
      have HMI : Hid ((markL (markC (markE d) (cntE d)) (cntC (cntE d)) k es)[i]? = some ((markC (markE d) (cntE d)) kk x)) := by
        show _ = _
        rw [markL_at _ _ _ _ _ _ hxi, ← HK.out]
      have HAT : Hid (∀ (j : Nat) y f', (mix i (markL (markC (markE d) (cntE d)) (cntC (cntE d)) k es) es)[j]? = some y → fps[j]? = some f' → ∃ cs : List Value, cs.length = 2 ∧ (∀ q, q < 2 → cells[j * 2 + q]? = cs[q]?) ∧ OCls wr d cs y f') := hat
      have HNP : Hid (∀ (i j : Nat) f f', i ≠ j → fps[i]? = some f → fps[j]? = some f' → ∀ a ∈ f, a ∉ f') := hnp.2
      have HNG : Hid (∀ f ∈ fps, g ∉ f ∧ f.Nodup) := hnp.1
      have HFP : Hid (fp = g :: fps.flatten) := hfp
      have HNE : Hid (mix i (markL (markC (markE d) (cntE d)) (cntC (cntE d)) k es) es ≠ []) := hne
      have HFS : Hid ((∀ a ∈ f, a ∈ fp) ∧ g ∈ fp ∧ g ∉ f ∧ f.Nodup) := ⟨hfs, hg0, hgf, hfn⟩
      have hki : (i : Int) < (n : Int) := by omega
      have hi0 : (0 : Int) ≤ (i : Int) := by omega
      clear hat hnp hfp hne hfs hg0 hgf hfn hml hmx HKB HO
      obtain ⟨pv, bv, f1, f2, rfl, rfl, hp, hbd⟩ := hx
      obtain ⟨pp, cp, hpv, _⟩ := hp.shape
      subst hpv
      obtain ⟨pb, cb, hbv, _⟩ := hbd.shape
      subst hbv
      have a0 := (ho.cellAt (i * 2) (by omega)).trans (hcs 0 (by omega))
      have a1 := (ho.cellAt (i * 2 + 1) (by omega)).trans (hcs 1 (by omega))
      simp at a0 a1
      have hcx : cntC (cntE d) x = (x.1.map (cntE d)).sum + (x.2.map (cntE d)).sum := rfl
      have hn12 := List.nodup_append.1 HFS.out.2.2.2
      have HP : Hid (ORows wr 73 6 (OEx wr d) (.slice pp x.1.length cp) x.1 f1) := hp
      have HBD : Hid (ORows wr 73 6 (OEx wr d) (.slice pb x.2.length cb) x.2 f2) := hbd
      have HOW : Hid (wr.ownsRow 0 48 2 (.slice (some ⟨g, 0, none⟩) n cap) n cells) := ho
      have HCS : Hid (∀ (j : Nat), j < 2 → cells[i * 2 + j]? = [Value.slice pp x.1.length cp, .slice pb x.2.length cb][j]?) := hcs
      have HN12 : Hid (∀ a ∈ f1, ∀ b ∈ f2, a ≠ b) := hn12.2.2
      have HSUM : Hid (k + ((es.take (i + 1)).map (cntC (cntE d))).sum = kk + (x.1.map (cntE d)).sum + (x.2.map (cntE d)).sum) := by show _ = _; omega
      have hk1' : kk + (x.1.map (cntE d)).sum ≤ 1099511627776 := by omega
      have hk2' : kk + (x.1.map (cntE d)).sum + (x.2.map (cntE d)).sum ≤ 1099511627776 := by omega
      have hgl : g < wr.heap.size := owns_lt ho rfl
      have HK2 : Hid (kk + (x.1.map (cntE d)).sum + (x.2.map (cntE d)).sum ≤ 1099511627776) := hk2'
      have HK1 : Hid (kk + (x.1.map (cntE d)).sum ≤ 1099511627776) := hk1'
      have hk11 : 1 ≤ kk := by omega
      clear hp hbd ho hcs hcs4 hsum hle hkk hkb hcx hk1' hk2'
      go_wp2_with fail
      refine (ihE.at x.1 f1 kk _ rfl HP.out hn12.1 hk11 HK1.out).mono ?_
      rintro e w1 ⟨rfl, r1, off1⟩
      have a1' : w1.cell? ⟨g, i * 2 + 1, none⟩ = some (.slice pb x.2.length cb) := (World.cell?_of_block (off1.block g hgl (fun hm => HFS.out.2.2.1 (by simp [hm])))).trans a1
      have k2 : KeepOn f2 wr w1 := off1.keep (fun a ha => ⟨HBD.out.lt (fun _ _ _ h => h.lt) a ha, fun hm => HN12.out a hm a ha rfl⟩)
      have HBD1 : Hid (ORows w1 73 6 (OEx w1 d) (.slice pb x.2.length cb) x.2 f2) := HBD.out.keep k2 (fun cs x f _ hs h => h.keep (k2.sub hs))
      have R1 : Hid (ORows w1 73 6 (OEx w1 d) (.slice pp x.1.length cp) (markL (markE d) (cntE d) kk x.1) f1) := r1
      have OF1 : Hid (Off f1 wr w1) := off1
      clear r1 off1 k2 a0 a1
      generalize hk2g : kk + (x.1.map (cntE d)).sum = k2 at *
      have HK2G : Hid (kk + (x.1.map (cntE d)).sum = k2) := hk2g
      have hk21 : 1 ≤ k2 := by omega
      clear hk2g
      go_wp2_with fail
      refine (ihE.at x.2 f2 k2 _ rfl HBD1.out hn12.2.1 hk21 HK2.out).mono ?_
      rintro e w2 ⟨rfl, r2, off2⟩
      have hoff : Off (f1 ++ f2) wr w2 := (OF1.out.sub (fun a ha => by simp [ha])).trans (off2.sub (fun a ha => by simp [ha]))
      have hown : w2.ownsRow 0 48 2 (.slice (some ⟨g, 0, none⟩) n cap) n cells := owns_block HOW.out rfl (hoff.block g hgl HFS.out.2.2.1)
      have k1 : KeepOn f1 w1 w2 := off2.keep (fun a ha => ⟨R1.out.lt (fun _ _ _ h => h.lt) a ha, fun hm => HN12.out a ha a hm rfl⟩)
      have hset := ORows.set (R := OCls wr d) (R' := OCls w2 d) (x' := markC (markE d) (cntE d) kk x) (i := i) (f := f1 ++ f2) HNE.out (by rw [HMX.out]; exact hown) (by rw [HMX.out]) (by rw [HMX.out]; exact hl) HAT.out hf
        (fun m hm => rfl) [.slice pp x.1.length cp, .slice pb x.2.length cb] rfl (fun j hj => HCS.out j hj)
        ⟨_, _, f1, f2, rfl, rfl, R1.out.keep k1 (fun cs x f _ hs h => h.keep (k1.sub hs)), by rw [← HK2G.out] at r2; exact r2⟩
        (fun j y f' cs hj hf' h => OCls.keep h (fun a ha => by
          have h3 := HNP.out j i f' _ hj hf' hf a ha
          exact hoff.block a (OCl.lt' h (fun _ _ _ h => h.lt) a ha) h3))
      rw [mix_succ (by rw [HL.out, HN.out]) HMI.out, ← HFP.out] at hset
      have HSET : Hid (ORows w2 48 2 (OCls w2 d) (.slice (some ⟨g, 0, none⟩) n cap) (mix (i + 1) (markL (markC (markE d) (cntE d)) (cntC (cntE d)) k es) es) fp) := hset
      have HF2 : Hid (Off fp w w2) := HF.out.trans (hoff.sub HFS.out.1)
      clear hset hown r2 off2 hoff k1
      go_wp2_with fail
      exact ⟨⟨i + 1, k2 + (x.2.map (cntE d)).sum, by omega, by go_num, rfl, HSUM.out.symm, HSET, HF2⟩, by simp [intOf]; omega⟩
    · obtain rfl : i = n := by omega
      have HE : Hid (kk = k + (es.map (cntC (cntE d))).sum) := by
        have := HK.out
        rw [List.take_of_length_le (by rw [HN.out]; exact Nat.le_refl _)] at this
        exact this
      have HR2 : Hid (ORows wr 48 2 (OCls wr d) (.slice p i cap) (markL (markC (markE d) (cntE d)) (cntC (cntE d)) k es) fp) := by
        have := HR.out
        rw [mix_all (by rw [HL.out, HN.out]) (by rw [HN.out]; exact Nat.le_refl _)] at this
        exact this
      clear HR HO
      go_wp2_with fail
      go_ret
      exact ⟨by rw [HE.out]; rfl, HR2.out, HF.out⟩

set_option maxHeartbeats 16000000 in
theorem MarkES_of {d : Nat} (ihE : ∀ d', d = d' + 1 → MarkES d') (ihC : ∀ d', d = d' + 1 → MarkCS d') : MarkES d := by
  intro w v es fp k h hnd hk1 hkb
  obtain ⟨p, cap, rfl, hcl, hcm⟩ := h.shape
  have hnb : es.length ≤ 9223372036854775807 := by unfold maxLen at hcm; omega
  have HL : Hid ((markL (markE d) (cntE d) k es).length = es.length) := markL_length _ _ _ _
  have HO : Hid (ORows w 73 6 (OEx w d) (.slice p es.length cap) es fp) := h
  have HND : Hid fp.Nodup := hnd
  have HKB : Hid (k + (es.map (cntE d)).sum ≤ 1099511627776) := hkb
  generalize hn : es.length = n at *
  have HN : Hid (es.length = n) := hn
  clear h hnd hn hkb
  go_enter Tryz.func68, Tryz.ntmps68
  go_wp2
  go_loopw [1, 5] (fun kv iv wr => ∃ i kk : Nat, i ≤ n ∧ iv = .int .i64 i ∧ kv = .int .i64 kk ∧ Hid (kk = k + ((es.take i).map (cntE d)).sum) ∧ Hid (ORows wr 73 6 (OEx wr d) (.slice p n cap) (mix i (markL (markE d) (cntE d) k es) es) fp) ∧ Hid (Off fp w wr)) (fun _ iv _ => n - (intOf iv).toNat)
  case atStart => exact ⟨0, k, Nat.zero_le _, rfl, rfl, (by show k = _; simp), (by show ORows _ _ _ _ _ _ _; rw [mix_zero]; exact HO.out), Off.refl _ _⟩
  case round =>
    obtain ⟨i, kk, hi, rfl, rfl, HK, HR, HF⟩ := hrel
    by_cases hlt : i < n
    · obtain ⟨x, hxi⟩ : ∃ x, es[i]? = some x := ⟨es[i]'(by rw [HN.out]; exact hlt), List.getElem?_eq_getElem _⟩
      have hml : (mix i (markL (markE d) (cntE d) k es) es).length = n := by rw [mix_length (by rw [HL.out, HN.out]), HN.out]
      have hmx : (mix i (markL (markE d) (cntE d) k es) es)[i]? = some x := by rw [mix_at (by rw [HL.out, HN.out]) (by rw [HN.out]; exact hlt)]; exact hxi
      have HMX : Hid ((mix i (markL (markE d) (cntE d) k es) es).length = n) := hml
      rcases HR.out with hnil | ⟨hne, cells, g, cap', fps, ho, hv, hl, hfp, hat⟩
      · rw [hnil.1] at hml; simp at hml; omega
      rw [hml] at ho hv hl
      obtain ⟨f, hf⟩ : ∃ f, fps[i]? = some f := ⟨fps[i]'(by rw [hl]; exact hlt), List.getElem?_eq_getElem _⟩
      obtain ⟨cs, hcs4, hcs, hx⟩ := hat i x f hmx hf
      cases hv
      have hlc : cells.length = n * 6 := ho.1
      have hnp := nodup_parts (hfp ▸ HND.out)
      have hsum : ((es.take (i + 1)).map (cntE d)).sum = ((es.take i).map (cntE d)).sum + cntE d x := sum_take_succ _ es i x hxi
      have hle : ((es.take (i + 1)).map (cntE d)).sum ≤ (es.map (cntE d)).sum := sum_take_le _ es (i + 1)
      have hkk := HK.out
      have hkb := HKB.out
      have hg0 : g ∈ fp := by rw [hfp]; simp
      have hfs : ∀ a ∈ f, a ∈ fp := fun a ha => by rw [hfp]; exact List.mem_cons_of_mem _ (List.mem_flatten.2 ⟨f, List.mem_of_getElem? hf, ha⟩)
      have hgf : g ∉ f := (hnp.1 f (List.mem_of_getElem? hf)).1
      have hfn : f.Nodup := (hnp.1 f (List.mem_of_getElem? hf)).2
      have HMI : Hid ((markL (markE d) (cntE d) k es)[i]? = some ((markE d) kk x)) := by
        show _ = _
        rw [markL_at _ _ _ _ _ _ hxi, ← HK.out]
      have HAT : Hid (∀ (j : Nat) y f', (mix i (markL (markE d) (cntE d) k es) es)[j]? = some y → fps[j]? = some f' → ∃ cs : List Value, cs.length = 6 ∧ (∀ q, q < 6 → cells[j * 6 + q]? = cs[q]?) ∧ OEx wr d cs y f') := hat
      have HNP : Hid (∀ (i j : Nat) f f', i ≠ j → fps[i]? = some f → fps[j]? = some f' → ∀ a ∈ f, a ∉ f') := hnp.2
      have HNG : Hid (∀ f ∈ fps, g ∉ f ∧ f.Nodup) := hnp.1
      have HFP : Hid (fp = g :: fps.flatten) := hfp
      have HNE : Hid (mix i (markL (markE d) (cntE d) k es) es ≠ []) := hne
      have HFS : Hid ((∀ a ∈ f, a ∈ fp) ∧ g ∈ fp ∧ g ∉ f ∧ f.Nodup) := ⟨hfs, hg0, hgf, hfn⟩
      have hki : (i : Int) < (n : Int) := by omega
      have hi0 : (0 : Int) ≤ (i : Int) := by omega
      clear hat hnp hfp hne hfs hg0 hgf hfn hml hmx HKB HO
      cases d with
      | zero => exact hx.elim
      | succ d' =>
      obtain ⟨kv, cv, f1, f2, rfl, rfl, _, _, _, _, hkids, hcl'⟩ := hx
      obtain ⟨pk, ck, hkv, _⟩ := hkids.shape
      subst hkv
      obtain ⟨pc, cc, hcv, _⟩ := hcl'.shape
      subst hcv
      have a0 := (ho.cellAt (i * 6) (by omega)).trans (hcs 0 (by omega))
      have a1 := (ho.cellAt (i * 6 + 1) (by omega)).trans (hcs 1 (by omega))
      simp at a0 a1
      have z0 := ho.frozenAt (i * 6)
      have z1 := ho.frozenAt (i * 6 + 1)
      have s0 := ho.stored (i * 6) (.int .i64 kk)
      have s1 := s0.1.stored (i * 6 + 1) (.int .i64 ((kk : Int) + 1))
      have hcx : cntE (d' + 1) x = 4 + (x.kids.map (cntE d')).sum + (x.clauses.map (cntC (cntE d'))).sum := rfl
      have hn12 := List.nodup_append.1 HFS.out.2.2.2
      have HKD : Hid (ORows wr 73 6 (OEx wr d') (.slice pk x.kids.length ck) x.kids f1) := hkids
      have HCL : Hid (ORows wr 48 2 (OCls wr d') (.slice pc x.clauses.length cc) x.clauses f2) := hcl'
      have HS1 : Hid (((wr.setCell ⟨g, i * 6, none⟩ (.int .i64 kk)).setCell ⟨g, i * 6 + 1, none⟩ (.int .i64 ((kk : Int) + 1))).ownsRow 0 73 6 (.slice (some ⟨g, 0, none⟩) n cap) n ((cells.set (i * 6) (.int .i64 kk)).set (i * 6 + 1) (.int .i64 ((kk : Int) + 1)))) := s1.1
      have HG1 : Hid (wr.grownBy ((wr.setCell ⟨g, i * 6, none⟩ (.int .i64 kk)).setCell ⟨g, i * 6 + 1, none⟩ (.int .i64 ((kk : Int) + 1))) (some g)) := grownBy_transR s0.2 s1.2
      have HCS : Hid (∀ (j : Nat), j < 6 → cells[i * 6 + j]? = [Value.int .i64 x.kind, .int .i64 x.n, .string x.text, .string x.mod, .slice pk x.kids.length ck, .slice pc x.clauses.length cc][j]?) := hcs
      have HN12 : Hid (∀ a ∈ f1, ∀ b ∈ f2, a ≠ b) := hn12.2.2
      have HSUM : Hid (k + ((es.take (i + 1)).map (cntE (d' + 1))).sum = kk + 4 + (x.kids.map (cntE d')).sum + (x.clauses.map (cntC (cntE d'))).sum) := by show _ = _; omega
      have HK1 : Hid (kk + 4 + (x.kids.map (cntE d')).sum ≤ 1099511627776) := by show _ ≤ _; omega
      have HK2 : Hid (kk + 4 + (x.kids.map (cntE d')).sum + (x.clauses.map (cntC (cntE d'))).sum ≤ 1099511627776) := by show _ ≤ _; omega
      have hkk4 : kk + 4 ≤ 1099511627776 := by omega
      have hgl : g < wr.heap.size := owns_lt ho rfl
      have hk11 : 1 ≤ kk := by omega
      clear s0 s1 hkids hcl' ho hcs hcs4 hsum hle hkk hkb hcx
      go_wp2_with fail
      refine (markText_at (kk + 2) _ (by omega) (by omega) (by omega)).mono ?_
      rintro e w1 ⟨rfl, hb⟩
      have o2 := HS1.out.kept (grownBy_belowR (r := none) hb) (Or.inr (by simp [Value.ownBlock]))
      have e2 : w1.cell? ⟨g, i * 6 + 2, none⟩ = some (.string x.text) := by
        rw [o2.cellAt (i * 6 + 2) (by omega), List.getElem?_set_ne (by omega), List.getElem?_set_ne (by omega)]; exact HCS.out 2 (by omega)
      have z2 := o2.frozenAt (i * 6 + 2)
      have s3 := o2.stored (i * 6 + 2) (.string (mtext (kk + 2)))
      have HS3 : Hid ((w1.setCell ⟨g, i * 6 + 2, none⟩ (.string (mtext (kk + 2)))).ownsRow 0 73 6 (.slice (some ⟨g, 0, none⟩) n cap) n (((cells.set (i * 6) (.int .i64 kk)).set (i * 6 + 1) (.int .i64 ((kk : Int) + 1))).set (i * 6 + 2) (.string (mtext (kk + 2))))) := s3.1
      have HG3 : Hid (w1.grownBy (w1.setCell ⟨g, i * 6 + 2, none⟩ (.string (mtext (kk + 2)))) (some g)) := s3.2
      have HB1 : Hid (Below ((wr.setCell ⟨g, i * 6, none⟩ (.int .i64 kk)).setCell ⟨g, i * 6 + 1, none⟩ (.int .i64 ((kk : Int) + 1))).heap.size ((wr.setCell ⟨g, i * 6, none⟩ (.int .i64 kk)).setCell ⟨g, i * 6 + 1, none⟩ (.int .i64 ((kk : Int) + 1))) w1) := hb
      clear o2 s3 hb a0 a1 z0 z1
      go_wp2_with fail
      refine (markText_at (kk + 3) _ (by omega) (by omega) (by omega)).mono ?_
      rintro e w2 ⟨rfl, hb⟩
      have o3 := HS3.out.kept (grownBy_belowR (r := none) hb) (Or.inr (by simp [Value.ownBlock]))
      have e3 : w2.cell? ⟨g, i * 6 + 3, none⟩ = some (.string x.mod) := by
        rw [o3.cellAt (i * 6 + 3) (by omega), List.getElem?_set_ne (by omega), List.getElem?_set_ne (by omega), List.getElem?_set_ne (by omega)]; exact HCS.out 3 (by omega)
      have z3 := o3.frozenAt (i * 6 + 3)
      have s4 := o3.stored (i * 6 + 3) (.string (mtext (kk + 3)))
      have e4 : (w2.setCell ⟨g, i * 6 + 3, none⟩ (.string (mtext (kk + 3)))).cell? ⟨g, i * 6 + 4, none⟩ = some (.slice pk x.kids.length ck) := by
        rw [s4.1.cellAt (i * 6 + 4) (by omega), List.getElem?_set_ne (by omega), List.getElem?_set_ne (by omega), List.getElem?_set_ne (by omega), List.getElem?_set_ne (by omega)]; exact HCS.out 4 (by omega)
      have HS4 : Hid ((w2.setCell ⟨g, i * 6 + 3, none⟩ (.string (mtext (kk + 3)))).ownsRow 0 73 6 (.slice (some ⟨g, 0, none⟩) n cap) n ((((cells.set (i * 6) (.int .i64 kk)).set (i * 6 + 1) (.int .i64 ((kk : Int) + 1))).set (i * 6 + 2) (.string (mtext (kk + 2)))).set (i * 6 + 3) (.string (mtext (kk + 3))))) := s4.1
      have HG4 : Hid (w2.grownBy (w2.setCell ⟨g, i * 6 + 3, none⟩ (.string (mtext (kk + 3)))) (some g)) := s4.2
      have HB2 : Hid (Below (w1.setCell ⟨g, i * 6 + 2, none⟩ (.string (mtext (kk + 2)))).heap.size (w1.setCell ⟨g, i * 6 + 2, none⟩ (.string (mtext (kk + 2)))) w2) := hb
      clear o3 s4 hb e2 z2
      go_wp2_with fail
      have hoff : Off [g] wr (w2.setCell ⟨g, i * 6 + 3, none⟩ (.string (mtext (kk + 3)))) := (Off.of_grown HG1.out (by simp)).trans ((Off.of_below HB1.out).trans ((Off.of_grown HG3.out (by simp)).trans ((Off.of_below HB2.out).trans (Off.of_grown HG4.out (by simp)))))
      have hkeep : ∀ f', g ∉ f' → (∀ a ∈ f', a < wr.heap.size) → KeepOn f' wr (w2.setCell ⟨g, i * 6 + 3, none⟩ (.string (mtext (kk + 3)))) := fun f' h1 h2 => hoff.keep (fun a ha => ⟨h2 a ha, fun hm => h1 (by rw [List.mem_singleton] at hm; exact hm ▸ ha)⟩)
      have hk1 := hkeep f1 (fun h => HFS.out.2.2.1 (by simp [h])) (HKD.out.lt (fun _ _ _ h => h.lt))
      have hk2 := hkeep f2 (fun h => HFS.out.2.2.1 (by simp [h])) (HCL.out.lt (fun _ _ _ h => OCl.lt' h (fun _ _ _ h => h.lt)))
      refine ((ihE d' rfl).at x.kids f1 (kk + 4) _ (by omega) (HKD.out.keep hk1 (fun cs x f' _ hs h => h.keep (hk1.sub hs))) hn12.1 (by omega) HK1.out).mono ?_
      rintro e w3 ⟨rfl, r3, off3⟩
      have HOFF : Hid (Off [g] wr (w2.setCell ⟨g, i * 6 + 3, none⟩ (.string (mtext (kk + 3))))) := hoff
      have HKP : Hid (∀ f', g ∉ f' → (∀ a ∈ f', a < wr.heap.size) → KeepOn f' wr (w2.setCell ⟨g, i * 6 + 3, none⟩ (.string (mtext (kk + 3))))) := hkeep
      have hgl3 : g < (w2.setCell ⟨g, i * 6 + 3, none⟩ (.string (mtext (kk + 3)))).heap.size := owns_lt HS4.out rfl
      have hgf1 : g ∉ f1 := fun h => HFS.out.2.2.1 (by simp [h])
      have hown3 : w3.ownsRow 0 73 6 (.slice (some ⟨g, 0, none⟩) n cap) n ((((cells.set (i * 6) (.int .i64 kk)).set (i * 6 + 1) (.int .i64 ((kk : Int) + 1))).set (i * 6 + 2) (.string (mtext (kk + 2)))).set (i * 6 + 3) (.string (mtext (kk + 3)))) := owns_block HS4.out rfl (off3.block g hgl3 hgf1)
      have e5 : w3.cell? ⟨g, i * 6 + 5, none⟩ = some (.slice pc x.clauses.length cc) := by
        rw [hown3.cellAt (i * 6 + 5) (by omega), List.getElem?_set_ne (by omega), List.getElem?_set_ne (by omega), List.getElem?_set_ne (by omega), List.getElem?_set_ne (by omega)]; exact HCS.out 5 (by omega)
      have k23 : KeepOn f2 (w2.setCell ⟨g, i * 6 + 3, none⟩ (.string (mtext (kk + 3)))) w3 := off3.keep (fun a ha => ⟨Nat.lt_of_lt_of_le (HCL.out.lt (fun _ _ _ h => OCl.lt' h (fun _ _ _ h => h.lt)) a ha) hoff.size, fun hm => HN12.out a hm a ha rfl⟩)
      have HCL3 : Hid (ORows w3 48 2 (OCls w3 d') (.slice pc x.clauses.length cc) x.clauses f2) := (HCL.out.keep hk2 (fun cs x f' _ hs h => OCls.keep h (hk2.sub hs))).keep k23 (fun cs x f' _ hs h => OCls.keep h (k23.sub hs))
      have R3 : Hid (ORows w3 73 6 (OEx w3 d') (.slice pk x.kids.length ck) (markL (markE d') (cntE d') (kk + 4) x.kids) f1) := r3
      have OF3 : Hid (Off f1 (w2.setCell ⟨g, i * 6 + 3, none⟩ (.string (mtext (kk + 3)))) w3) := off3
      have HOW3 : Hid (w3.ownsRow 0 73 6 (.slice (some ⟨g, 0, none⟩) n cap) n ((((cells.set (i * 6) (.int .i64 kk)).set (i * 6 + 1) (.int .i64 ((kk : Int) + 1))).set (i * 6 + 2) (.string (mtext (kk + 2)))).set (i * 6 + 3) (.string (mtext (kk + 3))))) := hown3
      clear r3 off3 k23 hown3 hk1 hk2 hoff hkeep e3 e4 z3 hgl3
      generalize hk2g : kk + 4 + (x.kids.map (cntE d')).sum = k2 at *
      have HK2G : Hid (kk + 4 + (x.kids.map (cntE d')).sum = k2) := hk2g
      have hk21 : 1 ≤ k2 := by omega
      clear hk2g
      go_wp2_with fail
      refine ((ihC d' rfl).at x.clauses f2 k2 _ rfl HCL3.out hn12.2.1 hk21 HK2.out).mono ?_
      rintro e w4 ⟨rfl, r4, off4⟩
      have hgf2 : g ∉ f2 := fun h => HFS.out.2.2.1 (by simp [h])
      have hown : w4.ownsRow 0 73 6 (.slice (some ⟨g, 0, none⟩) n cap) n ((((cells.set (i * 6) (.int .i64 kk)).set (i * 6 + 1) (.int .i64 ((kk : Int) + 1))).set (i * 6 + 2) (.string (mtext (kk + 2)))).set (i * 6 + 3) (.string (mtext (kk + 3)))) := owns_block HOW3.out rfl (off4.block g (owns_lt HOW3.out rfl) hgf2)
      have k34 : KeepOn f1 w3 w4 := off4.keep (fun a ha => ⟨R3.out.lt (fun _ _ _ h => h.lt) a ha, fun hm => HN12.out a ha a hm rfl⟩)
      have hoff2 : Off (f1 ++ f2) (w2.setCell ⟨g, i * 6 + 3, none⟩ (.string (mtext (kk + 3)))) w4 := (OF3.out.sub (fun a ha => by simp [ha])).trans (off4.sub (fun a ha => by simp [ha]))
      have hset := ORows.set (R := OEx wr (d' + 1)) (R' := OEx w4 (d' + 1)) (x' := markE (d' + 1) kk x) (i := i) (f := f1 ++ f2) HNE.out (by rw [HMX.out]; exact hown) (by rw [HMX.out]) (by rw [HMX.out]; exact hl) HAT.out hf
        (fun m hm => by rw [List.getElem?_set_ne (by omega), List.getElem?_set_ne (by omega), List.getElem?_set_ne (by omega), List.getElem?_set_ne (by omega)])
        [.int .i64 kk, .int .i64 ((kk : Int) + 1), .string (mtext (kk + 2)), .string (mtext (kk + 3)), .slice pk x.kids.length ck, .slice pc x.clauses.length cc] rfl
        (fun j hj => by
          match j, hj with
          | 0, _ => rw [List.getElem?_set_ne (by omega), List.getElem?_set_ne (by omega), List.getElem?_set_ne (by omega)]; exact List.getElem?_set_self (by omega)
          | 1, _ => rw [List.getElem?_set_ne (by omega), List.getElem?_set_ne (by omega), List.getElem?_set_self (by rw [List.length_set]; omega)]; rfl
          | 2, _ => rw [List.getElem?_set_ne (by omega), List.getElem?_set_self (by rw [List.length_set, List.length_set]; omega)]; rfl
          | 3, _ => rw [List.getElem?_set_self (by rw [List.length_set, List.length_set, List.length_set]; omega)]; rfl
          | 4, _ => rw [List.getElem?_set_ne (by omega), List.getElem?_set_ne (by omega), List.getElem?_set_ne (by omega), List.getElem?_set_ne (by omega)]; exact HCS.out 4 (by omega)
          | 5, _ => rw [List.getElem?_set_ne (by omega), List.getElem?_set_ne (by omega), List.getElem?_set_ne (by omega), List.getElem?_set_ne (by omega)]; exact HCS.out 5 (by omega))
        ⟨_, _, f1, f2, rfl, rfl, nat_ok (by omega), nat_ok (n := kk + 1) (by omega), mtext_ok (by omega), mtext_ok (by omega), R3.out.keep k34 (fun cs x f _ hs h => h.keep (k34.sub hs)), by rw [← HK2G.out] at r4; exact r4⟩
        (fun j y f' cs hj hf' h => h.keep (fun a ha => by
          have h1 := (HNG.out f' (List.mem_of_getElem? hf')).1
          have h2 := h.lt a ha
          have h3 := HNP.out j i f' _ hj hf' hf a ha
          exact (hoff2.block a (Nat.lt_of_lt_of_le h2 HOFF.out.size) h3).trans (HKP.out f' h1 h.lt a ha)))
      rw [mix_succ (by rw [HL.out, HN.out]) HMI.out, ← HFP.out] at hset
      have HSET : Hid (ORows w4 73 6 (OEx w4 (d' + 1)) (.slice (some ⟨g, 0, none⟩) n cap) (mix (i + 1) (markL (markE (d' + 1)) (cntE (d' + 1)) k es) es) fp) := hset
      have HF2 : Hid (Off fp w w4) := HF.out.trans ((HOFF.out.sub (fun a ha => by rw [List.mem_singleton] at ha; exact ha ▸ HFS.out.2.1)).trans (hoff2.sub HFS.out.1))
      clear hset hown r4 off4 hoff2 k34
      go_wp2_with fail
      exact ⟨⟨i + 1, k2 + (x.clauses.map (cntC (cntE d'))).sum, by omega, by go_num, rfl, HSUM.out.symm, HSET, HF2⟩, by simp [intOf]; omega⟩
    · obtain rfl : i = n := by omega
      have HE : Hid (kk = k + (es.map (cntE d)).sum) := by
        have := HK.out
        rw [List.take_of_length_le (by rw [HN.out]; exact Nat.le_refl _)] at this
        exact this
      have HR2 : Hid (ORows wr 73 6 (OEx wr d) (.slice p i cap) (markL (markE d) (cntE d) k es) fp) := by
        have := HR.out
        rw [mix_all (by rw [HL.out, HN.out]) (by rw [HN.out]; exact Nat.le_refl _)] at this
        exact this
      clear HR HO
      go_wp2_with fail
      go_ret
      exact ⟨by rw [HE.out]; rfl, HR2.out, HF.out⟩

theorem markES_all : ∀ d, MarkES d
  | 0 => MarkES_of (fun d' h => by omega) (fun d' h => by omega)
  | d + 1 => MarkES_of (fun d' h => by obtain rfl : d = d' := by omega
                                       exact markES_all d) (fun d' h => by
                                       obtain rfl : d = d' := by omega
                                       exact MarkCS_of (markES_all d))
theorem markCS_all (d : Nat) : MarkCS d := MarkCS_of (markES_all d)
end Go.Proofs.YtpkhblhcdnohmaaGreatDoor
/-
  The laws' markRefS and heldRefS over rows of names with their numbers.
-/
namespace Go.Proofs.YtpkhblhcdnohmaaGreatDoor
open Go.ChangeShapes Go.WideShapes Go.ChangeAt Go.RowKit
set_option linter.unusedVariables false

def cntR (_ : Rf) : Nat := 2
def markR (k : Nat) (_ : Rf) : Rf := ⟨mtext k, ((k : Int) + 1)⟩
/-- What markRefS answers and leaves. -/
def MarkRS (d : Nat) : Prop :=
  ∀ (w : World) (v : Value) (es : List Rf) (fp : List Nat) (k : Nat), ORows w 50 2 (ORf w d) v es fp → fp.Nodup → 1 ≤ k → k + (es.map cntR).sum ≤ 1099511627776 →
    Calls Tryz.prog 11 #[v, .int .i64 k] w fun e w' => e = .returned (.int .i64 ((k + (es.map cntR).sum : Nat) : Int)) ∧ ORows w' 50 2 (ORf w' d) v (markL markR cntR k es) fp ∧ Off fp w w'

set_option maxHeartbeats 16000000 in
theorem MarkRS_of {d : Nat}  : MarkRS d := by
  intro w v es fp k h hnd hk1 hkb
  obtain ⟨p, cap, rfl, hcl, hcm⟩ := h.shape
  have hnb : es.length ≤ 9223372036854775807 := by unfold maxLen at hcm; omega
  have HL : Hid ((markL (markR) (cntR) k es).length = es.length) := markL_length _ _ _ _
  have HO : Hid (ORows w 50 2 (ORf w d) (.slice p es.length cap) es fp) := h
  have HND : Hid fp.Nodup := hnd
  have HKB : Hid (k + (es.map (cntR)).sum ≤ 1099511627776) := hkb
  generalize hn : es.length = n at *
  have HN : Hid (es.length = n) := hn
  clear h hnd hn hkb
  go_enter Tryz.func11, Tryz.ntmps11
  go_wp2
  go_loopw [1, 5] (fun kv iv wr => ∃ i kk : Nat, i ≤ n ∧ iv = .int .i64 i ∧ kv = .int .i64 kk ∧ Hid (kk = k + ((es.take i).map (cntR)).sum) ∧ Hid (ORows wr 50 2 (ORf wr d) (.slice p n cap) (mix i (markL (markR) (cntR) k es) es) fp) ∧ Hid (Off fp w wr)) (fun _ iv _ => n - (intOf iv).toNat)
  case atStart => exact ⟨0, k, Nat.zero_le _, rfl, rfl, (by show k = _; simp), (by show ORows _ _ _ _ _ _ _; rw [mix_zero]; exact HO.out), Off.refl _ _⟩
  case round =>
    obtain ⟨i, kk, hi, rfl, rfl, HK, HR, HF⟩ := hrel
    by_cases hlt : i < n
    · obtain ⟨x, hxi⟩ : ∃ x, es[i]? = some x := ⟨es[i]'(by rw [HN.out]; exact hlt), List.getElem?_eq_getElem _⟩
      have hml : (mix i (markL (markR) (cntR) k es) es).length = n := by rw [mix_length (by rw [HL.out, HN.out]), HN.out]
      have hmx : (mix i (markL (markR) (cntR) k es) es)[i]? = some x := by rw [mix_at (by rw [HL.out, HN.out]) (by rw [HN.out]; exact hlt)]; exact hxi
      have HMX : Hid ((mix i (markL (markR) (cntR) k es) es).length = n) := hml
      rcases HR.out with hnil | ⟨hne, cells, g, cap', fps, ho, hv, hl, hfp, hat⟩
      · rw [hnil.1] at hml; simp at hml; omega
      rw [hml] at ho hv hl
      obtain ⟨f, hf⟩ : ∃ f, fps[i]? = some f := ⟨fps[i]'(by rw [hl]; exact hlt), List.getElem?_eq_getElem _⟩
      obtain ⟨cs, hcs4, hcs, hx⟩ := hat i x f hmx hf
      cases hv
      have hlc : cells.length = n * 2 := ho.1
      have hnp := nodup_parts (hfp ▸ HND.out)
      have hsum : ((es.take (i + 1)).map (cntR)).sum = ((es.take i).map (cntR)).sum + cntR x := sum_take_succ _ es i x hxi
      have hle : ((es.take (i + 1)).map (cntR)).sum ≤ (es.map (cntR)).sum := sum_take_le _ es (i + 1)
      have hkk := HK.out
      have hkb := HKB.out
      have hg0 : g ∈ fp := by rw [hfp]; simp
      have hfs : ∀ a ∈ f, a ∈ fp := fun a ha => by rw [hfp]; exact List.mem_cons_of_mem _ (List.mem_flatten.2 ⟨f, List.mem_of_getElem? hf, ha⟩)
      have hgf : g ∉ f := (hnp.1 f (List.mem_of_getElem? hf)).1
      have hfn : f.Nodup := (hnp.1 f (List.mem_of_getElem? hf)).2
      have HMI : Hid ((markL (markR) (cntR) k es)[i]? = some ((markR) kk x)) := by
        show _ = _
        rw [markL_at _ _ _ _ _ _ hxi, ← HK.out]
      have HAT : Hid (∀ (j : Nat) y f', (mix i (markL (markR) (cntR) k es) es)[j]? = some y → fps[j]? = some f' → ∃ cs : List Value, cs.length = 2 ∧ (∀ q, q < 2 → cells[j * 2 + q]? = cs[q]?) ∧ ORf wr d cs y f') := hat
      have HNP : Hid (∀ (i j : Nat) f f', i ≠ j → fps[i]? = some f → fps[j]? = some f' → ∀ a ∈ f, a ∉ f') := hnp.2
      have HNG : Hid (∀ f ∈ fps, g ∉ f ∧ f.Nodup) := hnp.1
      have HFP : Hid (fp = g :: fps.flatten) := hfp
      have HNE : Hid (mix i (markL (markR) (cntR) k es) es ≠ []) := hne
      have HFS : Hid ((∀ a ∈ f, a ∈ fp) ∧ g ∈ fp ∧ g ∉ f ∧ f.Nodup) := ⟨hfs, hg0, hgf, hfn⟩
      have hki : (i : Int) < (n : Int) := by omega
      have hi0 : (0 : Int) ≤ (i : Int) := by omega
      clear hat hnp hfp hne hfs hg0 hgf hfn hml hmx HKB HO
      obtain ⟨⟨rfl, hrs, hri⟩, rfl⟩ := hx
      have HCS : Hid (∀ (j : Nat), j < 2 → cells[i * 2 + j]? = [Value.string x.name, .int .i64 x.arity][j]?) := hcs
      have HOW : Hid (wr.ownsRow 0 50 2 (.slice (some ⟨g, 0, none⟩) n cap) n cells) := ho
      have hcx : cntR x = 2 := rfl
      have HSUM : Hid (k + ((es.take (i + 1)).map cntR).sum = kk + 2) := by show _ = _; omega
      have hkk2 : kk + 2 ≤ 1099511627776 := by omega
      have hgl : g < wr.heap.size := owns_lt ho rfl
      have hk11 : 1 ≤ kk := by omega
      clear ho hcs hcs4 hsum hle hkk hkb hcx
      go_wp2_with fail
      refine (markText_at kk _ rfl (by omega) (by omega)).mono ?_
      rintro e w1 ⟨rfl, hb⟩
      have o1 := HOW.out.kept (grownBy_belowR (r := none) hb) (Or.inr (by simp [Value.ownBlock]))
      have e0 : w1.cell? ⟨g, i * 2, none⟩ = some (.string x.name) := by
        rw [o1.cellAt (i * 2) (by omega)]; exact HCS.out 0 (by omega)
      have z0 := o1.frozenAt (i * 2)
      have s1 := o1.stored (i * 2) (.string (mtext kk))
      have e1 : (w1.setCell ⟨g, i * 2, none⟩ (.string (mtext kk))).cell? ⟨g, i * 2 + 1, none⟩ = some (.int .i64 x.arity) := by
        rw [s1.1.cellAt (i * 2 + 1) (by omega), List.getElem?_set_ne (by omega)]; exact HCS.out 1 (by omega)
      have z1 := s1.1.frozenAt (i * 2 + 1)
      have s2 := s1.1.stored (i * 2 + 1) (.int .i64 ((kk : Int) + 1))
      have hoff : Off [g] wr ((w1.setCell ⟨g, i * 2, none⟩ (.string (mtext kk))).setCell ⟨g, i * 2 + 1, none⟩ (.int .i64 ((kk : Int) + 1))) := (Off.of_below hb).trans ((Off.of_grown s1.2 (by simp)).trans (Off.of_grown s2.2 (by simp)))
      have hset := ORows.set (R := ORf wr d) (R' := ORf ((w1.setCell ⟨g, i * 2, none⟩ (.string (mtext kk))).setCell ⟨g, i * 2 + 1, none⟩ (.int .i64 ((kk : Int) + 1))) d) (x' := markR kk x) (i := i) (f := []) HNE.out (by rw [HMX.out]; exact s2.1) (by rw [HMX.out]) (by rw [HMX.out]; exact hl) HAT.out hf
        (fun m hm => by rw [List.getElem?_set_ne (by omega), List.getElem?_set_ne (by omega)])
        [.string (mtext kk), .int .i64 ((kk : Int) + 1)] rfl
        (fun j hj => by
          match j, hj with
          | 0, _ => rw [List.getElem?_set_ne (by omega)]; exact List.getElem?_set_self (by omega)
          | 1, _ => rw [List.getElem?_set_self (by rw [List.length_set]; omega)]; rfl)
        ⟨⟨rfl, mtext_ok (by omega), nat_ok (n := kk + 1) (by omega)⟩, rfl⟩
        (fun j y f' cs hj hf' h => h)
      rw [mix_succ (by rw [HL.out, HN.out]) HMI.out, ← HFP.out] at hset
      have HSET : Hid (ORows ((w1.setCell ⟨g, i * 2, none⟩ (.string (mtext kk))).setCell ⟨g, i * 2 + 1, none⟩ (.int .i64 ((kk : Int) + 1))) 50 2 (ORf ((w1.setCell ⟨g, i * 2, none⟩ (.string (mtext kk))).setCell ⟨g, i * 2 + 1, none⟩ (.int .i64 ((kk : Int) + 1))) d) (.slice (some ⟨g, 0, none⟩) n cap) (mix (i + 1) (markL markR cntR k es) es) fp) := hset
      have HF2 : Hid (Off fp w ((w1.setCell ⟨g, i * 2, none⟩ (.string (mtext kk))).setCell ⟨g, i * 2 + 1, none⟩ (.int .i64 ((kk : Int) + 1)))) := HF.out.trans (hoff.sub (fun a ha => by rw [List.mem_singleton] at ha; exact ha ▸ HFS.out.2.1))
      clear hset s1 s2 o1 hoff hb
      go_wp2_with fail
      exact ⟨⟨i + 1, kk + 2, by omega, by go_num, by go_num, HSUM.out.symm, HSET, HF2⟩, by simp [intOf]; omega⟩
    · obtain rfl : i = n := by omega
      have HE : Hid (kk = k + (es.map (cntR)).sum) := by
        have := HK.out
        rw [List.take_of_length_le (by rw [HN.out]; exact Nat.le_refl _)] at this
        exact this
      have HR2 : Hid (ORows wr 50 2 (ORf wr d) (.slice p i cap) (markL (markR) (cntR) k es) fp) := by
        have := HR.out
        rw [mix_all (by rw [HL.out, HN.out]) (by rw [HN.out]; exact Nat.le_refl _)] at this
        exact this
      clear HR HO
      go_wp2_with fail
      go_ret
      exact ⟨by rw [HE.out]; rfl, HR2.out, HF.out⟩

theorem markRS_all (d : Nat) : MarkRS d := MarkRS_of
theorem MarkRS.at {d : Nat} (h : MarkRS d) {w : World} {v : Value} (es : List Rf) (fp : List Nat) (k : Nat) (z : Int) (hz : z = k) (ho : ORows w 50 2 (ORf w d) v es fp) (hn : fp.Nodup) (h1 : 1 ≤ k) (hb : k + (es.map cntR).sum ≤ 1099511627776) :
    Calls Tryz.prog 11 #[v, .int .i64 z] w fun e w' => e = .returned (.int .i64 ((k + (es.map cntR).sum : Nat) : Int)) ∧ ORows w' 50 2 (ORf w' d) v (markL markR cntR k es) fp ∧ Off fp w w' := by
  subst hz; exact h w v es fp k ho hn h1 hb

/-- What heldRefS answers of marks. -/
def HeldRS : Prop := ∀ (w : World) (v : Value) (es : List Rf) (k : Nat), Rows w All 2 HRf v (markL markR cntR k es) → 1 ≤ k → k + (es.map cntR).sum ≤ 1099511627776 →
    Calls Tryz.prog 12 #[v, .int .i64 k] w fun e w' => e = .returned (.int .i64 ((k + (es.map cntR).sum : Nat) : Int)) ∧ Below w.heap.size w w'
set_option maxHeartbeats 16000000 in
theorem heldRS_all : HeldRS := by
  intro w v es k h hk1 hkb
  obtain ⟨p, cap, rfl, hcl, hcm, hx⟩ := h
  rw [markL_length] at *
  have hnb : es.length ≤ 9223372036854775807 := by unfold maxLen at hcm; omega
  have HX : Hid (markL markR cntR k es ≠ [] → ∃ g off, p = some ⟨g, off, none⟩ ∧ All g ∧ g < w.heap.size ∧ ∀ i x, (markL markR cntR k es)[i]? = some x → ∃ cs, cs.length = 2 ∧ (∀ j, j < 2 → w.cell? ⟨g, off + i * 2 + j, none⟩ = cs[j]?) ∧ HRf cs x) := hx
  have HKB : Hid (k + (es.map cntR).sum ≤ 1099511627776) := hkb
  generalize hn : es.length = n at *
  have HN : Hid (es.length = n) := hn
  clear hx hn hkb
  go_enter Tryz.func12, Tryz.ntmps12
  go_wp2
  go_loopw [1, 5] (fun kv iv wr => ∃ i kk : Nat, i ≤ n ∧ iv = .int .i64 i ∧ kv = .int .i64 kk ∧ Hid (kk = k + ((es.take i).map cntR).sum) ∧ Hid (Below w.heap.size w wr)) (fun _ iv _ => n - (intOf iv).toNat)
  case atStart => exact ⟨0, k, Nat.zero_le _, rfl, rfl, (by show k = _; simp), Below.refl _ _⟩
  case round =>
    obtain ⟨i, kk, hi, rfl, rfl, HK, HB⟩ := hrel
    by_cases hlt : i < n
    · obtain ⟨x, hxi⟩ : ∃ x, es[i]? = some x := ⟨es[i]'(by rw [HN.out]; exact hlt), List.getElem?_eq_getElem _⟩
      have hmi : (markL markR cntR k es)[i]? = some (markR kk x) := by rw [markL_at _ _ _ _ _ _ hxi, ← HK.out]
      obtain ⟨g, off, rfl, -, hgl, hat⟩ := HX.out (by intro h; rw [h] at hmi; simp at hmi)
      obtain ⟨cs, hcsl, hcs, rfl, -, -⟩ := hat i _ hmi
      have a0 := hcs 0 (by omega)
      have a1 := hcs 1 (by omega)
      rw [← HB.out.cell (p := ⟨g, _, none⟩) hgl] at a0 a1
      simp [markR] at a0 a1
      have hsum : ((es.take (i + 1)).map cntR).sum = ((es.take i).map cntR).sum + cntR x := sum_take_succ _ es i x hxi
      have hle : ((es.take (i + 1)).map cntR).sum ≤ (es.map cntR).sum := sum_take_le _ es (i + 1)
      have hkk := HK.out
      have hkb := HKB.out
      have hcx : cntR x = 2 := rfl
      have HSUM : Hid (k + ((es.take (i + 1)).map cntR).sum = kk + 2) := by show _ = _; omega
      have hkk2 : kk + 2 ≤ 1099511627776 := by omega
      have hk11 : 1 ≤ kk := by omega
      have hki : (i : Int) < (n : Int) := by omega
      have hi0 : (0 : Int) ≤ (i : Int) := by omega
      have A1 : Hid (wr.cell? ⟨g, off + i * 2 + 1, none⟩ = some (.int .i64 ((kk : Int) + 1))) := a1
      have hgw : g < wr.heap.size := Nat.lt_of_lt_of_le hgl HB.out.size
      have q0 : ∀ m' : Wd (fun w' => SameOn All wr w' ∧ Below w.heap.size w w'), m'.val.cell? ⟨g, off + i * 2, none⟩ = some (.string (mtext kk)) := fun m' => (World.cell?_of_block (m'.ok.1.2 g trivial hgw)).trans a0
      clear hat hcs hcsl hsum hle hkk hkb hcx HX HKB hmi a0 a1
      go_wp2_with fail
      have hCne : Nonempty (Wd (fun w' => SameOn All wr w' ∧ Below w.heap.size w w')) := ⟨⟨wr.drew, ⟨⟨Nat.le_refl _, fun _ _ _ => rfl⟩, HB.out.drew⟩⟩⟩
      refine wp_region_class (fun w' => SameOn All wr w' ∧ Below w.heap.size w w') (by kernel_rfl) (by kernel_rfl) ⟨⟨Nat.le_refl _, fun _ _ _ => rfl⟩, HB.out.drew⟩ ?_
      repeat (go_big_quiet_step (first | (rename_i m'; go_at_call 26; refine (markText_at kk _ (by omega) (by omega) (by omega)).mono ?_; rintro e w1 ⟨rfl, hb1⟩; exact ⟨rfl, ⟨⟨w1, ⟨(SameOn.trans m'.ok.1 (SameOn.of_below hb1)), m'.ok.2.trans (hb1.mono m'.ok.2.size)⟩⟩, rfl⟩⟩)))
      refine wpQuiet_nil ?_
      rintro _ ⟨mq, rfl⟩
      have hbe := mq.ok.2
      have hse := mq.ok.1
      generalize mq.val = w1 at hbe hse ⊢
      have a1' : w1.cell? ⟨g, off + i * 2 + 1, none⟩ = some (.int .i64 ((kk : Int) + 1)) := (World.cell?_of_block (hse.2 g trivial hgw)).trans A1.out
      have HB1 : Hid (Below w.heap.size w w1) := hbe
      clear q0 hbe hse
      go_wp2_with fail
      exact ⟨⟨i + 1, kk + 2, by omega, by go_num, by go_num, HSUM.out.symm, HB1.out⟩, by simp [intOf]; omega⟩
    · obtain rfl : i = n := by omega
      have HE : Hid (kk = k + (es.map cntR).sum) := by
        have := HK.out
        rw [List.take_of_length_le (by rw [HN.out]; exact Nat.le_refl _)] at this
        exact this
      go_wp2_with fail
      go_ret
      exact ⟨by rw [HE.out]; rfl, HB.out⟩
end Go.Proofs.YtpkhblhcdnohmaaGreatDoor
/-
  The laws' markFunS and markModule over trees that own their memory.
-/
namespace Go.Proofs.YtpkhblhcdnohmaaGreatDoor
open Go.ChangeShapes Go.WideShapes Go.ChangeAt Go.RowKit
set_option linter.unusedVariables false

def cntF (d : Nat) (f : Fn') : Nat := 2 + (f.clauses.map (cntC (cntE d))).sum
def markF (d : Nat) (k : Nat) (f : Fn') : Fn' := ⟨mtext k, ((k : Int) + 1), markL (markC (markE d) (cntE d)) (cntC (cntE d)) (k + 2) f.clauses⟩
/-- What markFunS answers and leaves. -/
def MarkFS (d : Nat) : Prop :=
  ∀ (w : World) (v : Value) (es : List Fn') (fp : List Nat) (k : Nat), ORows w 43 3 (OFn w d) v es fp → fp.Nodup → 1 ≤ k → k + (es.map (cntF d)).sum ≤ 1099511627776 →
    Calls Tryz.prog 25 #[v, .int .i64 k] w fun e w' => e = .returned (.int .i64 ((k + (es.map (cntF d)).sum : Nat) : Int)) ∧ ORows w' 43 3 (OFn w' d) v (markL (markF d) (cntF d) k es) fp ∧ Off fp w w'
theorem MarkFS.at {d : Nat} (h : MarkFS d) {w : World} {v : Value} (es : List Fn') (fp : List Nat) (k : Nat) (z : Int) (hz : z = k) (ho : ORows w 43 3 (OFn w d) v es fp) (hn : fp.Nodup) (h1 : 1 ≤ k) (hb : k + (es.map (cntF d)).sum ≤ 1099511627776) :
    Calls Tryz.prog 25 #[v, .int .i64 z] w fun e w' => e = .returned (.int .i64 ((k + (es.map (cntF d)).sum : Nat) : Int)) ∧ ORows w' 43 3 (OFn w' d) v (markL (markF d) (cntF d) k es) fp ∧ Off fp w w' := by
  subst hz; exact h w v es fp k ho hn h1 hb

set_option maxHeartbeats 16000000 in
theorem MarkFS_of {d : Nat} (ihC : MarkCS d) : MarkFS d := by
  intro w v es fp k h hnd hk1 hkb
  obtain ⟨p, cap, rfl, hcl, hcm⟩ := h.shape
  have hnb : es.length ≤ 9223372036854775807 := by unfold maxLen at hcm; omega
  have HL : Hid ((markL (markF d) (cntF d) k es).length = es.length) := markL_length _ _ _ _
  have HO : Hid (ORows w 43 3 (OFn w d) (.slice p es.length cap) es fp) := h
  have HND : Hid fp.Nodup := hnd
  have HKB : Hid (k + (es.map (cntF d)).sum ≤ 1099511627776) := hkb
  generalize hn : es.length = n at *
  have HN : Hid (es.length = n) := hn
  clear h hnd hn hkb
  go_enter Tryz.func25, Tryz.ntmps25
  go_wp2
  go_loopw [1, 5] (fun kv iv wr => ∃ i kk : Nat, i ≤ n ∧ iv = .int .i64 i ∧ kv = .int .i64 kk ∧ Hid (kk = k + ((es.take i).map (cntF d)).sum) ∧ Hid (ORows wr 43 3 (OFn wr d) (.slice p n cap) (mix i (markL (markF d) (cntF d) k es) es) fp) ∧ Hid (Off fp w wr)) (fun _ iv _ => n - (intOf iv).toNat)
  case atStart => exact ⟨0, k, Nat.zero_le _, rfl, rfl, (by show k = _; simp), (by show ORows _ _ _ _ _ _ _; rw [mix_zero]; exact HO.out), Off.refl _ _⟩
  case round =>
    obtain ⟨i, kk, hi, rfl, rfl, HK, HR, HF⟩ := hrel
    by_cases hlt : i < n
    · obtain ⟨x, hxi⟩ : ∃ x, es[i]? = some x := ⟨es[i]'(by rw [HN.out]; exact hlt), List.getElem?_eq_getElem _⟩
      have hml : (mix i (markL (markF d) (cntF d) k es) es).length = n := by rw [mix_length (by rw [HL.out, HN.out]), HN.out]
      have hmx : (mix i (markL (markF d) (cntF d) k es) es)[i]? = some x := by rw [mix_at (by rw [HL.out, HN.out]) (by rw [HN.out]; exact hlt)]; exact hxi
      have HMX : Hid ((mix i (markL (markF d) (cntF d) k es) es).length = n) := hml
      rcases HR.out with hnil | ⟨hne, cells, g, cap', fps, ho, hv, hl, hfp, hat⟩
      · rw [hnil.1] at hml; simp at hml; omega
      rw [hml] at ho hv hl
      obtain ⟨f, hf⟩ : ∃ f, fps[i]? = some f := ⟨fps[i]'(by rw [hl]; exact hlt), List.getElem?_eq_getElem _⟩
      obtain ⟨cs, hcs4, hcs, hx⟩ := hat i x f hmx hf
      cases hv
      have hlc : cells.length = n * 3 := ho.1
      have hnp := nodup_parts (hfp ▸ HND.out)
      have hsum : ((es.take (i + 1)).map (cntF d)).sum = ((es.take i).map (cntF d)).sum + cntF d x := sum_take_succ _ es i x hxi
      have hle : ((es.take (i + 1)).map (cntF d)).sum ≤ (es.map (cntF d)).sum := sum_take_le _ es (i + 1)
      have hkk := HK.out
      have hkb := HKB.out
      have hg0 : g ∈ fp := by rw [hfp]; simp
      have hfs : ∀ a ∈ f, a ∈ fp := fun a ha => by rw [hfp]; exact List.mem_cons_of_mem _ (List.mem_flatten.2 ⟨f, List.mem_of_getElem? hf, ha⟩)
      have hgf : g ∉ f := (hnp.1 f (List.mem_of_getElem? hf)).1
      have hfn : f.Nodup := (hnp.1 f (List.mem_of_getElem? hf)).2
      have HMI : Hid ((markL (markF d) (cntF d) k es)[i]? = some ((markF d) kk x)) := by
        show _ = _
        rw [markL_at _ _ _ _ _ _ hxi, ← HK.out]
      have HAT : Hid (∀ (j : Nat) y f', (mix i (markL (markF d) (cntF d) k es) es)[j]? = some y → fps[j]? = some f' → ∃ cs : List Value, cs.length = 3 ∧ (∀ q, q < 3 → cells[j * 3 + q]? = cs[q]?) ∧ OFn wr d cs y f') := hat
      have HNP : Hid (∀ (i j : Nat) f f', i ≠ j → fps[i]? = some f → fps[j]? = some f' → ∀ a ∈ f, a ∉ f') := hnp.2
      have HNG : Hid (∀ f ∈ fps, g ∉ f ∧ f.Nodup) := hnp.1
      have HFP : Hid (fp = g :: fps.flatten) := hfp
      have HNE : Hid (mix i (markL (markF d) (cntF d) k es) es ≠ []) := hne
      have HFS : Hid ((∀ a ∈ f, a ∈ fp) ∧ g ∈ fp ∧ g ∉ f ∧ f.Nodup) := ⟨hfs, hg0, hgf, hfn⟩
      have hki : (i : Int) < (n : Int) := by omega
      have hi0 : (0 : Int) ≤ (i : Int) := by omega
      clear hat hnp hfp hne hfs hg0 hgf hfn hml hmx HKB HO
      obtain ⟨cv, rfl, hrs, hri, hcls⟩ := hx
      obtain ⟨pc, cc, hcv, _⟩ := hcls.shape
      subst hcv
      have HCS : Hid (∀ (j : Nat), j < 3 → cells[i * 3 + j]? = [Value.string x.name, .int .i64 x.arity, .slice pc x.clauses.length cc][j]?) := hcs
      have HOW : Hid (wr.ownsRow 0 43 3 (.slice (some ⟨g, 0, none⟩) n cap) n cells) := ho
      have HCL : Hid (ORows wr 48 2 (OCls wr d) (.slice pc x.clauses.length cc) x.clauses f) := hcls
      have hcx : cntF d x = 2 + (x.clauses.map (cntC (cntE d))).sum := rfl
      have HSUM : Hid (k + ((es.take (i + 1)).map (cntF d)).sum = kk + 2 + (x.clauses.map (cntC (cntE d))).sum) := by show _ = _; omega
      have HK2 : Hid (kk + 2 + (x.clauses.map (cntC (cntE d))).sum ≤ 1099511627776) := by show _ ≤ _; omega
      have hkk2 : kk + 2 ≤ 1099511627776 := by omega
      have hgl : g < wr.heap.size := owns_lt ho rfl
      have hk11 : 1 ≤ kk := by omega
      clear ho hcs hcs4 hsum hle hkk hkb hcx hcls
      go_wp2_with fail
      refine (markText_at kk _ rfl (by omega) (by omega)).mono ?_
      rintro e w1 ⟨rfl, hb⟩
      have o1 := HOW.out.kept (grownBy_belowR (r := none) hb) (Or.inr (by simp [Value.ownBlock]))
      have e0 : w1.cell? ⟨g, i * 3, none⟩ = some (.string x.name) := by
        rw [o1.cellAt (i * 3) (by omega)]; exact HCS.out 0 (by omega)
      have z0 := o1.frozenAt (i * 3)
      have s1 := o1.stored (i * 3) (.string (mtext kk))
      have e1 : (w1.setCell ⟨g, i * 3, none⟩ (.string (mtext kk))).cell? ⟨g, i * 3 + 1, none⟩ = some (.int .i64 x.arity) := by
        rw [s1.1.cellAt (i * 3 + 1) (by omega), List.getElem?_set_ne (by omega)]; exact HCS.out 1 (by omega)
      have z1 := s1.1.frozenAt (i * 3 + 1)
      have s2 := s1.1.stored (i * 3 + 1) (.int .i64 ((kk : Int) + 1))
      have e2 : ((w1.setCell ⟨g, i * 3, none⟩ (.string (mtext kk))).setCell ⟨g, i * 3 + 1, none⟩ (.int .i64 ((kk : Int) + 1))).cell? ⟨g, i * 3 + 2, none⟩ = some (.slice pc x.clauses.length cc) := by
        rw [s2.1.cellAt (i * 3 + 2) (by omega), List.getElem?_set_ne (by omega), List.getElem?_set_ne (by omega)]; exact HCS.out 2 (by omega)
      have hoff : Off [g] wr ((w1.setCell ⟨g, i * 3, none⟩ (.string (mtext kk))).setCell ⟨g, i * 3 + 1, none⟩ (.int .i64 ((kk : Int) + 1))) := (Off.of_below hb).trans ((Off.of_grown s1.2 (by simp)).trans (Off.of_grown s2.2 (by simp)))
      have HOFF : Hid (Off [g] wr ((w1.setCell ⟨g, i * 3, none⟩ (.string (mtext kk))).setCell ⟨g, i * 3 + 1, none⟩ (.int .i64 ((kk : Int) + 1)))) := hoff
      have HS2 : Hid (((w1.setCell ⟨g, i * 3, none⟩ (.string (mtext kk))).setCell ⟨g, i * 3 + 1, none⟩ (.int .i64 ((kk : Int) + 1))).ownsRow 0 43 3 (.slice (some ⟨g, 0, none⟩) n cap) n ((cells.set (i * 3) (.string (mtext kk))).set (i * 3 + 1) (.int .i64 ((kk : Int) + 1)))) := s2.1
      have hkeep : ∀ f', g ∉ f' → (∀ a ∈ f', a < wr.heap.size) → KeepOn f' wr ((w1.setCell ⟨g, i * 3, none⟩ (.string (mtext kk))).setCell ⟨g, i * 3 + 1, none⟩ (.int .i64 ((kk : Int) + 1))) := fun f' h1 h2 => hoff.keep (fun a ha => ⟨h2 a ha, fun hm => h1 (by rw [List.mem_singleton] at hm; exact hm ▸ ha)⟩)
      have hk1 := hkeep f HFS.out.2.2.1 (HCL.out.lt (fun _ _ _ h => OCl.lt' h (fun _ _ _ h => h.lt)))
      have HCL2 : Hid (ORows ((w1.setCell ⟨g, i * 3, none⟩ (.string (mtext kk))).setCell ⟨g, i * 3 + 1, none⟩ (.int .i64 ((kk : Int) + 1))) 48 2 (OCls ((w1.setCell ⟨g, i * 3, none⟩ (.string (mtext kk))).setCell ⟨g, i * 3 + 1, none⟩ (.int .i64 ((kk : Int) + 1))) d) (.slice pc x.clauses.length cc) x.clauses f) := HCL.out.keep hk1 (fun cs x f' _ hs h => OCls.keep h (hk1.sub hs))
      have HKP : Hid (∀ f', g ∉ f' → (∀ a ∈ f', a < wr.heap.size) → KeepOn f' wr ((w1.setCell ⟨g, i * 3, none⟩ (.string (mtext kk))).setCell ⟨g, i * 3 + 1, none⟩ (.int .i64 ((kk : Int) + 1)))) := hkeep
      clear s1 s2 o1 hoff hb hk1 hkeep
      go_wp2_with fail
      refine (ihC.at x.clauses f (kk + 2) _ (by omega) HCL2.out HFS.out.2.2.2 (by omega) HK2.out).mono ?_
      rintro e w4 ⟨rfl, r4, off4⟩
      have hown : w4.ownsRow 0 43 3 (.slice (some ⟨g, 0, none⟩) n cap) n ((cells.set (i * 3) (.string (mtext kk))).set (i * 3 + 1) (.int .i64 ((kk : Int) + 1))) := owns_block HS2.out rfl (off4.block g (owns_lt HS2.out rfl) HFS.out.2.2.1)
      have hset := ORows.set (R := OFn wr d) (R' := OFn w4 d) (x' := markF d kk x) (i := i) (f := f) HNE.out (by rw [HMX.out]; exact hown) (by rw [HMX.out]) (by rw [HMX.out]; exact hl) HAT.out hf
        (fun m hm => by rw [List.getElem?_set_ne (by omega), List.getElem?_set_ne (by omega)])
        [.string (mtext kk), .int .i64 ((kk : Int) + 1), .slice pc x.clauses.length cc] rfl
        (fun j hj => by
          match j, hj with
          | 0, _ => rw [List.getElem?_set_ne (by omega)]; exact List.getElem?_set_self (by omega)
          | 1, _ => rw [List.getElem?_set_self (by rw [List.length_set]; omega)]; rfl
          | 2, _ => rw [List.getElem?_set_ne (by omega), List.getElem?_set_ne (by omega)]; exact HCS.out 2 (by omega))
        ⟨_, rfl, mtext_ok (by omega), nat_ok (n := kk + 1) (by omega), r4⟩
        (fun j y f' cs hj hf' h => h.keep (fun a ha => by
          have h1 := (HNG.out f' (List.mem_of_getElem? hf')).1
          have h2 := h.lt a ha
          have h3 := HNP.out j i f' _ hj hf' hf a ha
          exact (off4.block a (Nat.lt_of_lt_of_le h2 HOFF.out.size) h3).trans (HKP.out f' h1 h.lt a ha)))
      rw [mix_succ (by rw [HL.out, HN.out]) HMI.out, ← HFP.out] at hset
      have HSET : Hid (ORows w4 43 3 (OFn w4 d) (.slice (some ⟨g, 0, none⟩) n cap) (mix (i + 1) (markL (markF d) (cntF d) k es) es) fp) := hset
      have HF2 : Hid (Off fp w w4) := HF.out.trans ((HOFF.out.sub (fun a ha => by rw [List.mem_singleton] at ha; exact ha ▸ HFS.out.2.1)).trans (off4.sub HFS.out.1))
      clear hset hown r4 off4
      go_wp2_with fail
      exact ⟨⟨i + 1, kk + 2 + (x.clauses.map (cntC (cntE d))).sum, by omega, by go_num, rfl, HSUM.out.symm, HSET, HF2⟩, by simp [intOf]; omega⟩
    · obtain rfl : i = n := by omega
      have HE : Hid (kk = k + (es.map (cntF d)).sum) := by
        have := HK.out
        rw [List.take_of_length_le (by rw [HN.out]; exact Nat.le_refl _)] at this
        exact this
      have HR2 : Hid (ORows wr 43 3 (OFn wr d) (.slice p i cap) (markL (markF d) (cntF d) k es) fp) := by
        have := HR.out
        rw [mix_all (by rw [HL.out, HN.out]) (by rw [HN.out]; exact Nat.le_refl _)] at this
        exact this
      clear HR HO
      go_wp2_with fail
      go_ret
      exact ⟨by rw [HE.out]; rfl, HR2.out, HF.out⟩

theorem markFS_all (d : Nat) : MarkFS d := MarkFS_of (markCS_all d)
def cntM (d : Nat) (m : Md) : Nat := (m.exports.map cntR).sum + (m.funs.map (cntF d)).sum
def markM (d : Nat) (k : Nat) (m : Md) : Md := ⟨m.name, markL markR cntR k m.exports, markL (markF d) (cntF d) (k + (m.exports.map cntR).sum) m.funs⟩
set_option maxHeartbeats 4000000 in
theorem markModule_own (d : Nat) (w : World) (cs : List Value) (m : Md) (fp : List Nat) (k : Nat) (h : OMd w d cs m fp) (hn : fp.Nodup) (h1 : 1 ≤ k) (hb : k + cntM d m ≤ 1099511627776) :
    Calls Tryz.prog 10 #[.agg cs.toArray, .int .i64 k] w fun e' w' => e' = .returned (.int .i64 ((k + cntM d m : Nat) : Int)) ∧ OMd w' d cs (markM d k m) fp ∧ Off fp w w' := by
  have hcx : cntM d m = (m.exports.map cntR).sum + (m.funs.map (cntF d)).sum := rfl
  obtain ⟨ev, fv, f1, f2, rfl, rfl, hms, hk, hc⟩ := h
  have hn12 := List.nodup_append.1 hn
  obtain ⟨pk, ck, rfl, _⟩ := hk.shape
  obtain ⟨pc, cc, rfl, _⟩ := hc.shape
  have lt1 : ∀ a ∈ f1, a < w.heap.size := hk.lt (fun _ _ _ h => h.lt)
  have lt2 : ∀ a ∈ f2, a < w.heap.size := hc.lt (fun _ _ _ h => h.lt)
  have hal : Below w.heap.size w (w.alloc (.cells #[.string m.name, .slice pk m.exports.length ck, .slice pc m.funs.length cc] 31)) := (Below.refl _ _).alloc (Nat.le_refl _) _
  have k1 := KeepOn.below hal lt1
  have k2 := KeepOn.below hal lt2
  have HC1 : Hid (ORows (w.alloc (.cells #[.string m.name, .slice pk m.exports.length ck, .slice pc m.funs.length cc] 31)) 43 3 (OFn (w.alloc (.cells #[.string m.name, .slice pk m.exports.length ck, .slice pc m.funs.length cc] 31)) d) (.slice pc m.funs.length cc) m.funs f2) := hc.keep k2 (fun cs x f' _ hs h => h.keep (k2.sub hs))
  have HK1 : Hid (ORows (w.alloc (.cells #[.string m.name, .slice pk m.exports.length ck, .slice pc m.funs.length cc] 31)) 50 2 (ORf (w.alloc (.cells #[.string m.name, .slice pk m.exports.length ck, .slice pc m.funs.length cc] 31)) d) (.slice pk m.exports.length ck) m.exports f1) := hk.keep k1 (fun cs x f' _ hs h => h)
  have HAL : Hid (Below w.heap.size w (w.alloc (.cells #[.string m.name, .slice pk m.exports.length ck, .slice pc m.funs.length cc] 31))) := hal
  have hB1 : k + (m.exports.map cntR).sum ≤ 1099511627776 := by omega
  have HB2 : Hid (k + (m.exports.map cntR).sum + (m.funs.map (cntF d)).sum ≤ 1099511627776) := by show _ ≤ _; omega
  have HMS : Hid (okS m.name) := hms
  have HCX : Hid (k + cntM d m = k + (m.exports.map cntR).sum + (m.funs.map (cntF d)).sum) := by show _ = _; omega
  have HMM : Hid (markM d k m = ⟨m.name, markL markR cntR k m.exports, markL (markF d) (cntF d) (k + (m.exports.map cntR).sum) m.funs⟩) := rfl
  have HN12 : Hid (∀ a ∈ f1, ∀ b ∈ f2, a ≠ b) := hn12.2.2
  clear hk hc k1 k2 hal hcx hb hms
  go_enter Tryz.func10, Tryz.ntmps10
  go_wp2_with fail
  refine ((markRS_all d).at m.exports f1 k _ rfl HK1.out hn12.1 h1 hB1).mono ?_
  rintro e' w1 ⟨rfl, r1, off1⟩
  have bA : Blk w1 w.heap.size #[.string m.name, .slice pk m.exports.length ck, .slice pc m.funs.length cc] 31 := (off1.block w.heap.size (Blk.new (w := w)).lt (fun hm => by have := lt1 _ hm; omega)).trans (Blk.new (w := w))
  have a2 := bA.cell 2 _ rfl
  have k12 := off1.keep (f := f2) (fun a ha => ⟨HC1.out.lt (fun _ _ _ h => h.lt) a ha, fun hm => HN12.out a hm a ha rfl⟩)
  have HC2 : Hid (ORows w1 43 3 (OFn w1 d) (.slice pc m.funs.length cc) m.funs f2) := HC1.out.keep k12 (fun cs x f' _ hs h => h.keep (k12.sub hs))
  have OF1 : Hid (Off f1 w w1) := (Off.of_below HAL.out).trans off1
  have R1 : Hid (ORows w1 50 2 (ORf w1 d) (.slice pk m.exports.length ck) (markL markR cntR k m.exports) f1) := r1
  generalize hk2g : k + (m.exports.map cntR).sum = k2 at *
  have hk21 : 1 ≤ k2 := by omega
  clear r1 off1 bA k12 hk2g
  go_wp2_with fail
  refine ((markFS_all d).at m.funs f2 k2 _ rfl HC2.out hn12.2.1 hk21 HB2.out).mono ?_
  rintro e' w2 ⟨rfl, r2, off2⟩
  have hoff : Hid (Off (f1 ++ f2) w w2) := (OF1.out.sub (fun a ha => by simp [ha])).trans (off2.sub (fun a ha => by simp [ha]))
  have k1 : KeepOn f1 w1 w2 := off2.keep (fun a ha => ⟨R1.out.lt (fun _ _ _ h => h.lt) a ha, fun hm => HN12.out a ha a hm rfl⟩)
  have HRES : Hid (OMd w2 d [.string m.name, .slice pk m.exports.length ck, .slice pc m.funs.length cc] (markM d k m) (f1 ++ f2)) := by
    show OMd _ _ _ _ _
    rw [HMM.out]
    exact ⟨_, _, f1, f2, rfl, rfl, HMS.out, R1.out.keep k1 (fun cs x f' _ hs h => h), r2⟩
  clear r2 off2 k1
  go_wp2_with fail
  go_ret
  exact ⟨by rw [HCX.out]; rfl, HRES.out, hoff.out⟩
end Go.Proofs.YtpkhblhcdnohmaaGreatDoor
/-
  Lists of texts in memory: rows that are read, and rows that the call owns and grows by append.
-/
namespace Go.Proofs.YtpkhblhcdnohmaaGreatDoor
open Go.ChangeShapes Go.WideShapes Go.ChangeAt Go.RowKit
set_option linter.unusedVariables false

/-- One cell that is a text. -/
def HStr (cs : List Value) (s : ByteArray) : Prop := cs = [.string s] ∧ okS s
abbrev StrR (w : World) (v : Value) (xs : List ByteArray) : Prop := Rows w All 1 HStr v xs
theorem StrR.mono {w w' : World} {v : Value} {xs : List ByteArray} (h : StrR w v xs) (hs : SameOn All w w') : StrR w' v xs := Rows.mono h hs (fun _ h => h) (fun _ _ _ h => h)
theorem StrR.okS {w : World} {v : Value} {xs : List ByteArray} (h : StrR w v xs) : ∀ x ∈ xs, Go.Proofs.YtpkhblhcdnohmaaGreatDoor.okS x := by
  intro x hx
  obtain ⟨p, cap, _, _, _, hr⟩ := h
  obtain ⟨i, hi⟩ := List.mem_iff_getElem?.1 hx
  obtain ⟨g, off, _, _, _, hat⟩ := hr (by intro e; rw [e] at hi; simp at hi)
  obtain ⟨cs, _, _, hv⟩ := hat i x hi
  exact hv.2

def strs (l : List ByteArray) : List Value := l.map Value.string
theorem strs_length (l : List ByteArray) : (strs l).length = l.length := by simp [strs]
theorem strs_append (a b : List ByteArray) : strs (a ++ b) = strs a ++ strs b := by simp [strs]
theorem strs_oneCell (l : List ByteArray) : ∀ u ∈ strs l, u.oneCell' = true := by
  intro u hu
  simp only [strs, List.mem_map] at hu
  obtain ⟨b, _, rfl⟩ := hu
  rfl
theorem info_str : (Tryz.prog.info? 9).map (fun i => (i.zero, i.size, i.bytes)) = some (some (.string ⟨#[]⟩), 1, 16) := by kernel_rfl

/-- The row v holds just the texts l; it lies in a block of its own at B or above. -/
def OwnS (w : World) (B : Nat) (v : Value) (l : List ByteArray) : Prop := w.ownsRow B 9 1 v l.length (strs l) ∧ B ≤ w.heap.size
theorem OwnS.next {w w' : World} {B : Nat} {v : Value} {l : List ByteArray} (h : OwnS w B v l) (hb : Below w.heap.size w w') : OwnS w' B v l := by
  refine ⟨⟨h.1.1, ?_⟩, Nat.le_trans h.2 hb.size⟩
  rcases h.1.2 with hn | ⟨g, cap, cur, hv, hB, hg, hr⟩
  · exact .inl hn
  · exact .inr ⟨g, cap, cur, hv, hB, (hb.block g (Array.getElem?_eq_some_iff.1 hg).1).trans hg, hr⟩
theorem OwnS.off {w : World} {B : Nat} {v : Value} {l : List ByteArray} (h : OwnS w B v l) {b : Nat} (hb : v.ownBlock = some b) : B ≤ b ∧ b < w.heap.size := by
  rcases h.1.2 with hn | ⟨g', cap', cur, hv', hB, hg, hr⟩
  · rw [hn.1] at hb; cases hb
  · rw [hv'] at hb
    simp [Value.ownBlock] at hb
    subst hb
    exact ⟨hB, (Array.getElem?_eq_some_iff.1 hg).1⟩
theorem OwnS.below {w w' : World} {B : Nat} {v : Value} {l : List ByteArray} (h : OwnS w B v l) (hg : w.grownBy w' v.ownBlock) : Below B w w' :=
  ⟨hg.os, hg.tape, hg.output, hg.size, fun j hj => hg.block j (by have := h.2; omega) (fun e => by have := (h.off e.symm).1; omega)⟩
theorem OwnS.blk {w w' : World} {B b : Nat} {v : Value} {l : List ByteArray} {cs : Array Value} {t : TypeId} (h : OwnS w B v l) (hg : w.grownBy w' v.ownBlock) (hb : Blk w b cs t) (hne : v.ownBlock ≠ some b) : Blk w' b cs t :=
  (hg.block b hb.lt (fun e => hne e.symm)).trans hb
theorem OwnS.of {w' : World} {B n : Nat} {v : Value} {l m : List ByteArray} {xs : List Value} (h : w'.ownsRow B 9 1 v n xs) (hn : n = (l ++ m).length) (hx : xs = strs l ++ strs m) (hB : B ≤ w'.heap.size) : OwnS w' B v (l ++ m) := by
  subst hn; subst hx; rw [← strs_append] at h; exact ⟨h, hB⟩
/-- The empty row that '[]string{}' makes. -/
theorem OwnS.fresh {w : World} : OwnS (w.alloc (.cells #[] 9)) w.heap.size (.slice (some ⟨w.heap.size, 0, none⟩) 0 0) [] := by
  refine ⟨⟨by simp [strs], .inr ⟨w.heap.size, 0, #[], rfl, Nat.le_refl _, ?_, Nat.le_refl _, Nat.zero_le _, rfl, rfl⟩⟩, by simp⟩
  exact Blk.new (w := w) (cs := #[]) (t := 9)
theorem OwnS.rows {w : World} {B : Nat} {v : Value} {l : List ByteArray} (h : OwnS w B v l) (ho : ∀ x ∈ l, okS x) : Rows w (fun g => B ≤ g) 1 HStr v l := by
  obtain ⟨h, _⟩ := h
  rcases h.2 with ⟨rfl, hn⟩ | ⟨g, cap, cur, rfl, hB, hg, h1, h2, h3, h4⟩
  · obtain rfl := List.length_eq_zero_iff.1 hn
    exact Rows.nil (Nat.zero_le _)
  · refine ⟨_, cap, rfl, h1, h2, fun hne => ⟨g, 0, rfl, hB, (Array.getElem?_eq_some_iff.1 hg).1, fun i x hi => ⟨[.string x], rfl, fun j hj => ?_, rfl, ho x (List.mem_of_getElem? hi)⟩⟩⟩
    obtain rfl : j = 0 := by omega
    rw [show 0 + i * 1 + 0 = i by omega]
    exact (h.cellAt i (by have := (List.getElem?_eq_some_iff.1 hi).1; omega)).trans (by simp [strs, hi])
theorem OwnS.strR {w : World} {B : Nat} {v : Value} {l : List ByteArray} (h : OwnS w B v l) (ho : ∀ x ∈ l, okS x) : StrR w v l := Rows.mono (h.rows ho) ⟨Nat.le_refl _, fun _ _ _ => rfl⟩ (fun _ _ => trivial) (fun _ _ _ h => h)

/-- A row that is nil where it has no memory. -/
def StrV (w : World) (v : Value) (xs : List ByteArray) : Prop := StrR w v xs ∧ ∀ n c, v = .slice none n c → v = .slice none 0 0
theorem OwnS.strV {w : World} {B : Nat} {v : Value} {l : List ByteArray} (h : OwnS w B v l) (ho : ∀ x ∈ l, okS x) : StrV w v l := by
  refine ⟨h.strR ho, fun n c hv => ?_⟩
  rcases h.1.2 with hn | ⟨g, cap, cur, hv', _⟩
  · exact hn.1
  · rw [hv] at hv'; simp at hv'
theorem StrV.next {w w' : World} {v : Value} {xs : List ByteArray} (h : StrV w v xs) (hs : SameOn All w w') : StrV w' v xs := ⟨h.1.mono hs, h.2⟩

/-- Texts that are there. -/
def hasS (l : List ByteArray) (s : ByteArray) : Bool := l.any fun x => x.toList == s.toList
/-- Names with more behind, those that are not there. -/
def onceS (l : List ByteArray) : List ByteArray → List ByteArray
  | [] => l
  | y :: ys => onceS (if hasS l y then l else l ++ [y]) ys
theorem onceS_snoc (l ys : List ByteArray) (y : ByteArray) : onceS l (ys ++ [y]) = if hasS (onceS l ys) y then onceS l ys else onceS l ys ++ [y] := by
  induction ys generalizing l with
  | nil => rfl
  | cons z zs ih => exact ih _
theorem onceS_length (l ys : List ByteArray) : (onceS l ys).length ≤ l.length + ys.length := by
  induction ys generalizing l with
  | nil => simp [onceS]
  | cons z zs ih =>
    have := ih (if hasS l z then l else l ++ [z])
    have h2 : (if hasS l z then l else l ++ [z]).length ≤ l.length + 1 := by split <;> simp
    simp only [onceS, List.length_cons]
    omega
theorem onceS_mem (l ys : List ByteArray) : ∀ x ∈ onceS l ys, x ∈ l ∨ x ∈ ys := by
  induction ys generalizing l with
  | nil => intro x hx; exact .inl hx
  | cons z zs ih =>
    intro x hx
    rcases ih _ x hx with h | h
    · split at h
      · exact .inl h
      · rcases List.mem_append.1 h with h | h
        · exact .inl h
        · simp at h; subst h; exact .inr (by simp)
    · exact .inr (by simp [h])
end Go.Proofs.YtpkhblhcdnohmaaGreatDoor
/-
  Rows of names with their numbers that the call owns and grows by append; trees that own their memory, told by the range of blocks in which they lie.
-/
namespace Go.Proofs.YtpkhblhcdnohmaaGreatDoor
open Go.ChangeShapes Go.WideShapes Go.ChangeAt Go.RowKit
set_option linter.unusedVariables false

def refs (l : List Rf) : List Value := l.flatMap fun r => [.string r.name, .int .i64 r.arity]
theorem refs_length (l : List Rf) : (refs l).length = l.length * 2 := by
  induction l with
  | nil => rfl
  | cons x xs ih =>
    have h : refs (x :: xs) = [.string x.name, .int .i64 x.arity] ++ refs xs := rfl
    rw [h, List.length_append, ih]; simp; omega
theorem refs_append (a b : List Rf) : refs (a ++ b) = refs a ++ refs b := by simp [refs]
theorem refs_at : ∀ (l : List Rf) (i : Nat) (r : Rf), l[i]? = some r → ∀ j, j < 2 → (refs l)[i * 2 + j]? = [Value.string r.name, .int .i64 r.arity][j]?
  | [], i, r, h, _, _ => by simp at h
  | x :: xs, 0, r, h, j, hj => by
    simp at h; subst h
    have e : refs (x :: xs) = [.string x.name, .int .i64 x.arity] ++ refs xs := rfl
    rw [e, Nat.zero_mul, Nat.zero_add, List.getElem?_append_left (by simpa using hj)]
  | x :: xs, i + 1, r, h, j, hj => by
    have e : refs (x :: xs) = [.string x.name, .int .i64 x.arity] ++ refs xs := rfl
    simp at h
    rw [e, List.getElem?_append_right (by simp; omega), ← refs_at xs i r h j hj]
    congr 1
    simp; omega
theorem refs_oneCell (l : List Rf) : ∀ u ∈ refs l, u.oneCell' = true := by
  intro u hu
  simp only [refs, List.mem_flatMap] at hu
  obtain ⟨b, _, hu⟩ := hu
  simp at hu
  rcases hu with rfl | rfl <;> rfl
theorem info_ref : (Tryz.prog.info? 50).map (fun i => (i.zero, i.size, i.bytes)) = some (some (.agg #[.string ⟨#[]⟩, .int .i64 0]), 2, 24) := by kernel_rfl

/-- The row v holds just l; it lies in a block of its own at B or above. -/
def OwnR (w : World) (B : Nat) (v : Value) (l : List Rf) : Prop := w.ownsRow B 50 2 v l.length (refs l) ∧ B ≤ w.heap.size
theorem OwnR.next {w w' : World} {B : Nat} {v : Value} {l : List Rf} (h : OwnR w B v l) (hb : Below w.heap.size w w') : OwnR w' B v l := by
  refine ⟨⟨h.1.1, ?_⟩, Nat.le_trans h.2 hb.size⟩
  rcases h.1.2 with hn | ⟨g, cap, cur, hv, hB, hg, hr⟩
  · exact .inl hn
  · exact .inr ⟨g, cap, cur, hv, hB, (hb.block g (Array.getElem?_eq_some_iff.1 hg).1).trans hg, hr⟩
theorem OwnR.off {w : World} {B : Nat} {v : Value} {l : List Rf} (h : OwnR w B v l) {b : Nat} (hb : v.ownBlock = some b) : B ≤ b ∧ b < w.heap.size := by
  rcases h.1.2 with hn | ⟨g', cap', cur, hv', hB, hg, hr⟩
  · rw [hn.1] at hb; cases hb
  · rw [hv'] at hb
    simp [Value.ownBlock] at hb
    subst hb
    exact ⟨hB, (Array.getElem?_eq_some_iff.1 hg).1⟩
theorem OwnR.below {w w' : World} {B : Nat} {v : Value} {l : List Rf} (h : OwnR w B v l) (hg : w.grownBy w' v.ownBlock) : Below B w w' :=
  ⟨hg.os, hg.tape, hg.output, hg.size, fun j hj => hg.block j (by have := h.2; omega) (fun e => by have := (h.off e.symm).1; omega)⟩
theorem OwnR.of {w' : World} {B n : Nat} {v : Value} {l m : List Rf} {xs : List Value} (h : w'.ownsRow B 50 2 v n xs) (hn : n = (l ++ m).length) (hx : xs = refs l ++ refs m) (hB : B ≤ w'.heap.size) : OwnR w' B v (l ++ m) := by
  subst hn; subst hx; rw [← refs_append] at h; exact ⟨h, hB⟩
theorem OwnR.base {w : World} {B B' : Nat} {v : Value} {l : List Rf} (h : OwnR w B v l) (hB : B' ≤ B) : OwnR w B' v l := by
  refine ⟨⟨h.1.1, ?_⟩, Nat.le_trans hB h.2⟩
  rcases h.1.2 with hn | ⟨g, cap, cur, hv, hb, hr⟩
  · exact .inl hn
  · exact .inr ⟨g, cap, cur, hv, Nat.le_trans hB hb, hr⟩
/-- The empty row that '[]Ref{}' makes. -/
theorem OwnR.fresh {w : World} : OwnR (w.alloc (.cells #[] 50)) w.heap.size (.slice (some ⟨w.heap.size, 0, none⟩) 0 0) [] := by
  refine ⟨⟨by simp [refs], .inr ⟨w.heap.size, 0, #[], rfl, Nat.le_refl _, ?_, Nat.le_refl _, Nat.zero_le _, rfl, rfl⟩⟩, by simp⟩
  exact Blk.new (w := w) (cs := #[]) (t := 50)
/-- The row of one that an append lays. -/
theorem one_ref {w : World} {s : ByteArray} {n : Int} : ∀ j u, (refs [⟨s, n⟩])[j]? = some u → (w.alloc (.cells #[.string s, .int .i64 n] 50)).cell? ((⟨w.heap.size, 0, none⟩ : Addr).add j) = some u := by
  intro j u h
  have hb := Blk.new (w := w) (cs := #[.string s, .int .i64 n]) (t := 50)
  have e : refs [⟨s, n⟩] = [.string s, .int .i64 n] := rfl
  rw [e] at h
  match j, h with
  | 0, h => simp at h; subst h; exact hb.cell 0 _ rfl
  | 1, h => simp at h; subst h; exact hb.cell 1 _ rfl
  | j + 2, h => simp at h

/-- A tree that owns its memory, all of it in blocks from B up to C. -/
def OwnT {α : Type} (O : World → Value → α → List Nat → Prop) (w : World) (B C : Nat) (v : Value) (x : α) : Prop :=
  ∃ fp, O w v x fp ∧ fp.Nodup ∧ (∀ a ∈ fp, B ≤ a ∧ a < C) ∧ B ≤ C ∧ C ≤ w.heap.size
def KeepsO {α : Type} (O : World → Value → α → List Nat → Prop) : Prop := ∀ (w w' : World) (v : Value) (x : α) (fp : List Nat), O w v x fp → KeepOn fp w w' → O w' v x fp
theorem OwnT.below {α : Type} {O : World → Value → α → List Nat → Prop} (hO : KeepsO O) {w w' : World} {B C N : Nat} {v : Value} {x : α} (h : OwnT O w B C v x) (hb : Below N w w') (hN : C ≤ N) : OwnT O w' B C v x := by
  obtain ⟨fp, h1, h2, h3, h4, h5⟩ := h
  exact ⟨fp, hO _ _ _ _ _ h1 (fun a ha => hb.block a (by have := (h3 a ha).2; omega)), h2, h3, h4, Nat.le_trans h5 hb.size⟩
theorem OwnT.next {α : Type} {O : World → Value → α → List Nat → Prop} (hO : KeepsO O) {w w' : World} {B C : Nat} {v : Value} {x : α} (h : OwnT O w B C v x) (hb : Below w.heap.size w w') : OwnT O w' B C v x := by
  obtain ⟨fp, h1, h2, h3, h4, h5⟩ := h
  exact ⟨fp, hO _ _ _ _ _ h1 (fun a ha => hb.block a (by have := (h3 a ha).2; omega)), h2, h3, h4, Nat.le_trans h5 hb.size⟩
theorem OwnT.base {α : Type} {O : World → Value → α → List Nat → Prop} {w : World} {B B' C : Nat} {v : Value} {x : α} (h : OwnT O w B C v x) (hB : B' ≤ B) : OwnT O w B' C v x := by
  obtain ⟨fp, h1, h2, h3, h4, h5⟩ := h
  exact ⟨fp, h1, h2, fun a ha => ⟨by have := (h3 a ha).1; omega, (h3 a ha).2⟩, by omega, h5⟩
/-- Nothing that was there has turned, but for the blocks from B up to C. -/
structure OffR (B C : Nat) (w w' : World) : Prop where
  os : w'.os = w.os
  tape : w'.tape = w.tape
  output : w'.output = w.output
  size : w.heap.size ≤ w'.heap.size
  block : ∀ a, a < w.heap.size → (a < B ∨ C ≤ a) → w'.heap[a]? = w.heap[a]?
theorem OffR.of {B C : Nat} {fp : List Nat} {w w' : World} (h : Off fp w w') (hr : ∀ a ∈ fp, B ≤ a ∧ a < C) : OffR B C w w' :=
  ⟨h.os, h.tape, h.output, h.size, fun a ha hb => h.block a ha (fun hm => by have := hr a hm; omega)⟩
theorem OffR.below {B C N : Nat} {w w' : World} (h : OffR B C w w') (hN : N ≤ B) (hs : N ≤ w.heap.size) : Below N w w' :=
  ⟨h.os, h.tape, h.output, h.size, fun a ha => h.block a (by omega) (.inl (by omega))⟩
theorem OwnT.offR {α : Type} {O : World → Value → α → List Nat → Prop} (hO : KeepsO O) {w w' : World} {B C B' C' : Nat} {v : Value} {x : α} (h : OwnT O w B C v x) (ho : OffR B' C' w w') (hd : C ≤ B' ∨ C' ≤ B) : OwnT O w' B C v x := by
  obtain ⟨fp, h1, h2, h3, h4, h5⟩ := h
  exact ⟨fp, hO _ _ _ _ _ h1 (fun a ha => ho.block a (by have := (h3 a ha).2; omega) (by have := h3 a ha; omega)), h2, h3, h4, Nat.le_trans h5 ho.size⟩

/-- Rows of names with their numbers. -/
def ORs (w : World) (v : Value) (l : List Rf) (fp : List Nat) : Prop := ORows w 50 2 (ORf w 0) v l fp
theorem ORs.keeps : KeepsO ORs := fun w w' v x fp h hk => ORows.keep h hk (fun cs x f _ hs h => h)
theorem ORs.rows {w : World} {B C : Nat} {v : Value} {l : List Rf} (h : OwnT ORs w B C v l) : Rows w All 2 HRf v l := by
  obtain ⟨fp, h1, -⟩ := h
  exact ORows.rows h1 (fun _ _ => trivial) (fun cs x f _ hs h => h.1)
theorem OwnR.tree {w : World} {B : Nat} {v : Value} {l : List Rf} (h : OwnR w B v l) (hl : ∀ r ∈ l, okS r.name ∧ okI r.arity) : OwnT ORs w B w.heap.size v l := by
  obtain ⟨h, hB⟩ := h
  rcases h.2 with ⟨rfl, hn⟩ | ⟨g, cap, cur, rfl, hb, hg, h1, h2, h3, h4⟩
  · obtain rfl := List.length_eq_zero_iff.1 hn
    exact ⟨[], .inl ⟨rfl, rfl, _, _, rfl, Nat.zero_le _⟩, by simp, fun a ha => by simp at ha, hB, Nat.le_refl _⟩
  · by_cases hne : l = []
    · subst hne
      exact ⟨[], .inl ⟨rfl, rfl, _, _, rfl, h2⟩, by simp, fun a ha => by simp at ha, hB, Nat.le_refl _⟩
    · have hgl : g < w.heap.size := (Array.getElem?_eq_some_iff.1 hg).1
      refine ⟨[g], .inr ⟨hne, refs l, g, cap, l.map (fun _ => []), ⟨h.1, .inr ⟨g, cap, cur, rfl, Nat.zero_le _, hg, h1, h2, h3, h4⟩⟩, rfl, by simp, ?_, fun i x f hi hf => ?_⟩, by simp, fun a ha => ?_, hB, Nat.le_refl _⟩
      · have : (l.map fun _ => ([] : List Nat)).flatten = [] := by
          rw [List.flatten_eq_nil_iff]; intro x hx; simp at hx; exact hx.2
        rw [this]
      · rw [List.getElem?_map, hi] at hf
        simp at hf
        subst hf
        exact ⟨_, rfl, fun j hj => refs_at l i x hi j hj, ⟨rfl, hl x (List.mem_of_getElem? hi)⟩, rfl⟩
      · simp at ha; subst ha; exact ⟨hb, hgl⟩
end Go.Proofs.YtpkhblhcdnohmaaGreatDoor
/-
  How great a module is: the laws' szModule tells its weight, and -1 where that is more than what is left.
-/
namespace Go.Proofs.YtpkhblhcdnohmaaGreatDoor
open Go.ChangeShapes Go.WideShapes Go.ChangeAt Go.RowKit
set_option linter.unusedVariables false

variable {N : Nat}

set_option maxHeartbeats 2000000 in
theorem szExpS_of {d : Nat} (hE : SzC 102 (fun w v e => ∃ cs, v = .agg cs.toArray ∧ HEx w (fun g => g < N) d cs e) (wtEx d)) :
    SzC 84 (fun w v es => Rows w (fun g => g < N) 6 (HEx w (fun g => g < N) d) v es) (wtS (wtEx d)) := by
  intro w v es left h hl
  obtain ⟨p, cap, rfl, hcl, hcm, hx⟩ := h
  generalize hn : es.length = n at *
  have HN : Hid (es.length = n) := hn
  have HX : Hid _ := hx
  have hnb : n ≤ 9223372036854775807 := by unfold maxLen at hcm; omega
  clear hx hn
  by_cases h0 : left < n
  · have hr : leftOf left (wtS (wtEx d) es) = -1 := leftOf_lt (by unfold wtS; rw [HN.out]; omega)
    have HR : Hid (leftOf left (wtS (wtEx d) es) = -1) := hr
    clear hr
    go_enter Tryz.func84, Tryz.ntmps84
    go_wp2
    go_ret
    exact ⟨by rw [HR.out]; rfl, Below.refl _ _⟩
  · go_enter Tryz.func84, Tryz.ntmps84
    go_wp2
    go_loopw [1, 5] (fun lv iv wr => ∃ k r : Nat, k ≤ n ∧ iv = .int .i64 k ∧ lv = .int .i64 r ∧ Hid (r + n + ((es.take k).map (wtEx d)).sum = left) ∧ Below w.heap.size w wr) (fun _ iv _ => n - (intOf iv).toNat)
    case atStart => exact ⟨0, left - n, Nat.zero_le _, rfl, by go_num, (by show left - n + n + _ = left; simp; omega), Below.refl _ _⟩
    case round =>
      obtain ⟨k, r, hk, rfl, rfl, hrs, hb⟩ := hrel
      have HB : Hid (Below w.heap.size w wr) := hb
      by_cases hlt : k < n
      · obtain ⟨x, hxk⟩ : ∃ x, es[k]? = some x := ⟨es[k]'(by rw [HN.out]; exact hlt), List.getElem?_eq_getElem _⟩
        obtain ⟨g, off, rfl, hg, hgl, hat⟩ := HX.out (by intro h; rw [h] at hxk; simp at hxk)
        obtain ⟨cs, hcl6, hcs, hex⟩ := hat k x hxk
        have hex' : HEx wr (fun g => g < N) d cs x := hex.mono (SameOn.of_below hb) (fun _ h => h)
        obtain ⟨c0, c1, c2, c3, c4, c5, rfl⟩ := len6 hcl6
        have a0 := hcs 0 (by omega)
        have a1 := hcs 1 (by omega)
        have a2 := hcs 2 (by omega)
        have a3 := hcs 3 (by omega)
        have a4 := hcs 4 (by omega)
        have a5 := hcs 5 (by omega)
        rw [← hb.cell (p := ⟨g, _, none⟩) hgl] at a0 a1 a2 a3 a4 a5
        simp at a0 a1 a2 a3 a4 a5
        clear hb hcs hat hex hcl6
        have hrb : r ≤ 1048576 := by have := hrs.out; omega
        have hst := sum_take_succ (wtEx d) es k x hxk
        have HST : Hid (((es.take (k + 1)).map (wtEx d)).sum = ((es.take k).map (wtEx d)).sum + wtEx d x) := hst
        have hle := sum_take_le (wtEx d) es (k + 1)
        have HLE : Hid (((es.take (k + 1)).map (wtEx d)).sum ≤ (es.map (wtEx d)).sum) := hle
        clear hst hle
        generalize hwx : wtEx d x = y at *
        have HY : Hid (wtEx d x = y) := hwx
        by_cases hy : r < y
        · have hr : leftOf left (wtS (wtEx d) es) = -1 := leftOf_lt (by unfold wtS; have := hrs.out; have := HLE.out; have := HST.out; rw [HN.out]; omega)
          have HR : Hid (leftOf left (wtS (wtEx d) es) = -1) := hr
          have hr2 : leftOf r y = -1 := leftOf_lt hy
          clear hr hwx
          go_wp2_with (go_at_call 102; go_must (refine (hE _ _ x r ⟨_, rfl, hex'⟩ hrb).mono ?_; rintro e w1 ⟨rfl, hb1⟩; rw [HY.out, hr2]; have HB1 : Hid _ := hb1; clear hb1))
          go_ret
          exact ⟨by rw [HR.out]; rfl, HB.out.trans (HB1.out.mono HB.out.size)⟩
        · have hr2 : leftOf r y = ((r - y : Nat) : Int) := leftOf_ge (by omega)
          clear hwx
          go_wp2_with (go_at_call 102; go_must (refine (hE _ _ x r ⟨_, rfl, hex'⟩ hrb).mono ?_; rintro e w1 ⟨rfl, hb1⟩; rw [HY.out, hr2]; have HB1 : Hid _ := hb1; clear hb1))
          exact ⟨⟨k + 1, r - y, by omega, by go_num, rfl, (by have := hrs.out; have := HST.out; show r - y + n + _ = left; omega), HB.out.trans (HB1.out.mono HB.out.size)⟩, by simp [intOf]; omega⟩
      · have hr : leftOf left (wtS (wtEx d) es) = (r : Int) := by
          have h1 := hrs.out
          rw [List.take_of_length_le (by rw [HN.out]; omega)] at h1
          rw [leftOf_ge (by unfold wtS; rw [HN.out]; omega)]
          unfold wtS; rw [HN.out]; omega
        have HR : Hid (leftOf left (wtS (wtEx d) es) = (r : Int)) := hr
        clear hr
        go_wp2
        go_ret
        exact ⟨by rw [HR.out]; rfl, HB.out⟩

set_option maxHeartbeats 2000000 in
theorem szClauseS_of {d : Nat} (hE : SzC 69 (fun w v e => ∃ cs, v = .agg cs.toArray ∧ HCl w (fun g => g < N) (HEx w (fun g => g < N) d) cs e) (wtCl (wtEx d))) :
    SzC 47 (fun w v es => Rows w (fun g => g < N) 2 (HCl w (fun g => g < N) (HEx w (fun g => g < N) d)) v es) (wtS (wtCl (wtEx d))) := by
  intro w v es left h hl
  obtain ⟨p, cap, rfl, hcl, hcm, hx⟩ := h
  generalize hn : es.length = n at *
  have HN : Hid (es.length = n) := hn
  have HX : Hid _ := hx
  have hnb : n ≤ 9223372036854775807 := by unfold maxLen at hcm; omega
  clear hx hn
  by_cases h0 : left < n
  · have hr : leftOf left (wtS (wtCl (wtEx d)) es) = -1 := leftOf_lt (by unfold wtS; rw [HN.out]; omega)
    have HR : Hid (leftOf left (wtS (wtCl (wtEx d)) es) = -1) := hr
    clear hr
    go_enter Tryz.func47, Tryz.ntmps47
    go_wp2
    go_ret
    exact ⟨by rw [HR.out]; rfl, Below.refl _ _⟩
  · go_enter Tryz.func47, Tryz.ntmps47
    go_wp2
    go_loopw [1, 5] (fun lv iv wr => ∃ k r : Nat, k ≤ n ∧ iv = .int .i64 k ∧ lv = .int .i64 r ∧ Hid (r + n + ((es.take k).map (wtCl (wtEx d))).sum = left) ∧ Below w.heap.size w wr) (fun _ iv _ => n - (intOf iv).toNat)
    case atStart => exact ⟨0, left - n, Nat.zero_le _, rfl, by go_num, (by show left - n + n + _ = left; simp; omega), Below.refl _ _⟩
    case round =>
      obtain ⟨k, r, hk, rfl, rfl, hrs, hb⟩ := hrel
      have HB : Hid (Below w.heap.size w wr) := hb
      by_cases hlt : k < n
      · obtain ⟨x, hxk⟩ : ∃ x, es[k]? = some x := ⟨es[k]'(by rw [HN.out]; exact hlt), List.getElem?_eq_getElem _⟩
        obtain ⟨g, off, rfl, hg, hgl, hat⟩ := HX.out (by intro h; rw [h] at hxk; simp at hxk)
        obtain ⟨cs, hcl6, hcs, hex⟩ := hat k x hxk
        have hex' : HCl wr (fun g => g < N) (HEx wr (fun g => g < N) d) cs x := hex.mono (SameOn.of_below hb) (fun _ h => h) (fun _ _ => HEx.mono (SameOn.of_below hb) (fun _ h => h))
        obtain ⟨c0, c1, rfl⟩ := len2 hcl6
        have a0 := hcs 0 (by omega)
        have a1 := hcs 1 (by omega)
        rw [← hb.cell (p := ⟨g, _, none⟩) hgl] at a0 a1
        simp at a0 a1
        clear hb hcs hat hex hcl6
        have hrb : r ≤ 1048576 := by have := hrs.out; omega
        have hst := sum_take_succ (wtCl (wtEx d)) es k x hxk
        have HST : Hid (((es.take (k + 1)).map (wtCl (wtEx d))).sum = ((es.take k).map (wtCl (wtEx d))).sum + wtCl (wtEx d) x) := hst
        have hle := sum_take_le (wtCl (wtEx d)) es (k + 1)
        have HLE : Hid (((es.take (k + 1)).map (wtCl (wtEx d))).sum ≤ (es.map (wtCl (wtEx d))).sum) := hle
        clear hst hle
        generalize hwx : wtCl (wtEx d) x = y at *
        have HY : Hid (wtCl (wtEx d) x = y) := hwx
        by_cases hy : r < y
        · have hr : leftOf left (wtS (wtCl (wtEx d)) es) = -1 := leftOf_lt (by unfold wtS; have := hrs.out; have := HLE.out; have := HST.out; rw [HN.out]; omega)
          have HR : Hid (leftOf left (wtS (wtCl (wtEx d)) es) = -1) := hr
          have hr2 : leftOf r y = -1 := leftOf_lt hy
          clear hr hwx
          go_wp2_with (go_at_call 69; go_must (refine (hE _ _ x r ⟨_, rfl, hex'⟩ hrb).mono ?_; rintro e w1 ⟨rfl, hb1⟩; rw [HY.out, hr2]; have HB1 : Hid _ := hb1; clear hb1))
          go_ret
          exact ⟨by rw [HR.out]; rfl, HB.out.trans (HB1.out.mono HB.out.size)⟩
        · have hr2 : leftOf r y = ((r - y : Nat) : Int) := leftOf_ge (by omega)
          clear hwx
          go_wp2_with (go_at_call 69; go_must (refine (hE _ _ x r ⟨_, rfl, hex'⟩ hrb).mono ?_; rintro e w1 ⟨rfl, hb1⟩; rw [HY.out, hr2]; have HB1 : Hid _ := hb1; clear hb1))
          exact ⟨⟨k + 1, r - y, by omega, by go_num, rfl, (by have := hrs.out; have := HST.out; show r - y + n + _ = left; omega), HB.out.trans (HB1.out.mono HB.out.size)⟩, by simp [intOf]; omega⟩
      · have hr : leftOf left (wtS (wtCl (wtEx d)) es) = (r : Int) := by
          have h1 := hrs.out
          rw [List.take_of_length_le (by rw [HN.out]; omega)] at h1
          rw [leftOf_ge (by unfold wtS; rw [HN.out]; omega)]
          unfold wtS; rw [HN.out]; omega
        have HR : Hid (leftOf left (wtS (wtCl (wtEx d)) es) = (r : Int)) := hr
        clear hr
        go_wp2
        go_ret
        exact ⟨by rw [HR.out]; rfl, HB.out⟩

set_option maxHeartbeats 2000000 in
theorem szFunS_of {d : Nat} (hE : SzC 28 (fun w v e => ∃ cs, v = .agg cs.toArray ∧ HFn w (fun g => g < N) d cs e) (wtFn d)) :
    SzC 14 (fun w v es => Rows w (fun g => g < N) 3 (HFn w (fun g => g < N) d) v es) (wtS (wtFn d)) := by
  intro w v es left h hl
  obtain ⟨p, cap, rfl, hcl, hcm, hx⟩ := h
  generalize hn : es.length = n at *
  have HN : Hid (es.length = n) := hn
  have HX : Hid _ := hx
  have hnb : n ≤ 9223372036854775807 := by unfold maxLen at hcm; omega
  clear hx hn
  by_cases h0 : left < n
  · have hr : leftOf left (wtS (wtFn d) es) = -1 := leftOf_lt (by unfold wtS; rw [HN.out]; omega)
    have HR : Hid (leftOf left (wtS (wtFn d) es) = -1) := hr
    clear hr
    go_enter Tryz.func14, Tryz.ntmps14
    go_wp2
    go_ret
    exact ⟨by rw [HR.out]; rfl, Below.refl _ _⟩
  · go_enter Tryz.func14, Tryz.ntmps14
    go_wp2
    go_loopw [1, 5] (fun lv iv wr => ∃ k r : Nat, k ≤ n ∧ iv = .int .i64 k ∧ lv = .int .i64 r ∧ Hid (r + n + ((es.take k).map (wtFn d)).sum = left) ∧ Below w.heap.size w wr) (fun _ iv _ => n - (intOf iv).toNat)
    case atStart => exact ⟨0, left - n, Nat.zero_le _, rfl, by go_num, (by show left - n + n + _ = left; simp; omega), Below.refl _ _⟩
    case round =>
      obtain ⟨k, r, hk, rfl, rfl, hrs, hb⟩ := hrel
      have HB : Hid (Below w.heap.size w wr) := hb
      by_cases hlt : k < n
      · obtain ⟨x, hxk⟩ : ∃ x, es[k]? = some x := ⟨es[k]'(by rw [HN.out]; exact hlt), List.getElem?_eq_getElem _⟩
        obtain ⟨g, off, rfl, hg, hgl, hat⟩ := HX.out (by intro h; rw [h] at hxk; simp at hxk)
        obtain ⟨cs, hcl6, hcs, hex⟩ := hat k x hxk
        have hex' : HFn wr (fun g => g < N) d cs x := hex.mono (SameOn.of_below hb) (fun _ h => h)
        obtain ⟨c0, c1, c2, rfl⟩ := len3 hcl6
        have a0 := hcs 0 (by omega)
        have a1 := hcs 1 (by omega)
        have a2 := hcs 2 (by omega)
        rw [← hb.cell (p := ⟨g, _, none⟩) hgl] at a0 a1 a2
        simp at a0 a1 a2
        clear hb hcs hat hex hcl6
        have hrb : r ≤ 1048576 := by have := hrs.out; omega
        have hst := sum_take_succ (wtFn d) es k x hxk
        have HST : Hid (((es.take (k + 1)).map (wtFn d)).sum = ((es.take k).map (wtFn d)).sum + wtFn d x) := hst
        have hle := sum_take_le (wtFn d) es (k + 1)
        have HLE : Hid (((es.take (k + 1)).map (wtFn d)).sum ≤ (es.map (wtFn d)).sum) := hle
        clear hst hle
        generalize hwx : wtFn d x = y at *
        have HY : Hid (wtFn d x = y) := hwx
        by_cases hy : r < y
        · have hr : leftOf left (wtS (wtFn d) es) = -1 := leftOf_lt (by unfold wtS; have := hrs.out; have := HLE.out; have := HST.out; rw [HN.out]; omega)
          have HR : Hid (leftOf left (wtS (wtFn d) es) = -1) := hr
          have hr2 : leftOf r y = -1 := leftOf_lt hy
          clear hr hwx
          go_wp2_with (go_at_call 28; go_must (refine (hE _ _ x r ⟨_, rfl, hex'⟩ hrb).mono ?_; rintro e w1 ⟨rfl, hb1⟩; rw [HY.out, hr2]; have HB1 : Hid _ := hb1; clear hb1))
          go_ret
          exact ⟨by rw [HR.out]; rfl, HB.out.trans (HB1.out.mono HB.out.size)⟩
        · have hr2 : leftOf r y = ((r - y : Nat) : Int) := leftOf_ge (by omega)
          clear hwx
          go_wp2_with (go_at_call 28; go_must (refine (hE _ _ x r ⟨_, rfl, hex'⟩ hrb).mono ?_; rintro e w1 ⟨rfl, hb1⟩; rw [HY.out, hr2]; have HB1 : Hid _ := hb1; clear hb1))
          exact ⟨⟨k + 1, r - y, by omega, by go_num, rfl, (by have := hrs.out; have := HST.out; show r - y + n + _ = left; omega), HB.out.trans (HB1.out.mono HB.out.size)⟩, by simp [intOf]; omega⟩
      · have hr : leftOf left (wtS (wtFn d) es) = (r : Int) := by
          have h1 := hrs.out
          rw [List.take_of_length_le (by rw [HN.out]; omega)] at h1
          rw [leftOf_ge (by unfold wtS; rw [HN.out]; omega)]
          unfold wtS; rw [HN.out]; omega
        have HR : Hid (leftOf left (wtS (wtFn d) es) = (r : Int)) := hr
        clear hr
        go_wp2
        go_ret
        exact ⟨by rw [HR.out]; rfl, HB.out⟩

set_option maxHeartbeats 2000000 in
theorem szRefS_of {d : Nat} (hE : SzC 27 (fun w v e => ∃ cs, v = .agg cs.toArray ∧ HRf cs e) (wtRf)) :
    SzC 13 (fun w v es => Rows w (fun g => g < N) 2 (HRf) v es) (wtS (wtRf)) := by
  intro w v es left h hl
  obtain ⟨p, cap, rfl, hcl, hcm, hx⟩ := h
  generalize hn : es.length = n at *
  have HN : Hid (es.length = n) := hn
  have HX : Hid _ := hx
  have hnb : n ≤ 9223372036854775807 := by unfold maxLen at hcm; omega
  clear hx hn
  by_cases h0 : left < n
  · have hr : leftOf left (wtS (wtRf) es) = -1 := leftOf_lt (by unfold wtS; rw [HN.out]; omega)
    have HR : Hid (leftOf left (wtS (wtRf) es) = -1) := hr
    clear hr
    go_enter Tryz.func13, Tryz.ntmps13
    go_wp2
    go_ret
    exact ⟨by rw [HR.out]; rfl, Below.refl _ _⟩
  · go_enter Tryz.func13, Tryz.ntmps13
    go_wp2
    go_loopw [1, 5] (fun lv iv wr => ∃ k r : Nat, k ≤ n ∧ iv = .int .i64 k ∧ lv = .int .i64 r ∧ Hid (r + n + ((es.take k).map (wtRf)).sum = left) ∧ Below w.heap.size w wr) (fun _ iv _ => n - (intOf iv).toNat)
    case atStart => exact ⟨0, left - n, Nat.zero_le _, rfl, by go_num, (by show left - n + n + _ = left; simp; omega), Below.refl _ _⟩
    case round =>
      obtain ⟨k, r, hk, rfl, rfl, hrs, hb⟩ := hrel
      have HB : Hid (Below w.heap.size w wr) := hb
      by_cases hlt : k < n
      · obtain ⟨x, hxk⟩ : ∃ x, es[k]? = some x := ⟨es[k]'(by rw [HN.out]; exact hlt), List.getElem?_eq_getElem _⟩
        obtain ⟨g, off, rfl, hg, hgl, hat⟩ := HX.out (by intro h; rw [h] at hxk; simp at hxk)
        obtain ⟨cs, hcl6, hcs, hex⟩ := hat k x hxk
        have hex' : HRf cs x := hex
        obtain ⟨c0, c1, rfl⟩ := len2 hcl6
        have a0 := hcs 0 (by omega)
        have a1 := hcs 1 (by omega)
        rw [← hb.cell (p := ⟨g, _, none⟩) hgl] at a0 a1
        simp at a0 a1
        clear hb hcs hat hex hcl6
        have hrb : r ≤ 1048576 := by have := hrs.out; omega
        have hst := sum_take_succ (wtRf) es k x hxk
        have HST : Hid (((es.take (k + 1)).map (wtRf)).sum = ((es.take k).map (wtRf)).sum + wtRf x) := hst
        have hle := sum_take_le (wtRf) es (k + 1)
        have HLE : Hid (((es.take (k + 1)).map (wtRf)).sum ≤ (es.map (wtRf)).sum) := hle
        clear hst hle
        generalize hwx : wtRf x = y at *
        have HY : Hid (wtRf x = y) := hwx
        by_cases hy : r < y
        · have hr : leftOf left (wtS (wtRf) es) = -1 := leftOf_lt (by unfold wtS; have := hrs.out; have := HLE.out; have := HST.out; rw [HN.out]; omega)
          have HR : Hid (leftOf left (wtS (wtRf) es) = -1) := hr
          have hr2 : leftOf r y = -1 := leftOf_lt hy
          clear hr hwx
          go_wp2_with (go_at_call 27; go_must (refine (hE _ _ x r ⟨_, rfl, hex'⟩ hrb).mono ?_; rintro e w1 ⟨rfl, hb1⟩; rw [HY.out, hr2]; have HB1 : Hid _ := hb1; clear hb1))
          go_ret
          exact ⟨by rw [HR.out]; rfl, HB.out.trans (HB1.out.mono HB.out.size)⟩
        · have hr2 : leftOf r y = ((r - y : Nat) : Int) := leftOf_ge (by omega)
          clear hwx
          go_wp2_with (go_at_call 27; go_must (refine (hE _ _ x r ⟨_, rfl, hex'⟩ hrb).mono ?_; rintro e w1 ⟨rfl, hb1⟩; rw [HY.out, hr2]; have HB1 : Hid _ := hb1; clear hb1))
          exact ⟨⟨k + 1, r - y, by omega, by go_num, rfl, (by have := hrs.out; have := HST.out; show r - y + n + _ = left; omega), HB.out.trans (HB1.out.mono HB.out.size)⟩, by simp [intOf]; omega⟩
      · have hr : leftOf left (wtS (wtRf) es) = (r : Int) := by
          have h1 := hrs.out
          rw [List.take_of_length_le (by rw [HN.out]; omega)] at h1
          rw [leftOf_ge (by unfold wtS; rw [HN.out]; omega)]
          unfold wtS; rw [HN.out]; omega
        have HR : Hid (leftOf left (wtS (wtRf) es) = (r : Int)) := hr
        clear hr
        go_wp2
        go_ret
        exact ⟨by rw [HR.out]; rfl, HB.out⟩

set_option maxHeartbeats 2000000 in
theorem szExp_of {d : Nat} (h1 : SzC 84 (fun w v es => Rows w (fun g => g < N) 6 (HEx w (fun g => g < N) d) v es) (wtS (wtEx d))) (h2 : SzC 47 (fun w v es => Rows w (fun g => g < N) 2 (HCl w (fun g => g < N) (HEx w (fun g => g < N) d)) v es) (wtS (wtCl (wtEx d)))) :
    SzC 102 (fun w v e => ∃ cs, v = .agg cs.toArray ∧ HEx w (fun g => g < N) (d + 1) cs e) (wtEx (d + 1)) := by
  intro w v e left h hl
  obtain ⟨cs, rfl, kv, cv, rfl, hk, hn, ht, hm, hks, hcs⟩ := h
  have hb0 : e.text.size ≤ 9223372036854775807 := by have := ht; unfold okS maxLen at this; omega
  have hb1 : e.mod.size ≤ 9223372036854775807 := by have := hm; unfold okS maxLen at this; omega
  have hal : SameOn (fun g => g < N) w (w.alloc (.cells #[.int .i64 e.kind, .int .i64 e.n, .string e.text, .string e.mod, kv, cv] 131)) := SameOn.of_below ((Below.refl _ _).alloc (Nat.le_refl _) _)
  replace hks := hks.mono hal (fun _ h => h) (fun _ _ _ => HEx.mono hal (fun _ h => h))
  replace hcs := hcs.mono hal (fun _ h => h) (fun _ _ _ h => h.mono hal (fun _ h => h) (fun _ _ => HEx.mono hal (fun _ h => h)))
  have HW : Hid (wtEx (d + 1) e = e.text.size + e.mod.size + wtS (wtEx d) e.kids + wtS (wtCl (wtEx d)) e.clauses) := rfl
  generalize wtEx (d + 1) e = W at *
  have hx0 : ∃ x0 : Nat, e.text.size = x0 := ⟨_, rfl⟩
  obtain ⟨x0, hx0⟩ := hx0
  rw [hx0] at hb0
  have hx1 : ∃ x1 : Nat, e.mod.size = x1 := ⟨_, rfl⟩
  obtain ⟨x1, hx1⟩ := hx1
  rw [hx1] at hb1
  generalize hx2 : wtS (wtEx d) e.kids = x2 at *
  have HX2 : Hid (wtS (wtEx d) e.kids = x2) := hx2
  clear hx2
  generalize hx3 : wtS (wtCl (wtEx d)) e.clauses = x3 at *
  have HX3 : Hid (wtS (wtCl (wtEx d)) e.clauses = x3) := hx3
  clear hx3
  by_cases t0 : left < x0
  · have HR : Hid (leftOf left W = -1) := by
      have := HW.out
      show leftOf left W = _
      exact leftOf_lt (by omega)
    clear HW
    go_enter Tryz.func102, Tryz.ntmps102
    go_wp2
    go_ret
    exact ⟨by rw [HR.out]; first | rfl | (congr 2; omega) | (simp; omega), ((Below.refl _ _).alloc (Nat.le_refl _) _)⟩
  by_cases t1 : left - x0 < x1
  · have HR : Hid (leftOf left W = -1) := by
      have := HW.out
      show leftOf left W = _
      exact leftOf_lt (by omega)
    clear HW
    go_enter Tryz.func102, Tryz.ntmps102
    go_wp2
    go_ret
    exact ⟨by rw [HR.out]; first | rfl | (congr 2; omega) | (simp; omega), ((Below.refl _ _).alloc (Nat.le_refl _) _)⟩
  by_cases t2 : left - x0 - x1 < x2
  · have HR : Hid (leftOf left W = -1) := by
      have := HW.out
      show leftOf left W = _
      exact leftOf_lt (by omega)
    have hr2 : leftOf (left - x0 - x1) x2 = -1 := leftOf_lt t2
    clear HW
    go_enter Tryz.func102, Tryz.ntmps102
    go_wp2_with (first | (go_at_call 84; go_must (refine (h1.at (w := _) (v := _) e.kids _ (left - x0 - x1) (by omega) hks (by omega)).mono ?_; rintro e w2 ⟨rfl, hb2⟩; rw [HX2.out, hr2]; have HB2 : Hid _ := hb2; have hk2 := (hb2.cell (p := ⟨w.heap.size, 5, none⟩) (by simp)).trans (cell_new _ _ _ 5 cv rfl); clear hb2)) )
    go_ret
    exact ⟨by rw [HR.out]; first | rfl | (congr 2; omega) | (simp; omega), (((Below.refl _ _).alloc (Nat.le_refl _) _).trans (HB2.out.mono ((Below.refl _ _).alloc (Nat.le_refl _) _).size))⟩
  by_cases t3 : left - x0 - x1 - x2 < x3
  · have HR : Hid (leftOf left W = -1) := by
      have := HW.out
      show leftOf left W = _
      exact leftOf_lt (by omega)
    have hr2 : leftOf (left - x0 - x1) x2 = ((left - x0 - x1 - x2 : Nat) : Int) := by rw [leftOf_ge (by omega)]
    have hr3 : leftOf (left - x0 - x1 - x2) x3 = -1 := leftOf_lt t3
    clear HW
    go_enter Tryz.func102, Tryz.ntmps102
    go_wp2_with (first | (go_at_call 47; go_must (refine (h2.at (w := _) (v := _) e.clauses _ (left - x0 - x1 - x2) (by omega) (hcs.mono (SameOn.of_below HB2.out) (fun _ h => h) (fun _ _ _ h => h.mono (SameOn.of_below HB2.out) (fun _ h => h) (fun _ _ => HEx.mono (SameOn.of_below HB2.out) (fun _ h => h)))) (by omega)).mono ?_; rintro e w3 ⟨rfl, hb3⟩; rw [HX3.out, hr3]; have HB3 : Hid _ := hb3; clear hb3)) | (go_at_call 84; go_must (refine (h1.at (w := _) (v := _) e.kids _ (left - x0 - x1) (by omega) hks (by omega)).mono ?_; rintro e w2 ⟨rfl, hb2⟩; rw [HX2.out, hr2]; have HB2 : Hid _ := hb2; have hk2 := (hb2.cell (p := ⟨w.heap.size, 5, none⟩) (by simp)).trans (cell_new _ _ _ 5 cv rfl); clear hb2)) )
    go_ret
    exact ⟨by rw [HR.out]; first | rfl | (congr 2; omega) | (simp; omega), ((((Below.refl _ _).alloc (Nat.le_refl _) _).trans (HB2.out.mono ((Below.refl _ _).alloc (Nat.le_refl _) _).size)).trans (HB3.out.mono (((Below.refl _ _).alloc (Nat.le_refl _) _).trans (HB2.out.mono ((Below.refl _ _).alloc (Nat.le_refl _) _).size)).size))⟩
  have HR : Hid (leftOf left W = ((left - x0 - x1 - x2 - x3 : Nat) : Int)) := by
    have := HW.out
    show leftOf left W = _
    rw [leftOf_ge (by omega)]; omega
  have hr2 : leftOf (left - x0 - x1) x2 = ((left - x0 - x1 - x2 : Nat) : Int) := by rw [leftOf_ge (by omega)]
  have hr3 : leftOf (left - x0 - x1 - x2) x3 = ((left - x0 - x1 - x2 - x3 : Nat) : Int) := by rw [leftOf_ge (by omega)]
  clear HW
  go_enter Tryz.func102, Tryz.ntmps102
  go_wp2_with (first | (go_at_call 47; go_must (refine (h2.at (w := _) (v := _) e.clauses _ (left - x0 - x1 - x2) (by omega) (hcs.mono (SameOn.of_below HB2.out) (fun _ h => h) (fun _ _ _ h => h.mono (SameOn.of_below HB2.out) (fun _ h => h) (fun _ _ => HEx.mono (SameOn.of_below HB2.out) (fun _ h => h)))) (by omega)).mono ?_; rintro e w3 ⟨rfl, hb3⟩; rw [HX3.out, hr3]; have HB3 : Hid _ := hb3; clear hb3)) | (go_at_call 84; go_must (refine (h1.at (w := _) (v := _) e.kids _ (left - x0 - x1) (by omega) hks (by omega)).mono ?_; rintro e w2 ⟨rfl, hb2⟩; rw [HX2.out, hr2]; have HB2 : Hid _ := hb2; have hk2 := (hb2.cell (p := ⟨w.heap.size, 5, none⟩) (by simp)).trans (cell_new _ _ _ 5 cv rfl); clear hb2)) )
  go_ret
  exact ⟨by rw [HR.out]; first | rfl | (congr 2; omega) | (simp; omega), ((((Below.refl _ _).alloc (Nat.le_refl _) _).trans (HB2.out.mono ((Below.refl _ _).alloc (Nat.le_refl _) _).size)).trans (HB3.out.mono (((Below.refl _ _).alloc (Nat.le_refl _) _).trans (HB2.out.mono ((Below.refl _ _).alloc (Nat.le_refl _) _).size)).size))⟩

set_option maxHeartbeats 2000000 in
theorem szClause_of {d : Nat} (h1 : SzC 84 (fun w v es => Rows w (fun g => g < N) 6 (HEx w (fun g => g < N) d) v es) (wtS (wtEx d))) (h2 : SzC 84 (fun w v es => Rows w (fun g => g < N) 6 (HEx w (fun g => g < N) d) v es) (wtS (wtEx d))) :
    SzC 69 (fun w v e => ∃ cs, v = .agg cs.toArray ∧ HCl w (fun g => g < N) (HEx w (fun g => g < N) d) cs e) (wtCl (wtEx d)) := by
  intro w v e left h hl
  obtain ⟨cs, rfl, kv, cv, rfl, hks, hcs⟩ := h
  have hal : SameOn (fun g => g < N) w (w.alloc (.cells #[kv, cv] 105)) := SameOn.of_below ((Below.refl _ _).alloc (Nat.le_refl _) _)
  replace hks := hks.mono hal (fun _ h => h) (fun _ _ _ => HEx.mono hal (fun _ h => h))
  replace hcs := hcs.mono hal (fun _ h => h) (fun _ _ _ => HEx.mono hal (fun _ h => h))
  have HW : Hid (wtCl (wtEx d) e = wtS (wtEx d) e.1 + wtS (wtEx d) e.2) := rfl
  generalize wtCl (wtEx d) e = W at *
  generalize hx0 : wtS (wtEx d) e.1 = x0 at *
  have HX0 : Hid (wtS (wtEx d) e.1 = x0) := hx0
  clear hx0
  generalize hx1 : wtS (wtEx d) e.2 = x1 at *
  have HX1 : Hid (wtS (wtEx d) e.2 = x1) := hx1
  clear hx1
  by_cases t0 : left < x0
  · have HR : Hid (leftOf left W = -1) := by
      have := HW.out
      show leftOf left W = _
      exact leftOf_lt (by omega)
    have hr0 : leftOf (left) x0 = -1 := leftOf_lt t0
    clear HW
    go_enter Tryz.func69, Tryz.ntmps69
    go_wp2_with (first | (go_at_call 84; (refine (h1.at (w := _) (v := _) e.1 _ (left) (by omega) hks (by omega)).mono ?_; rintro e w0 ⟨rfl, hb0⟩; rw [HX0.out, hr0]; have HB0 : Hid _ := hb0; have hk0 := (hb0.cell (p := ⟨w.heap.size, 1, none⟩) (by simp)).trans (cell_new _ _ _ 1 cv rfl); clear hb0)) )
    go_ret
    exact ⟨by rw [HR.out]; first | rfl | (congr 2; omega) | (simp; omega), (((Below.refl _ _).alloc (Nat.le_refl _) _).trans (HB0.out.mono ((Below.refl _ _).alloc (Nat.le_refl _) _).size))⟩
  by_cases t1 : left - x0 < x1
  · have HR : Hid (leftOf left W = -1) := by
      have := HW.out
      show leftOf left W = _
      exact leftOf_lt (by omega)
    have hr0 : leftOf (left) x0 = ((left - x0 : Nat) : Int) := by rw [leftOf_ge (by omega)]
    have hr1 : leftOf (left - x0) x1 = -1 := leftOf_lt t1
    clear HW
    go_enter Tryz.func69, Tryz.ntmps69
    go_wp2_with (first | (go_at_call 84; (refine (h2.at (w := _) (v := _) e.2 _ (left - x0) (by omega) (hcs.mono (SameOn.of_below HB0.out) (fun _ h => h) (fun _ _ _ => HEx.mono (SameOn.of_below HB0.out) (fun _ h => h))) (by omega)).mono ?_; rintro e w1 ⟨rfl, hb1⟩; rw [HX1.out, hr1]; have HB1 : Hid _ := hb1; clear hb1)) | (go_at_call 84; (refine (h1.at (w := _) (v := _) e.1 _ (left) (by omega) hks (by omega)).mono ?_; rintro e w0 ⟨rfl, hb0⟩; rw [HX0.out, hr0]; have HB0 : Hid _ := hb0; have hk0 := (hb0.cell (p := ⟨w.heap.size, 1, none⟩) (by simp)).trans (cell_new _ _ _ 1 cv rfl); clear hb0)) )
    go_ret
    exact ⟨by rw [HR.out]; first | rfl | (congr 2; omega) | (simp; omega), ((((Below.refl _ _).alloc (Nat.le_refl _) _).trans (HB0.out.mono ((Below.refl _ _).alloc (Nat.le_refl _) _).size)).trans (HB1.out.mono (((Below.refl _ _).alloc (Nat.le_refl _) _).trans (HB0.out.mono ((Below.refl _ _).alloc (Nat.le_refl _) _).size)).size))⟩
  have HR : Hid (leftOf left W = ((left - x0 - x1 : Nat) : Int)) := by
    have := HW.out
    show leftOf left W = _
    rw [leftOf_ge (by omega)]; omega
  have hr0 : leftOf (left) x0 = ((left - x0 : Nat) : Int) := by rw [leftOf_ge (by omega)]
  have hr1 : leftOf (left - x0) x1 = ((left - x0 - x1 : Nat) : Int) := by rw [leftOf_ge (by omega)]
  clear HW
  go_enter Tryz.func69, Tryz.ntmps69
  go_wp2_with (first | (go_at_call 84; (refine (h2.at (w := _) (v := _) e.2 _ (left - x0) (by omega) (hcs.mono (SameOn.of_below HB0.out) (fun _ h => h) (fun _ _ _ => HEx.mono (SameOn.of_below HB0.out) (fun _ h => h))) (by omega)).mono ?_; rintro e w1 ⟨rfl, hb1⟩; rw [HX1.out, hr1]; have HB1 : Hid _ := hb1; clear hb1)) | (go_at_call 84; (refine (h1.at (w := _) (v := _) e.1 _ (left) (by omega) hks (by omega)).mono ?_; rintro e w0 ⟨rfl, hb0⟩; rw [HX0.out, hr0]; have HB0 : Hid _ := hb0; have hk0 := (hb0.cell (p := ⟨w.heap.size, 1, none⟩) (by simp)).trans (cell_new _ _ _ 1 cv rfl); clear hb0)) )
  go_ret
  exact ⟨by rw [HR.out]; first | rfl | (congr 2; omega) | (simp; omega), ((((Below.refl _ _).alloc (Nat.le_refl _) _).trans (HB0.out.mono ((Below.refl _ _).alloc (Nat.le_refl _) _).size)).trans (HB1.out.mono (((Below.refl _ _).alloc (Nat.le_refl _) _).trans (HB0.out.mono ((Below.refl _ _).alloc (Nat.le_refl _) _).size)).size))⟩

set_option maxHeartbeats 2000000 in
theorem szFun_of {d : Nat} (h1 : SzC 47 (fun w v es => Rows w (fun g => g < N) 2 (HCl w (fun g => g < N) (HEx w (fun g => g < N) d)) v es) (wtS (wtCl (wtEx d)))) :
    SzC 28 (fun w v e => ∃ cs, v = .agg cs.toArray ∧ HFn w (fun g => g < N) d cs e) (wtFn d) := by
  intro w v e left h hl
  obtain ⟨cs, rfl, cv, rfl, ht, hn, hcs⟩ := h
  have hb0 : e.name.size ≤ 9223372036854775807 := by have := ht; unfold okS maxLen at this; omega
  have hal : SameOn (fun g => g < N) w (w.alloc (.cells #[.string e.name, .int .i64 e.arity, cv] 65)) := SameOn.of_below ((Below.refl _ _).alloc (Nat.le_refl _) _)
  replace hcs := hcs.mono hal (fun _ h => h) (fun _ _ _ h => h.mono hal (fun _ h => h) (fun _ _ => HEx.mono hal (fun _ h => h)))
  have HW : Hid (wtFn d e = e.name.size + wtS (wtCl (wtEx d)) e.clauses) := rfl
  generalize wtFn d e = W at *
  have hx0 : ∃ x0 : Nat, e.name.size = x0 := ⟨_, rfl⟩
  obtain ⟨x0, hx0⟩ := hx0
  rw [hx0] at hb0
  generalize hx1 : wtS (wtCl (wtEx d)) e.clauses = x1 at *
  have HX1 : Hid (wtS (wtCl (wtEx d)) e.clauses = x1) := hx1
  clear hx1
  by_cases t0 : left < x0
  · have HR : Hid (leftOf left W = -1) := by
      have := HW.out
      show leftOf left W = _
      exact leftOf_lt (by omega)
    clear HW
    go_enter Tryz.func28, Tryz.ntmps28
    go_wp2
    go_ret
    exact ⟨by rw [HR.out]; first | rfl | (congr 2; omega) | (simp; omega), ((Below.refl _ _).alloc (Nat.le_refl _) _)⟩
  by_cases t1 : left - x0 < x1
  · have HR : Hid (leftOf left W = -1) := by
      have := HW.out
      show leftOf left W = _
      exact leftOf_lt (by omega)
    have hr1 : leftOf (left - x0) x1 = -1 := leftOf_lt t1
    clear HW
    go_enter Tryz.func28, Tryz.ntmps28
    go_wp2_with (first | (go_at_call 47; go_must (refine (h1.at (w := _) (v := _) e.clauses _ (left - x0) (by omega) hcs (by omega)).mono ?_; rintro e w1 ⟨rfl, hb1⟩; rw [HX1.out, hr1]; have HB1 : Hid _ := hb1; clear hb1)) )
    go_ret
    exact ⟨by rw [HR.out]; first | rfl | (congr 2; omega) | (simp; omega), (((Below.refl _ _).alloc (Nat.le_refl _) _).trans (HB1.out.mono ((Below.refl _ _).alloc (Nat.le_refl _) _).size))⟩
  have HR : Hid (leftOf left W = ((left - x0 - x1 : Nat) : Int)) := by
    have := HW.out
    show leftOf left W = _
    rw [leftOf_ge (by omega)]; omega
  have hr1 : leftOf (left - x0) x1 = ((left - x0 - x1 : Nat) : Int) := by rw [leftOf_ge (by omega)]
  clear HW
  go_enter Tryz.func28, Tryz.ntmps28
  go_wp2_with (first | (go_at_call 47; go_must (refine (h1.at (w := _) (v := _) e.clauses _ (left - x0) (by omega) hcs (by omega)).mono ?_; rintro e w1 ⟨rfl, hb1⟩; rw [HX1.out, hr1]; have HB1 : Hid _ := hb1; clear hb1)) )
  go_ret
  exact ⟨by rw [HR.out]; first | rfl | (congr 2; omega) | (simp; omega), (((Below.refl _ _).alloc (Nat.le_refl _) _).trans (HB1.out.mono ((Below.refl _ _).alloc (Nat.le_refl _) _).size))⟩

set_option maxHeartbeats 2000000 in
theorem szRef_of {d : Nat}  :
    SzC 27 (fun w v e => ∃ cs, v = .agg cs.toArray ∧ HRf cs e) (wtRf) := by
  intro w v e left h hl
  obtain ⟨cs, rfl, rfl, ht, hn⟩ := h
  have hb0 : e.name.size ≤ 9223372036854775807 := by have := ht; unfold okS maxLen at this; omega
  have HW : Hid (wtRf e = e.name.size) := rfl
  generalize wtRf e = W at *
  have hx0 : ∃ x0 : Nat, e.name.size = x0 := ⟨_, rfl⟩
  obtain ⟨x0, hx0⟩ := hx0
  rw [hx0] at hb0
  by_cases t0 : left < x0
  · have HR : Hid (leftOf left W = -1) := by
      have := HW.out
      show leftOf left W = _
      exact leftOf_lt (by omega)
    clear HW
    go_enter Tryz.func27, Tryz.ntmps27
    go_wp2
    go_ret
    exact ⟨by rw [HR.out]; first | rfl | (congr 2; omega) | (simp; omega), ((Below.refl _ _).alloc (Nat.le_refl _) _)⟩
  have HR : Hid (leftOf left W = ((left - x0 : Nat) : Int)) := by
    have := HW.out
    show leftOf left W = _
    rw [leftOf_ge (by omega)]; omega
  clear HW
  go_enter Tryz.func27, Tryz.ntmps27
  go_wp2
  go_ret
  exact ⟨by rw [HR.out]; first | rfl | (congr 2; omega) | (simp; omega), ((Below.refl _ _).alloc (Nat.le_refl _) _)⟩

set_option maxHeartbeats 2000000 in
theorem szModule_of {d : Nat} (h1 : SzC 13 (fun w v es => Rows w (fun g => g < N) 2 (HRf) v es) (wtS (wtRf))) (h2 : SzC 14 (fun w v es => Rows w (fun g => g < N) 3 (HFn w (fun g => g < N) d) v es) (wtS (wtFn d))) :
    SzC 4 (fun w v e => ∃ cs, v = .agg cs.toArray ∧ HMd w (fun g => g < N) d cs e) (wtMd d) := by
  intro w v e left h hl
  obtain ⟨cs, rfl, kv, cv, rfl, ht, hks, hcs⟩ := h
  have hb0 : e.name.size ≤ 9223372036854775807 := by have := ht; unfold okS maxLen at this; omega
  have hal : SameOn (fun g => g < N) w (w.alloc (.cells #[.string e.name, kv, cv] 25)) := SameOn.of_below ((Below.refl _ _).alloc (Nat.le_refl _) _)
  replace hks := hks.mono hal (fun _ h => h) (fun _ _ _ h => h)
  replace hcs := hcs.mono hal (fun _ h => h) (fun _ _ _ h => h.mono hal (fun _ h => h))
  have HW : Hid (wtMd d e = e.name.size + wtS wtRf e.exports + wtS (wtFn d) e.funs) := rfl
  generalize wtMd d e = W at *
  have hx0 : ∃ x0 : Nat, e.name.size = x0 := ⟨_, rfl⟩
  obtain ⟨x0, hx0⟩ := hx0
  rw [hx0] at hb0
  generalize hx1 : wtS wtRf e.exports = x1 at *
  have HX1 : Hid (wtS wtRf e.exports = x1) := hx1
  clear hx1
  generalize hx2 : wtS (wtFn d) e.funs = x2 at *
  have HX2 : Hid (wtS (wtFn d) e.funs = x2) := hx2
  clear hx2
  by_cases t0 : left < x0
  · have HR : Hid (leftOf left W = -1) := by
      have := HW.out
      show leftOf left W = _
      exact leftOf_lt (by omega)
    clear HW
    go_enter Tryz.func4, Tryz.ntmps4
    go_wp2
    go_ret
    exact ⟨by rw [HR.out]; first | rfl | (congr 2; omega) | (simp; omega), ((Below.refl _ _).alloc (Nat.le_refl _) _)⟩
  by_cases t1 : left - x0 < x1
  · have HR : Hid (leftOf left W = -1) := by
      have := HW.out
      show leftOf left W = _
      exact leftOf_lt (by omega)
    have hr1 : leftOf (left - x0) x1 = -1 := leftOf_lt t1
    clear HW
    go_enter Tryz.func4, Tryz.ntmps4
    go_wp2_with (first | (go_at_call 13; go_must (refine (h1.at (w := _) (v := _) e.exports _ (left - x0) (by omega) hks (by omega)).mono ?_; rintro e w1 ⟨rfl, hb1⟩; rw [HX1.out, hr1]; have HB1 : Hid _ := hb1; have hk1 := (hb1.cell (p := ⟨w.heap.size, 2, none⟩) (by simp)).trans (cell_new _ _ _ 2 cv rfl); clear hb1)) )
    go_ret
    exact ⟨by rw [HR.out]; first | rfl | (congr 2; omega) | (simp; omega), (((Below.refl _ _).alloc (Nat.le_refl _) _).trans (HB1.out.mono ((Below.refl _ _).alloc (Nat.le_refl _) _).size))⟩
  by_cases t2 : left - x0 - x1 < x2
  · have HR : Hid (leftOf left W = -1) := by
      have := HW.out
      show leftOf left W = _
      exact leftOf_lt (by omega)
    have hr1 : leftOf (left - x0) x1 = ((left - x0 - x1 : Nat) : Int) := by rw [leftOf_ge (by omega)]
    have hr2 : leftOf (left - x0 - x1) x2 = -1 := leftOf_lt t2
    clear HW
    go_enter Tryz.func4, Tryz.ntmps4
    go_wp2_with (first | (go_at_call 14; go_must (refine (h2.at (w := _) (v := _) e.funs _ (left - x0 - x1) (by omega) (hcs.mono (SameOn.of_below HB1.out) (fun _ h => h) (fun _ _ _ h => h.mono (SameOn.of_below HB1.out) (fun _ h => h))) (by omega)).mono ?_; rintro e w2 ⟨rfl, hb2⟩; rw [HX2.out, hr2]; have HB2 : Hid _ := hb2; clear hb2)) | (go_at_call 13; go_must (refine (h1.at (w := _) (v := _) e.exports _ (left - x0) (by omega) hks (by omega)).mono ?_; rintro e w1 ⟨rfl, hb1⟩; rw [HX1.out, hr1]; have HB1 : Hid _ := hb1; have hk1 := (hb1.cell (p := ⟨w.heap.size, 2, none⟩) (by simp)).trans (cell_new _ _ _ 2 cv rfl); clear hb1)) )
    go_ret
    exact ⟨by rw [HR.out]; first | rfl | (congr 2; omega) | (simp; omega), ((((Below.refl _ _).alloc (Nat.le_refl _) _).trans (HB1.out.mono ((Below.refl _ _).alloc (Nat.le_refl _) _).size)).trans (HB2.out.mono (((Below.refl _ _).alloc (Nat.le_refl _) _).trans (HB1.out.mono ((Below.refl _ _).alloc (Nat.le_refl _) _).size)).size))⟩
  have HR : Hid (leftOf left W = ((left - x0 - x1 - x2 : Nat) : Int)) := by
    have := HW.out
    show leftOf left W = _
    rw [leftOf_ge (by omega)]; omega
  have hr1 : leftOf (left - x0) x1 = ((left - x0 - x1 : Nat) : Int) := by rw [leftOf_ge (by omega)]
  have hr2 : leftOf (left - x0 - x1) x2 = ((left - x0 - x1 - x2 : Nat) : Int) := by rw [leftOf_ge (by omega)]
  clear HW
  go_enter Tryz.func4, Tryz.ntmps4
  go_wp2_with (first | (go_at_call 14; go_must (refine (h2.at (w := _) (v := _) e.funs _ (left - x0 - x1) (by omega) (hcs.mono (SameOn.of_below HB1.out) (fun _ h => h) (fun _ _ _ h => h.mono (SameOn.of_below HB1.out) (fun _ h => h))) (by omega)).mono ?_; rintro e w2 ⟨rfl, hb2⟩; rw [HX2.out, hr2]; have HB2 : Hid _ := hb2; clear hb2)) | (go_at_call 13; go_must (refine (h1.at (w := _) (v := _) e.exports _ (left - x0) (by omega) hks (by omega)).mono ?_; rintro e w1 ⟨rfl, hb1⟩; rw [HX1.out, hr1]; have HB1 : Hid _ := hb1; have hk1 := (hb1.cell (p := ⟨w.heap.size, 2, none⟩) (by simp)).trans (cell_new _ _ _ 2 cv rfl); clear hb1)) )
  go_ret
  exact ⟨by rw [HR.out]; first | rfl | (congr 2; omega) | (simp; omega), ((((Below.refl _ _).alloc (Nat.le_refl _) _).trans (HB1.out.mono ((Below.refl _ _).alloc (Nat.le_refl _) _).size)).trans (HB2.out.mono (((Below.refl _ _).alloc (Nat.le_refl _) _).trans (HB1.out.mono ((Below.refl _ _).alloc (Nat.le_refl _) _).size)).size))⟩

theorem szExp_all : ∀ d, SzC 102 (fun w v e => ∃ cs, v = .agg cs.toArray ∧ HEx w (fun g => g < N) d cs e) (wtEx d)
  | 0 => fun w v x left ⟨_, _, h⟩ _ => h.elim
  | d + 1 => szExp_of (szExpS_of (szExp_all d)) (szClauseS_of (szClause_of (szExpS_of (szExp_all d)) (szExpS_of (szExp_all d))))
theorem szClauseS_all (d : Nat) : SzC 47 (fun w v es => Rows w (fun g => g < N) 2 (HCl w (fun g => g < N) (HEx w (fun g => g < N) d)) v es) (wtS (wtCl (wtEx d))) :=
  szClauseS_of (szClause_of (szExpS_of (szExp_all d)) (szExpS_of (szExp_all d)))

/-- THE LAWS' szModule. -/
theorem szModule_all (d : Nat) : SzC 4 (fun w v m => ∃ cs, v = .agg cs.toArray ∧ HMd w (fun g => g < N) d cs m) (wtMd d) :=
  szModule_of (szRefS_of (d := 0) (szRef_of (d := 0))) (szFunS_of (szFun_of (szClauseS_all d)))
end Go.Proofs.YtpkhblhcdnohmaaGreatDoor
/-
  The laws' eqModule and what it calls: of two modules in memory that are the same tree it tells that they are.
-/
namespace Go.Proofs.YtpkhblhcdnohmaaGreatDoor
open Go.ChangeShapes Go.WideShapes Go.ChangeAt Go.RowKit
set_option linter.unusedVariables false

set_option maxHeartbeats 2000000 in
theorem eqExpS_of {d : Nat} (hE : EqC 108 (fun w v e => ∃ cs, v = .agg cs.toArray ∧ HEx w All d cs e)) :
    EqC 101 (fun w v es => Rows w All 6 (HEx w All d) v es) := by
  intro w v1 v2 es h1 h2
  obtain ⟨p, cap, rfl, hcl, hcm, hx⟩ := h1
  obtain ⟨q, cap', rfl, hcl', hcm', hy⟩ := h2
  generalize hn : es.length = n at *
  have HN : Hid (es.length = n) := hn
  have HX : Hid _ := hx
  have HY : Hid _ := hy
  have hnb : n ≤ 9223372036854775807 := by unfold maxLen at hcm; omega
  clear hx hy hn
  go_enter Tryz.func101, Tryz.ntmps101
  go_wp2
  go_loopw [5] (fun iv wr => ∃ k : Nat, k ≤ n ∧ iv = .int .i64 k ∧ Below w.heap.size w wr) (fun iv _ => n - (intOf iv).toNat)
  case atStart => exact ⟨0, Nat.zero_le _, rfl, Below.refl _ _⟩
  case round =>
    obtain ⟨k, hk, rfl, hb⟩ := hrel
    have HB : Hid (Below w.heap.size w wr) := hb
    by_cases hlt : k < n
    · obtain ⟨x, hxk⟩ : ∃ x, es[k]? = some x := ⟨es[k]'(by rw [HN.out]; exact hlt), List.getElem?_eq_getElem _⟩
      have hne : es ≠ [] := by intro h; rw [h] at hxk; simp at hxk
      obtain ⟨g, off, rfl, _, hgl, hat⟩ := HX.out hne
      obtain ⟨g', off', rfl, _, hgl', hat'⟩ := HY.out hne
      obtain ⟨cs, hcl6, hcs, hex⟩ := hat k x hxk
      obtain ⟨cs', hcl6', hcs', hex'⟩ := hat' k x hxk
      have E1 : ∀ w', SameOn All wr w' → HEx w' All d cs x := fun w' hw => hex.mono (SameOn.trans (SameOn.of_below hb) hw) (fun _ h => h)
      have E2 : ∀ w', SameOn All wr w' → HEx w' All d cs' x := fun w' hw => hex'.mono (SameOn.trans (SameOn.of_below hb) hw) (fun _ h => h)
      obtain ⟨c0, c1, c2, c3, c4, c5, rfl⟩ := len6 hcl6
      obtain ⟨d0, d1, d2, d3, d4, d5, rfl⟩ := len6 hcl6'
      have a0 := hcs 0 (by omega)
      have b0 := hcs' 0 (by omega)
      have a1 := hcs 1 (by omega)
      have b1 := hcs' 1 (by omega)
      have a2 := hcs 2 (by omega)
      have b2 := hcs' 2 (by omega)
      have a3 := hcs 3 (by omega)
      have b3 := hcs' 3 (by omega)
      have a4 := hcs 4 (by omega)
      have b4 := hcs' 4 (by omega)
      have a5 := hcs 5 (by omega)
      have b5 := hcs' 5 (by omega)
      rw [← hb.cell (p := ⟨g, _, none⟩) hgl] at a0 a1 a2 a3 a4 a5
      rw [← hb.cell (p := ⟨g', _, none⟩) hgl'] at b0 b1 b2 b3 b4 b5
      simp at a0 a1 a2 a3 a4 a5 b0 b1 b2 b3 b4 b5
      clear hb hcs hat hex hcl6 hcs' hat' hex' hcl6' hne
      go_wp2
      go_region_with ((go_at_call 108; refine (hE _ _ _ x ⟨_, rfl, E1 _ (by exact ⟨Nat.le_refl _, fun _ _ _ => rfl⟩)⟩ ⟨_, rfl, E2 _ (by exact ⟨Nat.le_refl _, fun _ _ _ => rfl⟩)⟩).mono ?_; rintro e w1 ⟨rfl, hb1⟩; have HB1 : Hid _ := hb1; clear hb1))
      all_goals go_wp2
      all_goals
        have hbe : Below w.heap.size w w1 := by
          refine Below.trans ?_ (HB1.out.mono (by exact HB.out.size))
          repeat (first | exact HB.out | apply Below.drew)
        exact ⟨⟨k + 1, by omega, by go_num, hbe⟩, by simp [intOf]; omega⟩
    · go_wp2
      go_ret
      exact ⟨rfl, HB.out⟩

set_option maxHeartbeats 2000000 in
theorem eqClauseS_of {d : Nat} (hE : EqC 83 (fun w v e => ∃ cs, v = .agg cs.toArray ∧ HCl w All (HEx w All d) cs e)) :
    EqC 67 (fun w v es => Rows w All 2 (HCl w All (HEx w All d)) v es) := by
  intro w v1 v2 es h1 h2
  obtain ⟨p, cap, rfl, hcl, hcm, hx⟩ := h1
  obtain ⟨q, cap', rfl, hcl', hcm', hy⟩ := h2
  generalize hn : es.length = n at *
  have HN : Hid (es.length = n) := hn
  have HX : Hid _ := hx
  have HY : Hid _ := hy
  have hnb : n ≤ 9223372036854775807 := by unfold maxLen at hcm; omega
  clear hx hy hn
  go_enter Tryz.func67, Tryz.ntmps67
  go_wp2
  go_loopw [5] (fun iv wr => ∃ k : Nat, k ≤ n ∧ iv = .int .i64 k ∧ Below w.heap.size w wr) (fun iv _ => n - (intOf iv).toNat)
  case atStart => exact ⟨0, Nat.zero_le _, rfl, Below.refl _ _⟩
  case round =>
    obtain ⟨k, hk, rfl, hb⟩ := hrel
    have HB : Hid (Below w.heap.size w wr) := hb
    by_cases hlt : k < n
    · obtain ⟨x, hxk⟩ : ∃ x, es[k]? = some x := ⟨es[k]'(by rw [HN.out]; exact hlt), List.getElem?_eq_getElem _⟩
      have hne : es ≠ [] := by intro h; rw [h] at hxk; simp at hxk
      obtain ⟨g, off, rfl, _, hgl, hat⟩ := HX.out hne
      obtain ⟨g', off', rfl, _, hgl', hat'⟩ := HY.out hne
      obtain ⟨cs, hcl6, hcs, hex⟩ := hat k x hxk
      obtain ⟨cs', hcl6', hcs', hex'⟩ := hat' k x hxk
      have E1 : ∀ w', SameOn All wr w' → HCl w' All (HEx w' All d) cs x := fun w' hw => hex.mono (SameOn.trans (SameOn.of_below hb) hw) (fun _ h => h) (fun _ _ => HEx.mono (SameOn.trans (SameOn.of_below hb) hw) (fun _ h => h))
      have E2 : ∀ w', SameOn All wr w' → HCl w' All (HEx w' All d) cs' x := fun w' hw => hex'.mono (SameOn.trans (SameOn.of_below hb) hw) (fun _ h => h) (fun _ _ => HEx.mono (SameOn.trans (SameOn.of_below hb) hw) (fun _ h => h))
      obtain ⟨c0, c1, rfl⟩ := len2 hcl6
      obtain ⟨d0, d1, rfl⟩ := len2 hcl6'
      have a0 := hcs 0 (by omega)
      have b0 := hcs' 0 (by omega)
      have a1 := hcs 1 (by omega)
      have b1 := hcs' 1 (by omega)
      rw [← hb.cell (p := ⟨g, _, none⟩) hgl] at a0 a1
      rw [← hb.cell (p := ⟨g', _, none⟩) hgl'] at b0 b1
      simp at a0 a1 b0 b1
      clear hb hcs hat hex hcl6 hcs' hat' hex' hcl6' hne
      go_wp2
      go_region_with ((go_at_call 83; refine (hE _ _ _ x ⟨_, rfl, E1 _ (by exact ⟨Nat.le_refl _, fun _ _ _ => rfl⟩)⟩ ⟨_, rfl, E2 _ (by exact ⟨Nat.le_refl _, fun _ _ _ => rfl⟩)⟩).mono ?_; rintro e w1 ⟨rfl, hb1⟩; have HB1 : Hid _ := hb1; clear hb1))
      all_goals go_wp2
      all_goals
        have hbe : Below w.heap.size w w1 := by
          refine Below.trans ?_ (HB1.out.mono (by exact HB.out.size))
          repeat (first | exact HB.out | apply Below.drew)
        exact ⟨⟨k + 1, by omega, by go_num, hbe⟩, by simp [intOf]; omega⟩
    · go_wp2
      go_ret
      exact ⟨rfl, HB.out⟩

set_option maxHeartbeats 2000000 in
theorem eqFunS_of {d : Nat} (hE : EqC 45 (fun w v e => ∃ cs, v = .agg cs.toArray ∧ HFn w All d cs e)) :
    EqC 24 (fun w v es => Rows w All 3 (HFn w All d) v es) := by
  intro w v1 v2 es h1 h2
  obtain ⟨p, cap, rfl, hcl, hcm, hx⟩ := h1
  obtain ⟨q, cap', rfl, hcl', hcm', hy⟩ := h2
  generalize hn : es.length = n at *
  have HN : Hid (es.length = n) := hn
  have HX : Hid _ := hx
  have HY : Hid _ := hy
  have hnb : n ≤ 9223372036854775807 := by unfold maxLen at hcm; omega
  clear hx hy hn
  go_enter Tryz.func24, Tryz.ntmps24
  go_wp2
  go_loopw [5] (fun iv wr => ∃ k : Nat, k ≤ n ∧ iv = .int .i64 k ∧ Below w.heap.size w wr) (fun iv _ => n - (intOf iv).toNat)
  case atStart => exact ⟨0, Nat.zero_le _, rfl, Below.refl _ _⟩
  case round =>
    obtain ⟨k, hk, rfl, hb⟩ := hrel
    have HB : Hid (Below w.heap.size w wr) := hb
    by_cases hlt : k < n
    · obtain ⟨x, hxk⟩ : ∃ x, es[k]? = some x := ⟨es[k]'(by rw [HN.out]; exact hlt), List.getElem?_eq_getElem _⟩
      have hne : es ≠ [] := by intro h; rw [h] at hxk; simp at hxk
      obtain ⟨g, off, rfl, _, hgl, hat⟩ := HX.out hne
      obtain ⟨g', off', rfl, _, hgl', hat'⟩ := HY.out hne
      obtain ⟨cs, hcl6, hcs, hex⟩ := hat k x hxk
      obtain ⟨cs', hcl6', hcs', hex'⟩ := hat' k x hxk
      have E1 : ∀ w', SameOn All wr w' → HFn w' All d cs x := fun w' hw => hex.mono (SameOn.trans (SameOn.of_below hb) hw) (fun _ h => h)
      have E2 : ∀ w', SameOn All wr w' → HFn w' All d cs' x := fun w' hw => hex'.mono (SameOn.trans (SameOn.of_below hb) hw) (fun _ h => h)
      obtain ⟨c0, c1, c2, rfl⟩ := len3 hcl6
      obtain ⟨d0, d1, d2, rfl⟩ := len3 hcl6'
      have a0 := hcs 0 (by omega)
      have b0 := hcs' 0 (by omega)
      have a1 := hcs 1 (by omega)
      have b1 := hcs' 1 (by omega)
      have a2 := hcs 2 (by omega)
      have b2 := hcs' 2 (by omega)
      rw [← hb.cell (p := ⟨g, _, none⟩) hgl] at a0 a1 a2
      rw [← hb.cell (p := ⟨g', _, none⟩) hgl'] at b0 b1 b2
      simp at a0 a1 a2 b0 b1 b2
      clear hb hcs hat hex hcl6 hcs' hat' hex' hcl6' hne
      go_wp2
      go_region_with ((go_at_call 45; refine (hE _ _ _ x ⟨_, rfl, E1 _ (by exact ⟨Nat.le_refl _, fun _ _ _ => rfl⟩)⟩ ⟨_, rfl, E2 _ (by exact ⟨Nat.le_refl _, fun _ _ _ => rfl⟩)⟩).mono ?_; rintro e w1 ⟨rfl, hb1⟩; have HB1 : Hid _ := hb1; clear hb1))
      all_goals go_wp2
      all_goals
        have hbe : Below w.heap.size w w1 := by
          refine Below.trans ?_ (HB1.out.mono (by exact HB.out.size))
          repeat (first | exact HB.out | apply Below.drew)
        exact ⟨⟨k + 1, by omega, by go_num, hbe⟩, by simp [intOf]; omega⟩
    · go_wp2
      go_ret
      exact ⟨rfl, HB.out⟩

set_option maxHeartbeats 2000000 in
theorem eqRefS_of {d : Nat} (hE : EqC 23 (fun w v e => ∃ cs, v = .agg cs.toArray ∧ HRf cs e)) :
    EqC 8 (fun w v es => Rows w All 2 (HRf) v es) := by
  intro w v1 v2 es h1 h2
  obtain ⟨p, cap, rfl, hcl, hcm, hx⟩ := h1
  obtain ⟨q, cap', rfl, hcl', hcm', hy⟩ := h2
  generalize hn : es.length = n at *
  have HN : Hid (es.length = n) := hn
  have HX : Hid _ := hx
  have HY : Hid _ := hy
  have hnb : n ≤ 9223372036854775807 := by unfold maxLen at hcm; omega
  clear hx hy hn
  go_enter Tryz.func8, Tryz.ntmps8
  go_wp2
  go_loopw [5] (fun iv wr => ∃ k : Nat, k ≤ n ∧ iv = .int .i64 k ∧ Below w.heap.size w wr) (fun iv _ => n - (intOf iv).toNat)
  case atStart => exact ⟨0, Nat.zero_le _, rfl, Below.refl _ _⟩
  case round =>
    obtain ⟨k, hk, rfl, hb⟩ := hrel
    have HB : Hid (Below w.heap.size w wr) := hb
    by_cases hlt : k < n
    · obtain ⟨x, hxk⟩ : ∃ x, es[k]? = some x := ⟨es[k]'(by rw [HN.out]; exact hlt), List.getElem?_eq_getElem _⟩
      have hne : es ≠ [] := by intro h; rw [h] at hxk; simp at hxk
      obtain ⟨g, off, rfl, _, hgl, hat⟩ := HX.out hne
      obtain ⟨g', off', rfl, _, hgl', hat'⟩ := HY.out hne
      obtain ⟨cs, hcl6, hcs, hex⟩ := hat k x hxk
      obtain ⟨cs', hcl6', hcs', hex'⟩ := hat' k x hxk
      have E1 : ∀ w', SameOn All wr w' → HRf cs x := fun w' hw => hex
      have E2 : ∀ w', SameOn All wr w' → HRf cs' x := fun w' hw => hex'
      obtain ⟨c0, c1, rfl⟩ := len2 hcl6
      obtain ⟨d0, d1, rfl⟩ := len2 hcl6'
      have a0 := hcs 0 (by omega)
      have b0 := hcs' 0 (by omega)
      have a1 := hcs 1 (by omega)
      have b1 := hcs' 1 (by omega)
      rw [← hb.cell (p := ⟨g, _, none⟩) hgl] at a0 a1
      rw [← hb.cell (p := ⟨g', _, none⟩) hgl'] at b0 b1
      simp at a0 a1 b0 b1
      clear hb hcs hat hex hcl6 hcs' hat' hex' hcl6' hne
      go_wp2
      go_region_with ((go_at_call 23; refine (hE _ _ _ x ⟨_, rfl, E1 _ (by exact ⟨Nat.le_refl _, fun _ _ _ => rfl⟩)⟩ ⟨_, rfl, E2 _ (by exact ⟨Nat.le_refl _, fun _ _ _ => rfl⟩)⟩).mono ?_; rintro e w1 ⟨rfl, hb1⟩; have HB1 : Hid _ := hb1; clear hb1))
      all_goals go_wp2
      all_goals
        have hbe : Below w.heap.size w w1 := by
          refine Below.trans ?_ (HB1.out.mono (by exact HB.out.size))
          repeat (first | exact HB.out | apply Below.drew)
        exact ⟨⟨k + 1, by omega, by go_num, hbe⟩, by simp [intOf]; omega⟩
    · go_wp2
      go_ret
      exact ⟨rfl, HB.out⟩

set_option maxHeartbeats 2000000 in
theorem eqExp_of {d : Nat} (h0 : EqC 101 (fun w v es => Rows w All 6 (HEx w All d) v es)) (h1 : EqC 67 (fun w v es => Rows w All 2 (HCl w All (HEx w All d)) v es)) :
    EqC 108 (fun w v e => ∃ cs, v = .agg cs.toArray ∧ HEx w All (d + 1) cs e) := by
  intro w v1 v2 e i1 i2
  obtain ⟨cs, rfl, kv, cv, rfl, p1, p2, p3, p4, f0, f1⟩ := i1
  obtain ⟨cs, rfl, kv', cv', rfl, p1', p2', p3', p4', f0', f1'⟩ := i2
  have hal : Below w.heap.size w ((w.alloc (.cells #[.int .i64 e.kind, .int .i64 e.n, .string e.text, .string e.mod, kv, cv] 73)).alloc (.cells #[.int .i64 e.kind, .int .i64 e.n, .string e.text, .string e.mod, kv', cv'] 73)) := ((Below.refl _ _).alloc (Nat.le_refl _) _).alloc (by simp) _
  have HA : Hid (Below w.heap.size w ((w.alloc (.cells #[.int .i64 e.kind, .int .i64 e.n, .string e.text, .string e.mod, kv, cv] 73)).alloc (.cells #[.int .i64 e.kind, .int .i64 e.n, .string e.text, .string e.mod, kv', cv'] 73))) := hal
  have g0 : ∀ w', SameOn All w w' → Rows w' All 6 (HEx w' All d) kv e.kids := fun w' hw => f0.mono (hw) (fun _ h => h) (fun _ _ _ => HEx.mono (hw) (fun _ h => h))
  have g0' : ∀ w', SameOn All w w' → Rows w' All 6 (HEx w' All d) kv' e.kids := fun w' hw => f0'.mono (hw) (fun _ h => h) (fun _ _ _ => HEx.mono (hw) (fun _ h => h))
  have g1 : ∀ w', SameOn All w w' → Rows w' All 2 (HCl w' All (HEx w' All d)) cv e.clauses := fun w' hw => f1.mono (hw) (fun _ h => h) (fun _ _ _ h => h.mono (hw) (fun _ h => h) (fun _ _ => HEx.mono (hw) (fun _ h => h)))
  have g1' : ∀ w', SameOn All w w' → Rows w' All 2 (HCl w' All (HEx w' All d)) cv' e.clauses := fun w' hw => f1'.mono (hw) (fun _ h => h) (fun _ _ _ h => h.mono (hw) (fun _ h => h) (fun _ _ => HEx.mono (hw) (fun _ h => h)))
  clear hal f0 f0' f1 f1'
  go_enter Tryz.func108, Tryz.ntmps108
  go_wp2_with (first | (go_at_call 67; (refine (h1 _ _ _ e.clauses (g1 _ (SameOn.of_below (HA.out.trans (HB0.out.mono HA.out.size)))) (g1' _ (SameOn.of_below (HA.out.trans (HB0.out.mono HA.out.size))))).mono ?_; rintro e w1 ⟨rfl, hb1⟩; have HB1 : Hid _ := hb1; clear hb1)) | (go_at_call 101; (refine (h0 _ _ _ e.kids (g0 _ (SameOn.of_below HA.out)) (g0' _ (SameOn.of_below HA.out))).mono ?_; rintro e w0 ⟨rfl, hb0⟩; have HB0 : Hid _ := hb0; have k0 := (hb0.cell (p := ⟨w.heap.size, 5, none⟩) (by simp only [alloc_hs]; omega)).trans ((World.cell?_of_block (a := ⟨w.heap.size, 5, none⟩) (Below.heap_alloc _ _ _ (by simp))).trans (cell_new _ _ _ 5 cv rfl)); have m0 := (hb0.cell (p := ⟨(w.alloc (.cells #[.int .i64 e.kind, .int .i64 e.n, .string e.text, .string e.mod, kv, cv] 73)).heap.size, 5, none⟩) (by simp)).trans (cell_new _ _ _ 5 cv' rfl); simp only [alloc_hs] at m0; clear hb0)))
  go_ret
  exact ⟨rfl, ((HA.out.trans (HB0.out.mono HA.out.size)).trans (HB1.out.mono (HA.out.trans (HB0.out.mono HA.out.size)).size))⟩

set_option maxHeartbeats 2000000 in
theorem eqClause_of {d : Nat} (h0 : EqC 101 (fun w v es => Rows w All 6 (HEx w All d) v es)) (h1 : EqC 101 (fun w v es => Rows w All 6 (HEx w All d) v es)) :
    EqC 83 (fun w v e => ∃ cs, v = .agg cs.toArray ∧ HCl w All (HEx w All d) cs e) := by
  intro w v1 v2 e i1 i2
  obtain ⟨cs, rfl, kv, cv, rfl, f0, f1⟩ := i1
  obtain ⟨cs, rfl, kv', cv', rfl, f0', f1'⟩ := i2
  have hal : Below w.heap.size w ((w.alloc (.cells #[kv, cv] 48)).alloc (.cells #[kv', cv'] 48)) := ((Below.refl _ _).alloc (Nat.le_refl _) _).alloc (by simp) _
  have HA : Hid (Below w.heap.size w ((w.alloc (.cells #[kv, cv] 48)).alloc (.cells #[kv', cv'] 48))) := hal
  have g0 : ∀ w', SameOn All w w' → Rows w' All 6 (HEx w' All d) kv e.1 := fun w' hw => f0.mono (hw) (fun _ h => h) (fun _ _ _ => HEx.mono (hw) (fun _ h => h))
  have g0' : ∀ w', SameOn All w w' → Rows w' All 6 (HEx w' All d) kv' e.1 := fun w' hw => f0'.mono (hw) (fun _ h => h) (fun _ _ _ => HEx.mono (hw) (fun _ h => h))
  have g1 : ∀ w', SameOn All w w' → Rows w' All 6 (HEx w' All d) cv e.2 := fun w' hw => f1.mono (hw) (fun _ h => h) (fun _ _ _ => HEx.mono (hw) (fun _ h => h))
  have g1' : ∀ w', SameOn All w w' → Rows w' All 6 (HEx w' All d) cv' e.2 := fun w' hw => f1'.mono (hw) (fun _ h => h) (fun _ _ _ => HEx.mono (hw) (fun _ h => h))
  clear hal f0 f0' f1 f1'
  go_enter Tryz.func83, Tryz.ntmps83
  go_wp2_with (first | (go_at_call 101; (refine (h1 _ _ _ e.2 (g1 _ (SameOn.of_below (HA.out.trans (HB0.out.mono HA.out.size)))) (g1' _ (SameOn.of_below (HA.out.trans (HB0.out.mono HA.out.size))))).mono ?_; rintro e w1 ⟨rfl, hb1⟩; have HB1 : Hid _ := hb1; clear hb1)) | (go_at_call 101; (refine (h0 _ _ _ e.1 (g0 _ (SameOn.of_below HA.out)) (g0' _ (SameOn.of_below HA.out))).mono ?_; rintro e w0 ⟨rfl, hb0⟩; have HB0 : Hid _ := hb0; have k0 := (hb0.cell (p := ⟨w.heap.size, 1, none⟩) (by simp only [alloc_hs]; omega)).trans ((World.cell?_of_block (a := ⟨w.heap.size, 1, none⟩) (Below.heap_alloc _ _ _ (by simp))).trans (cell_new _ _ _ 1 cv rfl)); have m0 := (hb0.cell (p := ⟨(w.alloc (.cells #[kv, cv] 48)).heap.size, 1, none⟩) (by simp)).trans (cell_new _ _ _ 1 cv' rfl); simp only [alloc_hs] at m0; clear hb0)))
  go_ret
  exact ⟨rfl, ((HA.out.trans (HB0.out.mono HA.out.size)).trans (HB1.out.mono (HA.out.trans (HB0.out.mono HA.out.size)).size))⟩

set_option maxHeartbeats 2000000 in
theorem eqFun_of {d : Nat} (h0 : EqC 67 (fun w v es => Rows w All 2 (HCl w All (HEx w All d)) v es)) :
    EqC 45 (fun w v e => ∃ cs, v = .agg cs.toArray ∧ HFn w All d cs e) := by
  intro w v1 v2 e i1 i2
  obtain ⟨cs, rfl, cv, rfl, p1, p2, f0⟩ := i1
  obtain ⟨cs, rfl, cv', rfl, p1', p2', f0'⟩ := i2
  have hal : Below w.heap.size w ((w.alloc (.cells #[.string e.name, .int .i64 e.arity, cv] 43)).alloc (.cells #[.string e.name, .int .i64 e.arity, cv'] 43)) := ((Below.refl _ _).alloc (Nat.le_refl _) _).alloc (by simp) _
  have HA : Hid (Below w.heap.size w ((w.alloc (.cells #[.string e.name, .int .i64 e.arity, cv] 43)).alloc (.cells #[.string e.name, .int .i64 e.arity, cv'] 43))) := hal
  have g0 : ∀ w', SameOn All w w' → Rows w' All 2 (HCl w' All (HEx w' All d)) cv e.clauses := fun w' hw => f0.mono (hw) (fun _ h => h) (fun _ _ _ h => h.mono (hw) (fun _ h => h) (fun _ _ => HEx.mono (hw) (fun _ h => h)))
  have g0' : ∀ w', SameOn All w w' → Rows w' All 2 (HCl w' All (HEx w' All d)) cv' e.clauses := fun w' hw => f0'.mono (hw) (fun _ h => h) (fun _ _ _ h => h.mono (hw) (fun _ h => h) (fun _ _ => HEx.mono (hw) (fun _ h => h)))
  clear hal f0 f0'
  go_enter Tryz.func45, Tryz.ntmps45
  go_wp2_with (first | (go_at_call 67; (refine (h0 _ _ _ e.clauses (g0 _ (SameOn.of_below HA.out)) (g0' _ (SameOn.of_below HA.out))).mono ?_; rintro e w0 ⟨rfl, hb0⟩; have HB0 : Hid _ := hb0; clear hb0)))
  go_ret
  exact ⟨rfl, (HA.out.trans (HB0.out.mono HA.out.size))⟩

set_option maxHeartbeats 2000000 in
theorem eqRef_of {d : Nat}  :
    EqC 23 (fun w v e => ∃ cs, v = .agg cs.toArray ∧ HRf cs e) := by
  intro w v1 v2 e i1 i2
  obtain ⟨cs, rfl, rfl, p1, p2⟩ := i1
  obtain ⟨cs, rfl, rfl, p1', p2'⟩ := i2
  go_enter Tryz.func23, Tryz.ntmps23
  go_wp2
  go_ret
  exact ⟨rfl, ((Below.refl _ _).alloc (Nat.le_refl _) _).alloc (by simp) _⟩

set_option maxHeartbeats 2000000 in
theorem eqModule_of {d : Nat} (h0 : EqC 8 (fun w v es => Rows w All 2 (HRf) v es)) (h1 : EqC 24 (fun w v es => Rows w All 3 (HFn w All d) v es)) :
    EqC 9 (fun w v e => ∃ cs, v = .agg cs.toArray ∧ HMd w All d cs e) := by
  intro w v1 v2 e i1 i2
  obtain ⟨cs, rfl, kv, cv, rfl, p1, f0, f1⟩ := i1
  obtain ⟨cs, rfl, kv', cv', rfl, p1', f0', f1'⟩ := i2
  have hal : Below w.heap.size w ((w.alloc (.cells #[.string e.name, kv, cv] 31)).alloc (.cells #[.string e.name, kv', cv'] 31)) := ((Below.refl _ _).alloc (Nat.le_refl _) _).alloc (by simp) _
  have HA : Hid (Below w.heap.size w ((w.alloc (.cells #[.string e.name, kv, cv] 31)).alloc (.cells #[.string e.name, kv', cv'] 31))) := hal
  have g0 : ∀ w', SameOn All w w' → Rows w' All 2 HRf kv e.exports := fun w' hw => f0.mono (hw) (fun _ h => h) (fun _ _ _ h => h)
  have g0' : ∀ w', SameOn All w w' → Rows w' All 2 HRf kv' e.exports := fun w' hw => f0'.mono (hw) (fun _ h => h) (fun _ _ _ h => h)
  have g1 : ∀ w', SameOn All w w' → Rows w' All 3 (HFn w' All d) cv e.funs := fun w' hw => f1.mono (hw) (fun _ h => h) (fun _ _ _ h => h.mono (hw) (fun _ h => h))
  have g1' : ∀ w', SameOn All w w' → Rows w' All 3 (HFn w' All d) cv' e.funs := fun w' hw => f1'.mono (hw) (fun _ h => h) (fun _ _ _ h => h.mono (hw) (fun _ h => h))
  clear hal f0 f0' f1 f1'
  go_enter Tryz.func9, Tryz.ntmps9
  go_wp2_with (first | (go_at_call 24; (refine (h1 _ _ _ e.funs (g1 _ (SameOn.of_below (HA.out.trans (HB0.out.mono HA.out.size)))) (g1' _ (SameOn.of_below (HA.out.trans (HB0.out.mono HA.out.size))))).mono ?_; rintro e w1 ⟨rfl, hb1⟩; have HB1 : Hid _ := hb1; clear hb1)) | (go_at_call 8; (refine (h0 _ _ _ e.exports (g0 _ (SameOn.of_below HA.out)) (g0' _ (SameOn.of_below HA.out))).mono ?_; rintro e w0 ⟨rfl, hb0⟩; have HB0 : Hid _ := hb0; have k0 := (hb0.cell (p := ⟨w.heap.size, 2, none⟩) (by simp only [alloc_hs]; omega)).trans ((World.cell?_of_block (a := ⟨w.heap.size, 2, none⟩) (Below.heap_alloc _ _ _ (by simp))).trans (cell_new _ _ _ 2 cv rfl)); have m0 := (hb0.cell (p := ⟨(w.alloc (.cells #[.string e.name, kv, cv] 31)).heap.size, 2, none⟩) (by simp)).trans (cell_new _ _ _ 2 cv' rfl); simp only [alloc_hs] at m0; clear hb0)))
  go_ret
  exact ⟨rfl, ((HA.out.trans (HB0.out.mono HA.out.size)).trans (HB1.out.mono (HA.out.trans (HB0.out.mono HA.out.size)).size))⟩

theorem eqExp_all : ∀ d, EqC 108 (fun w v e => ∃ cs, v = .agg cs.toArray ∧ HEx w All d cs e)
  | 0 => fun w v v' x ⟨_, _, h⟩ _ => h.elim
  | d + 1 => eqExp_of (eqExpS_of (eqExp_all d)) (eqClauseS_of (eqClause_of (eqExpS_of (eqExp_all d)) (eqExpS_of (eqExp_all d))))
theorem eqClauseS_all (d : Nat) : EqC 67 (fun w v es => Rows w All 2 (HCl w All (HEx w All d)) v es) :=
  eqClauseS_of (eqClause_of (eqExpS_of (eqExp_all d)) (eqExpS_of (eqExp_all d)))

/-- THE LAWS' eqModule. -/
theorem eqModule_all (d : Nat) : EqC 9 (fun w v m => ∃ cs, v = .agg cs.toArray ∧ HMd w All d cs m) :=
  eqModule_of (eqRefS_of (d := 0) (eqRef_of (d := 0))) (eqFunS_of (eqFun_of (eqClauseS_all d)))
end Go.Proofs.YtpkhblhcdnohmaaGreatDoor
/-
  What the walks of laws over modules with rows of names for an answer lean on.
-/
namespace Go.Proofs.YtpkhblhcdnohmaaGreatDoor
open Go.ChangeShapes Go.WideShapes Go.ChangeAt Go.RowKit
set_option linter.unusedVariables false

theorem cntE_le : ∀ (d : Nat) (x : Ex), cntE d x ≤ 4 + 5 * wtEx d x
  | 0, _ => by simp [cntE]
  | d + 1, .mk k n t m ks cs => by
    have hS : ∀ (l : List Ex), (l.map (cntE d)).sum ≤ 5 * wtS (wtEx d) l := by
      intro l
      induction l with
      | nil => simp
      | cons y ys ih =>
        have h1 := cntE_le d y
        have h2 : wtS (wtEx d) (y :: ys) = 1 + wtEx d y + wtS (wtEx d) ys := by simp [wtS]; omega
        simp only [List.map_cons, List.sum_cons]; omega
    have hC : ∀ (l : List Cl), (l.map (cntC (cntE d))).sum ≤ 5 * wtS (wtCl (wtEx d)) l := by
      intro l
      induction l with
      | nil => simp
      | cons y ys ih =>
        have h1 := hS y.1
        have h3 := hS y.2
        have h4 : wtCl (wtEx d) y = wtS (wtEx d) y.1 + wtS (wtEx d) y.2 := rfl
        have h5 : cntC (cntE d) y = (y.1.map (cntE d)).sum + (y.2.map (cntE d)).sum := rfl
        have h2 : wtS (wtCl (wtEx d)) (y :: ys) = 1 + wtCl (wtEx d) y + wtS (wtCl (wtEx d)) ys := by simp [wtS]; omega
        simp only [List.map_cons, List.sum_cons]; omega
    have h1 := hS ks
    have h2 := hC cs
    have hw : wtEx (d + 1) (.mk k n t m ks cs) = t.size + m.size + wtS (wtEx d) ks + wtS (wtCl (wtEx d)) cs := rfl
    have hc : cntE (d + 1) (.mk k n t m ks cs) = 4 + (ks.map (cntE d)).sum + (cs.map (cntC (cntE d))).sum := rfl
    rw [hc, hw]; omega
theorem cntCS_le (d : Nat) : ∀ (l : List Cl), (l.map (cntC (cntE d))).sum ≤ 5 * wtS (wtCl (wtEx d)) l := by
  have hS : ∀ (l : List Ex), (l.map (cntE d)).sum ≤ 5 * wtS (wtEx d) l := by
    intro l
    induction l with
    | nil => simp
    | cons y ys ih =>
      have h1 := cntE_le d y
      have h2 : wtS (wtEx d) (y :: ys) = 1 + wtEx d y + wtS (wtEx d) ys := by simp [wtS]; omega
      simp only [List.map_cons, List.sum_cons]; omega
  intro l
  induction l with
  | nil => simp
  | cons y ys ih =>
    have h1 := hS y.1
    have h3 := hS y.2
    have h4 : wtCl (wtEx d) y = wtS (wtEx d) y.1 + wtS (wtEx d) y.2 := rfl
    have h5 : cntC (cntE d) y = (y.1.map (cntE d)).sum + (y.2.map (cntE d)).sum := rfl
    have h2 : wtS (wtCl (wtEx d)) (y :: ys) = 1 + wtCl (wtEx d) y + wtS (wtCl (wtEx d)) ys := by simp [wtS]; omega
    simp only [List.map_cons, List.sum_cons]; omega
theorem cntRS_eq : ∀ (l : List Rf), (l.map cntR).sum = 2 * l.length
  | [] => rfl
  | x :: xs => by
    have := cntRS_eq xs
    simp only [List.map_cons, List.sum_cons, List.length_cons]
    unfold cntR at *
    omega
theorem cntM_le (d : Nat) (m : Md) : cntM d m ≤ 5 * wtMd d m := by
  have h1 := cntRS_eq m.exports
  have h2 : ∀ (l : List Fn'), (l.map (cntF d)).sum ≤ 5 * wtS (wtFn d) l := by
    intro l
    induction l with
    | nil => simp
    | cons y ys ih =>
      have h3 := cntCS_le d y.clauses
      have h4 : cntF d y = 2 + (y.clauses.map (cntC (cntE d))).sum := rfl
      have h5 : wtFn d y = y.name.size + wtS (wtCl (wtEx d)) y.clauses := rfl
      have h6 : wtS (wtFn d) (y :: ys) = 1 + wtFn d y + wtS (wtFn d) ys := by simp [wtS]; omega
      simp only [List.map_cons, List.sum_cons]; omega
  have h3 := h2 m.funs
  have h4 : wtMd d m = m.name.size + wtS wtRf m.exports + wtS (wtFn d) m.funs := rfl
  have h5 : wtS wtRf m.exports = m.exports.length + (m.exports.map wtRf).sum := rfl
  have h6 : cntM d m = (m.exports.map cntR).sum + (m.funs.map (cntF d)).sum := rfl
  omega
theorem eqRs_own {w : World} {B1 C1 B2 C2 : Nat} {u1 u2 : Value} {l : List Rf} (h1 : OwnT ORs w B1 C1 u1 l) (h2 : OwnT ORs w B2 C2 u2 l) :
    Calls Tryz.prog 8 #[u1, u2] w fun e w' => e = .returned (.bool true) ∧ Below w.heap.size w w' :=
  eqRefS_of (d := 0) (eqRef_of (d := 0)) w u1 u2 l (ORs.rows h1) (ORs.rows h2)
theorem markRs_own {w : World} {B C : Nat} {u : Value} {l : List Rf} (h : OwnT ORs w B C u l) (hl : l.length ≤ 2097152) :
    Calls Tryz.prog 11 #[u, .int .i64 1] w fun e w' => e = .returned (.int .i64 ((1 + 2 * l.length : Nat) : Int)) ∧ OwnT ORs w' B C u (markL markR cntR 1 l) ∧ OffR B C w w' := by
  obtain ⟨fp, h1, h2, h3, h4, h5⟩ := h
  have hc := cntRS_eq l
  refine (markRS_all 0 w u l fp 1 h1 h2 (Nat.le_refl _) (by omega)).mono ?_
  rintro e w' ⟨rfl, ho, hoff⟩
  exact ⟨by rw [hc], ⟨fp, ho, h2, h3, h4, Nat.le_trans h5 hoff.size⟩, OffR.of hoff h3⟩
theorem heldRs_own {w : World} {B C : Nat} {u : Value} {l : List Rf} (h : OwnT ORs w B C u (markL markR cntR 1 l)) (hl : l.length ≤ 2097152) :
    Calls Tryz.prog 12 #[u, .int .i64 1] w fun e w' => e = .returned (.int .i64 ((1 + 2 * l.length : Nat) : Int)) ∧ Below w.heap.size w w' := by
  have hc := cntRS_eq l
  rw [← hc]
  exact heldRS_all w u l 1 (ORs.rows h) (Nat.le_refl _) (by omega)
end Go.Proofs.YtpkhblhcdnohmaaGreatDoor
