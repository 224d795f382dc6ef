/-
  Texts of the proof, packed: Frame, Frame2, PlOpen.
-/
import Derived.Test.YtoknolophmhlgaaGreatDoorRows
import Derived.WalkKit
import Derived.ProofKit
import Derived.OpenShut
import Derived.OpenVars
import Derived.LaidMore
import Derived.Lib.LaidTab
import Derived.Deep.DeepHandedRow
import Derived.Test.YtoknolophmhlgaaGreatDoorPackG
/-
  Laws of no one function: what a law's statement asks behind the call, where nothing that was there has turned and the call answers true; a start that fits; what a listed array of texts holds.
-/
namespace Go.Proofs.YtoknolophmhlgaaGreatDoor
open Go.ChangeShapes Go.WideShapes Go.ChangeAt Go.RowKit
set_option linter.unusedVariables false

theorem trodAll_below {H : Type} {enc : TypeId × Value → H} {P : Program} (hl : laidOutB P = true) {W W' : World} (hb : Below W.heap.size W W') :
    ∀ {ts : List TypeId} {vs : List Value} {ds : List (DataW H)} {ps : List MemPlace}, (ts.all fun t => P.readableRec t && decide (t < P.types.size)) = true →
      DataW.TrodAll enc P W 0 (fun _ => true) true ts vs ds ps → (∀ x ∈ ps, x.block < W.heap.size) → DataW.TrodAll enc P W' 0 (fun b => decide (b < W.heap.size)) true ts vs ds ps
  | [], _, _, _, _, h, _ => by
    obtain ⟨rfl, rfl, rfl⟩ := trodAll_nil h
    exact trodAll_mk0
  | t :: ts, vs, ds, ps, ht, h, hlt => by
    obtain ⟨v, vs', d, ds', p, q, rfl, rfl, rfl, h0, hs⟩ := trodAll_cons h
    simp only [List.all_cons, Bool.and_eq_true, decide_eq_true_eq] at ht
    exact trodAll_cons_mk (Below.trod hl ht.1.1 ht.1.2 h0 hb (fun x hx => hlt x (by simp [hx])))
      (trodAll_below hl hb ht.2 hs (fun x hx => hlt x (by simp [hx])))

/-- WHAT THE STATEMENT ASKS BEHIND THE CALL, of a law that answers true and turns nothing that was there. -/
theorem post_true {H : Type} {enc : TypeId × Value → H} {P : Program} {f : Func} {s : ChangeSpec} {W W' : World} {args : Array Value} {ds gs : List (DataW H)} {before : List MemPlace}
    (hl : laidOutB P = true) (hts : (f.params.toList.all fun t => P.readableRec t && decide (t < P.types.size)) = true) (hvs : varsRowed P s.vars = true) {tb : TypeId} (htb : P.underlying tb = some .bool)
    (hres : f.resultTypes = #[tb]) (hW : DataW.Whole enc P f.params.toList s.vars false W args.toList ds gs before)
    (hfn : s.fn H (ds ++ gs) = { results := [.lit (.bool true)], args := ds, vars := gs }) (hb : Below W.heap.size W W') :
    s.post enc P f false true false false W args (.bool true) W' := by
  have hlt : ∀ x ∈ before, x.block < W.heap.size := fun x hx => by simpa using hW.lt x hx
  have hW' := hW
  obtain ⟨p, q, hA, hV, rfl, hfz, hnd⟩ := hW
  refine ⟨ds, gs, p ++ q, [], p, q, hW', ?_, ?_, ?_, hb.frame _, fun h => by cases h⟩
  · rw [hfn, hres]
    exact trodAll_mk1 (shut_bool htb true)
  · rw [hfn]
    exact trodAll_below hl hb hts hA (fun x hx => hlt x (by simp [hx]))
  · rw [hfn]
    exact Below.trodVars hl hb hvs hV

/-- 'THERE IS AN INPUT THAT FITS', at a world whose shape is shown. -/
theorem witness_row_shaped {H : Type} {enc : TypeId × Value → H} {C : Checked} {os : Os} {f : FuncId} {fn : Func} {s : OpenSpec} {conds : List PathCond} {apart : Bool} {laid : List (String × DataW Unit)} (w0 : World) (args : Array Value) (hos : w0.os = os)
    (hsh : (w0.forCall (fun _ _ => 0) ⟨#[], args, []⟩).Shaped C.prog)
    (hok : Input.okWideB C.prog (w0.forCall (fun _ _ => 0) ⟨#[], args, []⟩) f ⟨#[], args, []⟩ = true)
    (hrow : s.preRow enc C.prog fn conds apart laid (w0.forCall (fun _ _ => 0) ⟨#[], args, []⟩).memory args) :
    ∃ (w : World) (tape : Tape) (i : Input), w.os = os ∧ (w.forCall tape i).Shaped C.prog ∧ i.vars = [] ∧ Input.okWide C.prog (w.forCall tape i) .any w.heap.size f i ∧
      s.preRow enc C.prog fn conds apart laid (w.forCall tape i).memory i.args ∧ ({} : Assume).holds C.prog (lone (Frame.enter C.prog f i.args .normal) [] (w.forCall tape i)) :=
  ⟨w0, fun _ _ => 0, ⟨#[], args, []⟩, hos, hsh, (Input.okWide_of_okWideB (base := 0) hok).1, (Input.okWide_of_okWideB hok).2, hrow, by
    simp [Assume.holds]⟩

/-- A listed array of texts, as a row lists it. -/
def strTab {H : Type} (ss : List (List UInt8)) : DataW H := .agg (ss.map fun s => .lit (.string s))

theorem cells_of_strTab {H : Type} {enc : TypeId × Value → H} {P : Program} {w : World} {base : Nat} {sp : Nat → Bool} {held : Bool} {fuel : Nat} {t e : TypeId} {n : Nat} {cs : List Value} {ss : List (List UInt8)} {p : List MemPlace}
    (ht : P.underlying t = some (.array n e)) (he : P.underlying e = some .string) (hce : P.cellsOf e = 1) (hct : P.cellsOf t = n)
    (h : DataW.trod enc P w base sp held fuel t cs = some (strTab ss, p)) : cs = ss.map fun s => Value.string ⟨s.toArray⟩ := by
  cases fuel with
  | zero => simp [DataW.trod] at h
  | succ fuel =>
    simp only [DataW.trod, ht, hce, hct, Nat.mul_one] at h
    split at h
    · rename_i hl
      obtain ⟨xs, hm, hx⟩ := Option.map_eq_some_iff.1 h
      have hxs : xs.map (·.1) = ss.map fun s => (DataW.lit (.string s) : DataW H) := by
        have := congrArg Prod.fst hx
        simpa [strTab] using this
      have hxl : xs.length = n := by simpa using Lib.mapM_length hm
      have hzl : ss.length = n := by
        have := congrArg List.length hxs
        simp at this
        omega
      apply List.ext_getElem?
      intro i
      by_cases hi : i < n
      · obtain ⟨b, hb, hf⟩ := Lib.mapM_at hm i i (by simp [hi])
        obtain ⟨z, hc, rfl, _⟩ := DataW.trod_string he hf
        have h1 : cs[i]? = some (.string z) := by
          have := congrArg (·[0]?) hc
          simpa [List.getElem?_take, List.getElem?_drop] using this
        have h2 : (xs.map (·.1))[i]? = some (DataW.lit (.string z.data.toList) : DataW H) := by simp [hb]
        rw [hxs] at h2
        simp only [List.getElem?_map, Option.map_eq_some_iff, DataW.lit.injEq, Lit.string.injEq] at h2
        obtain ⟨z', hz', rfl⟩ := h2
        simp [h1, hz']
      · rw [List.getElem?_eq_none (by omega), List.getElem?_eq_none (by simp; omega)]
    · cases h

/-- The variable NAME holds just these texts. -/
def StrIs (P : Program) (w : World) (name : String) (ss : List (List UInt8)) : Prop := w.var? P name = some (ss.map fun s => Value.string ⟨s.toArray⟩).toArray

theorem strIs_of_vars {P : Program} {W : World} {name : String} {ss : List (List UInt8)} {rest : List (String × DataW Unit)} {ps : List MemPlace} {g : Nat} {t e : TypeId} {n : Nat}
    (hg : P.globalNamed name = some g) (hty : (P.globals[g]?).map (·.type) = some t) (ht : P.underlying t = some (.array n e)) (he : P.underlying e = some .string) (hce : P.cellsOf e = 1) (hct : P.cellsOf t = n)
    (h : DataW.LaidVars P W ((name, strTab ss) :: rest) ps) : StrIs P W name ss ∧ ∃ q, DataW.LaidVars P W rest q := by
  obtain ⟨g', t', cs, fuel, p, q, hg', ht', hvar, hd, hq, _⟩ := h
  obtain rfl := Option.some.inj (hg.symm.trans hg')
  obtain rfl := Option.some.inj (hty.symm.trans ht')
  refine ⟨?_, q, hq⟩
  unfold StrIs
  rw [hvar, ← cells_of_strTab ht he hce hct hd]

theorem tabIs_of_vars {P : Program} {W : World} {name : String} {k : IntKind} {zs : List Int} {rest : List (String × DataW Unit)} {ps : List MemPlace} {g : Nat} {t e : TypeId} {n : Nat}
    (hg : P.globalNamed name = some g) (hty : (P.globals[g]?).map (·.type) = some t) (ht : P.underlying t = some (.array n e)) (he : P.underlying e = some (.int k)) (hce : P.cellsOf e = 1) (hct : P.cellsOf t = n)
    (h : DataW.LaidVars P W ((name, Lib.tabData k zs) :: rest) ps) : Lib.TabIs P W name k zs ∧ ∃ q, DataW.LaidVars P W rest q := by
  obtain ⟨g', t', cs, fuel, p, q, hg', ht', hvar, hd, hq, _⟩ := h
  obtain rfl := Option.some.inj (hg.symm.trans hg')
  obtain rfl := Option.some.inj (hty.symm.trans ht')
  refine ⟨?_, q, hq⟩
  unfold Lib.TabIs
  rw [hvar, ← Lib.cells_of_tab ht he hce hct hd]

theorem StrIs.cell {P : Program} {W : World} {name : String} {ss : List (List UInt8)} {g : Nat} (h : StrIs P W name ss) (hg : P.globalNamed name = some g) (i : Nat) (hi : i < ss.length) :
    W.cell? ⟨g, i, none⟩ = some (.string ⟨(ss.getD i []).toArray⟩) := by
  have := World.var?_cell hg h i
  simpa [List.getD, hi] using this

theorem trodVars_length {H : Type} {enc : TypeId × Value → H} {P : Program} {w : World} {sp : Nat → Bool} :
    ∀ {ns : List String} {gs : List (DataW H)} {ps : List MemPlace}, DataW.TrodVars enc P w sp ns gs ps → gs.length = ns.length
  | [], [], _, _ => rfl
  | [], _ :: _, _, h => h.elim
  | _ :: _, [], _, h => h.elim
  | n :: ns, d :: ds, ps, h => by
    obtain ⟨g, t, cs, fuel, p, q, h1, h2, h3, h4, hs, e⟩ := h
    simp [trodVars_length hs]

/-- The premises at a start, by closed facts: for the first form (k: always true) and for the second (k: its bound). -/
theorem preRow_of_bool {H : Type} {enc : TypeId × Value → H} {P : Program} {f : Func} {s : OpenSpec} {conds : List PathCond} {apart : Bool} {laid : List (String × DataW Unit)} {w : World} {args : Array Value} (fuel : Nat)
    (k : (H : Type) → List (DataW H) → Bool) (hk : ∀ k', s.cond = some k' → k' = k)
    (hx : ((DataW.whole enc P w f.params.toList s.vars apart args.toList fuel).any fun x => conds.all (PathCond.test P ⟨f.params.toList, x.1, s.bare.plain.varTypes P, x.2.1⟩) && k H (x.1 ++ x.2.1)) = true)
    (hsz : s.bare.sizedB enc P f apart w args fuel = true) (hl : laidMetH P laid w) : s.preRow enc P f conds apart laid w args := by
  cases h : DataW.whole enc P w f.params.toList s.vars apart args.toList fuel with
  | none => rw [h] at hx; cases hx
  | some x =>
    rw [h] at hx
    simp only [Option.any_some, Bool.and_eq_true] at hx
    exact OpenSpec.preRow_of_cond fuel h hx.1 (fun k' hk' => by rw [hk k' hk']; exact hx.2) hsz hl
end Go.Proofs.YtoknolophmhlgaaGreatDoor
/-
  What a listed array of structs of integers holds.
-/
namespace Go.Proofs.YtoknolophmhlgaaGreatDoor
open Go.ChangeShapes Go.WideShapes Go.ChangeAt Go.RowKit
set_option linter.unusedVariables false

/-- A listed array of structs of integers, as a row lists it. -/
def gridTab {H : Type} (rs : List (List Int)) : DataW H := .agg (rs.map fun r => .agg (r.map fun z => .lit (.int .i64 z)))

theorem cells_of_grid {H : Type} {enc : TypeId × Value → H} {P : Program} {w : World} {base : Nat} {sp : Nat → Bool} {held : Bool} {fuel : Nat} {t e ti : TypeId} {n c : Nat} {fs : Array Field} {cs : List Value} {rs : List (List Int)} {p : List MemPlace}
    (ht : P.underlying t = some (.array n e)) (he : P.underlying e = some (.struct fs)) (hti : P.underlying ti = some (.int .i64)) (hfs : (fs.toList.map fun f => (f.type, f.offset)) = (List.range c).map fun j => (ti, j)) (hci : P.cellsOf ti = 1) (hce : P.cellsOf e = c)
    (h : DataW.trod enc P w base sp held fuel t cs = some (gridTab rs, p)) : ∀ i r j z, rs[i]? = some r → r[j]? = some z → cs[i * c + j]? = some (.int .i64 z) := by
  intro i r j z hi hj
  cases fuel with
  | zero => simp [DataW.trod] at h
  | succ fuel =>
    simp only [DataW.trod, ht] at h
    split at h
    · obtain ⟨xs, hm, hx⟩ := Option.map_eq_some_iff.1 h
      have hxs : xs.map (·.1) = rs.map fun r => (DataW.agg (r.map fun z => .lit (.int .i64 z)) : DataW H) := by
        have := congrArg Prod.fst hx
        simpa [gridTab] using this
      have hxl : xs.length = n := by simpa using Lib.mapM_length hm
      have hil : i < n := by
        have h1 := congrArg List.length hxs
        have h2 := (List.getElem?_eq_some_iff.1 hi).1
        simp at h1
        omega
      obtain ⟨b, hb, hf⟩ := Lib.mapM_at hm i i (by simp [hil])
      have hb1 : b.1 = .agg (r.map fun z => .lit (.int .i64 z)) := by
        have := congrArg (·[i]?) hxs
        simp [hb, hi] at this
        exact this
      rw [hce] at hf
      cases fuel with
      | zero => simp [DataW.trod] at hf
      | succ fuel =>
        simp only [DataW.trod, he] at hf
        split at hf
        · obtain ⟨ys, hm2, hy⟩ := Option.map_eq_some_iff.1 hf
          have hys : ys.map (·.1) = r.map fun z => (DataW.lit (.int .i64 z) : DataW H) := by
            have := congrArg Prod.fst hy
            rw [hb1] at this
            simpa using this
          have hyl : ys.length = fs.toList.length := Lib.mapM_length hm2
          have hjl : j < fs.toList.length := by
            have h1 := congrArg List.length hys
            have h2 := (List.getElem?_eq_some_iff.1 hj).1
            simp at h1 hyl ⊢
            omega
          obtain ⟨f, hfj⟩ : ∃ f, fs.toList[j]? = some f := ⟨_, List.getElem?_eq_getElem hjl⟩
          obtain ⟨y, hyj, hty⟩ := Lib.mapM_at hm2 j f hfj
          have hfe : f.type = ti ∧ f.offset = j ∧ j < c := by
            have h1 := congrArg (·[j]?) hfs
            simp only [List.getElem?_map, hfj, Option.map_some] at h1
            have hjc : j < c := by
              have h2 := congrArg List.length hfs
              simp at h2 hjl
              omega
            rw [List.getElem?_range hjc] at h1
            simp at h1
            exact ⟨h1.1, h1.2, hjc⟩
          rw [hfe.1, hfe.2.1, hci] at hty
          obtain ⟨z', hc, rfl, _⟩ := DataW.trod_int hti hty
          have h2 := congrArg (·[j]?) hys
          simp [hyj, hj] at h2
          subst h2
          have h3 := congrArg (·[0]?) hc
          simp only [List.getElem?_take, List.getElem?_drop, List.getElem?_cons_zero] at h3
          simpa [hfe.2.2] using h3
        · cases hf
    · cases h

theorem gridIs_of_vars {P : Program} {W : World} {name : String} {rs : List (List Int)} {rest : List (String × DataW Unit)} {ps : List MemPlace} {g : Nat} {t e ti : TypeId} {n c : Nat} {fs : Array Field}
    (hg : P.globalNamed name = some g) (hty : (P.globals[g]?).map (·.type) = some t) (ht : P.underlying t = some (.array n e)) (he : P.underlying e = some (.struct fs)) (hti : P.underlying ti = some (.int .i64)) (hfs : (fs.toList.map fun f => (f.type, f.offset)) = (List.range c).map fun j => (ti, j))
    (hci : P.cellsOf ti = 1) (hce : P.cellsOf e = c) (h : DataW.LaidVars P W ((name, gridTab rs) :: rest) ps) : ∀ i r j z, rs[i]? = some r → r[j]? = some z → W.cell? ⟨g, i * c + j, none⟩ = some (.int .i64 z) := by
  obtain ⟨g', t', cs, fuel, p, q, hg', ht', hvar, hd, hq, _⟩ := h
  obtain rfl := Option.some.inj (hg.symm.trans hg')
  obtain rfl := Option.some.inj (hty.symm.trans ht')
  intro i r j z hi hj
  have h1 := cells_of_grid ht he hti hfs hci hce hd i r j z hi hj
  have h2 := World.var?_cell hg hvar (i * c + j)
  rw [h2]
  simpa using h1
end Go.Proofs.YtoknolophmhlgaaGreatDoor
/-
  What the statement's reader reads of a place.
-/
namespace Go.Proofs.YtoknolophmhlgaaGreatDoor
open Go.ChangeShapes Go.WideShapes Go.ChangeAt Go.RowKit
set_option linter.unusedVariables false

theorem len4 {cs : List Value} (h : cs.length = 4) : ∃ a b c d, cs = [a, b, c, d] := by
  match cs, h with
  | [a, b, c, d], _ => exact ⟨a, b, c, d, rfl⟩

theorem open_pl {H : Type} {enc : TypeId × Value → H} {P : Program} {w : World} {base : Nat} {sp : Nat → Bool} {held : Bool} {t tS tI : TypeId} {v : Value} {dd : DataW H} {ps : List MemPlace}
    (ht : ∃ fs, P.underlying t = some (.struct fs) ∧ (fs.toList.map fun f => (f.type, f.offset)) = [(tS, 0), (tS, 1), (tI, 2), (tI, 3)]) (hS : P.underlying tS = some .string) (hI : P.underlying tI = some (.int .i64)) (c0 : P.cellsOf t = 4) (c1 : P.cellsOf tS = 1) (c2 : P.cellsOf tI = 1)
    (h : DataW.Trod enc P w base sp held t v dd ps) : ∃ q : Pl, v = .agg #[.string q.mod, .string q.name, .int .i64 q.arity, .int .i64 q.clause] ∧ okS q.mod ∧ okS q.name ∧ okI q.arity ∧ okI q.clause := by
  obtain ⟨fuel, h⟩ := h
  cases fuel with
  | zero => simp [DataW.trod] at h
  | succ fuel =>
    obtain ⟨fs, hu, hfs⟩ := ht
    obtain ⟨hl, hat⟩ := open_fields hu hfs h
    rw [c0] at hl
    obtain ⟨a, b, c, d, hcs⟩ := len4 hl
    rw [hcs] at hat
    obtain ⟨y0, h0⟩ := hat 0 _ _ rfl
    obtain ⟨y1, h1⟩ := hat 1 _ _ rfl
    obtain ⟨y2, h2⟩ := hat 2 _ _ rfl
    obtain ⟨y3, h3⟩ := hat 3 _ _ rfl
    rw [c1] at h0 h1
    rw [c2] at h2 h3
    obtain ⟨s0, rfl, k0⟩ := open_str1 hS h0
    obtain ⟨s1, rfl, k1⟩ := open_str1 hS h1
    obtain ⟨n, rfl, k2⟩ := open_int1 hI h2
    obtain ⟨s3, rfl, k3⟩ := open_int1 hI h3
    exact ⟨⟨s0, s1, n, s3⟩, agg_of_cells (cs := [.string s0, .string s1, .int .i64 n, .int .i64 s3]) hcs (by simp), k0, k1, k2, k3⟩
end Go.Proofs.YtoknolophmhlgaaGreatDoor
