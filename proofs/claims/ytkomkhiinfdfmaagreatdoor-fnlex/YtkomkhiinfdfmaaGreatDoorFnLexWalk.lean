/-
  The walk of FnLex: it answers true, and nothing that was there has turned. Conditions: the program's own tables, and the library's, hold what their initialisers lay.
-/
import Derived.Test.YtkomkhiinfdfmaaGreatDoorImplLex
import Derived.Test.YtkomkhiinfdfmaaGreatDoorFnLexA
namespace Go.Proofs.YtkomkhiinfdfmaaGreatDoor
open Go.ChangeShapes Go.WideShapes Go.ChangeAt Go.RowKit
set_option linter.unusedVariables false
set_option maxRecDepth 100000

structure LexEnv (w : World) (cv : Value) (xs : List Nat) : Prop where
  T : TabsAt w
  L : LensAt w
  P : PowAt w
  M : ∃ m, w.cell? ⟨2, 0, none⟩ = some (.int .i64 m)
  R : Rows w All 1 HByte cv xs
theorem LexEnv.next {w w' : World} {cv : Value} {xs : List Nat} (h : LexEnv w cv xs) (hb : Below w.heap.size w w') : LexEnv w' cv xs where
  T := tabs_below h.T hb
  L := lens_below h.L hb
  P := powAt_below h.P hb
  M := by obtain ⟨m, hm⟩ := h.M; exact ⟨m, cell_next hb hm⟩
  R := Rows.mono h.R ⟨hb.size, fun g _ hl => hb.block g hl⟩ (fun _ h => h) (fun _ _ _ h => h)
theorem LexEnv.keys {w : World} {cv : Value} {xs : List Nat} (h : LexEnv w cv xs) : KeysAt w := ⟨h.T.1 0 (by decide), h.T.1 1 (by decide), h.T.1 2 (by decide)⟩

theorem own_next {w w' : World} {B c n : Nat} {e : TypeId} {v : Value} {xs : List Value} (h : w.ownsRow B e c v n xs) (hb : Below w.heap.size w w') : w'.ownsRow B e c v n xs := by
  refine ⟨h.1, ?_⟩
  rcases h.2 with hn | ⟨g, cap, cur, hv, hB, hg, hr⟩
  · exact .inl hn
  · exact .inr ⟨g, cap, cur, hv, hB, (hb.block g (Array.getElem?_eq_some_iff.1 hg).1).trans hg, hr⟩
theorem own_shape {w : World} {B c n : Nat} {e : TypeId} {v : Value} {xs : List Value} (h : w.ownsRow B e c v n xs) : ∃ a cap, v = .slice a n cap ∧ n ≤ cap := by
  rcases h.2 with ⟨hv, hn⟩ | ⟨g, cap, cur, hv, _, _, hc, _⟩
  · exact ⟨none, 0, by rw [hv, hn], by omega⟩
  · exact ⟨_, cap, hv, hc⟩
theorem own_base {w : World} {B c n cap : Nat} {e : TypeId} {a : Option Addr} {xs : List Value} (h : w.ownsRow B e c (.slice a n cap) n xs) (hn : 0 < n) : ∃ g, a = some ⟨g, 0, none⟩ := by
  rcases h.2 with ⟨_, h0⟩ | ⟨g, cap', cur, hv, _⟩
  · omega
  · simp at hv; exact ⟨g, hv.1⟩

/-- Where the walk stands. -/
structure LexSt (w0 w : World) (cv : Value) (xs : List Nat) (l1 l2 : Value) (ts : List Tok) : Prop where
  B : Below w0.heap.size w0 w
  E : LexEnv w cv xs
  o1 : ∃ B, w.ownsRow B 49 4 l1 ts.length (toksC ts)
  o2 : ∃ B, w.ownsRow B 49 4 l2 ts.length (toksC ts)
theorem LexSt.next {w0 w w' : World} {cv : Value} {xs : List Nat} {l1 l2 : Value} {ts : List Tok} (h : LexSt w0 w cv xs l1 l2 ts) (hb : Below w.heap.size w w') : LexSt w0 w' cv xs l1 l2 ts where
  B := h.B.trans (hb.mono h.B.size)
  E := h.E.next hb
  o1 := by obtain ⟨B, ho⟩ := h.o1; exact ⟨B, own_next ho hb⟩
  o2 := by obtain ⟨B, ho⟩ := h.o2; exact ⟨B, own_next ho hb⟩
theorem LexSt.drew {w0 w : World} {cv : Value} {xs : List Nat} {l1 l2 : Value} {ts : List Tok} (h : LexSt w0 w cv xs l1 l2 ts) (k : Nat) : LexSt w0 (w.drewN k) cv xs l1 l2 ts := h.next (below_drewN (Below.refl _ _) k)

theorem more_data (s : ByteArray) : (s ++ (⟨#[32, 10, 32, 37, 32, 120]⟩ : ByteArray)).data.toList = s.data.toList ++ tailL := by
  simp [tailL]
theorem lexF_accF (l : List UInt8) : ∀ (f i : Nat) (line : Int) (acc : List Tok), i ≤ l.length → acc.length ≤ i → (lexF l f i line acc).1.length ≤ l.length
  | 0, i, line, acc, hi, ha => by simp only [lexF]; omega
  | f + 1, i, line, acc, hi, ha => by
    unfold lexF
    split
    · rename_i hlt
      split
      · rename_i i' line' hg
        have := gapStep_gt hlt hg
        exact lexF_accF l f i' line' acc this.2 (by omega)
      · split
        · rename_i t k ht
          have := tokAt_gt hlt ht
          exact lexF_accF l f k line (acc ++ [t]) this.2.1 (by rw [List.length_append]; simp only [List.length_cons, List.length_nil]; omega)
        · simp
    · simp only; omega
theorem lexM_lenF (l : List UInt8) : (lexM l).1.length ≤ 4000 := by
  unfold lexM
  split
  · rename_i h
    exact Nat.le_trans (lexF_accF l _ 0 1 [] (Nat.zero_le _) (Nat.le_refl _)) h
  · simp

set_option maxHeartbeats 8000000 in
theorem fnLex_walk (cv : Value) (xs : List Nat) (w : World) (hE : LexEnv w cv xs) :
    Calls Tryz.prog 4 #[cv] w fun e w' => e = .returned (.bool true) ∧ Below w.heap.size w w' := by
  have E : Hid (LexEnv w cv xs) := hE
  obtain ⟨sp, cap, rfl, hl1, hl2, -⟩ := hE.R
  clear hE
  by_cases hx : 1048576 < xs.length
  · go_enter Tryz.func4, Tryz.ntmps4
    go_wp2_with (go_at_call 10; go_must (refine (big_any sp xs.length cap _ (Nat.le_trans hl1 hl2)).mono ?_; rintro e w' ⟨rfl, rfl⟩; rw [decide_eq_true hx]))
    go_ret
    exact ⟨rfl, Below.refl _ _⟩
  · have hx' : xs.length ≤ 1048576 := by omega
    go_enter Tryz.func4, Tryz.ntmps4
    go_wp2_with fail
    refine (big_any sp xs.length cap _ (Nat.le_trans hl1 hl2)).mono ?_
    rintro e w' ⟨rfl, hw⟩
    rw [hw, decide_eq_false hx]
    clear hw w'
    go_wp2_with fail
    refine (drawLex_any _ xs _ hx' E.out.R).mono ?_
    rintro e w1 ⟨s, hs, rfl, hb1⟩
    have E1 : Hid (LexEnv w1 (.slice sp xs.length cap) xs) := E.out.next hb1
    have B1 : Hid (Below w.heap.size w w1) := hb1
    clear hb1 E
    have hsm : s.size ≤ maxLen := okS_small (by omega)
    have hlen := lexM_lenF s.data.toList
    obtain ⟨RL, hRL⟩ : ∃ RL, lexM s.data.toList = RL := ⟨_, rfl⟩
    have HRL : Hid (lexM s.data.toList = RL) := hRL
    rw [hRL] at hlen
    clear hRL
    go_wp2_with fail
    have q1 := implLex_any s w1 hsm E1.out.T E1.out.L
    rw [HRL.out] at q1
    refine q1.mono ?_
    rintro e w2 ⟨l1, rfl, ho1, hb2⟩
    clear q1
    have E2 : Hid (LexEnv w2 (.slice sp xs.length cap) xs) := E1.out.next hb2
    have B2 : Hid (Below w.heap.size w w2) := B1.out.trans (hb2.mono B1.out.size)
    have O1 : Hid (w2.ownsRow w1.heap.size 49 4 l1 RL.1.length (toksC RL.1)) := ho1
    clear hb2 ho1 E1 B1
    go_wp2_with fail
    have q2 := specLex_any s w2 hsm
    rw [HRL.out] at q2
    refine q2.mono ?_
    rintro e w3 ⟨l2, rfl, ho2, hb3⟩
    clear q2
    obtain ⟨ts, ln⟩ := RL
    have S3 : Hid (LexSt w w3 (.slice sp xs.length cap) xs l1 l2 ts) := ⟨B2.out.trans (hb3.mono B2.out.size), E2.out.next hb3, ⟨_, own_next O1.out hb3⟩, ⟨_, ho2⟩⟩
    obtain ⟨a1, c1, rfl, hc1⟩ := own_shape O1.out
    obtain ⟨a2, c2, rfl, hc2⟩ := own_shape ho2
    clear hb3 ho2 O1 E2 B2
    simp only at hlen hc1 hc2 ⊢
    go_wp2_with fail
    refine (drawAtomOk_any _ xs _ hx' S3.out.E.R).mono ?_
    rintro e w4 ⟨av, hav, rfl, hb4⟩
    have S4 : Hid (LexSt w w4 (.slice sp xs.length cap) xs (.slice a1 ts.length c1) (.slice a2 ts.length c2) ts) := S3.out.next hb4
    clear hb4 S3
    go_wp2_with fail
    refine (drawVarOk_any _ xs _ hx' S4.out.E.R).mono ?_
    rintro e w5 ⟨vv, hvv, rfl, hb5⟩
    have S5 : Hid (LexSt w w5 (.slice sp xs.length cap) xs (.slice a1 ts.length c1) (.slice a2 ts.length c2) ts) := S4.out.next hb5
    clear hb5 S4
    go_wp2_with fail
    refine (drawDecText_any _ xs _ hx' S5.out.E.R).mono ?_
    rintro e w6 ⟨dv, hd0, hd1, rfl, hb6⟩
    have S6 : Hid (LexSt w w6 (.slice sp xs.length cap) xs (.slice a1 ts.length c1) (.slice a2 ts.length c2) ts) := S5.out.next hb6
    clear hb6 S5
    go_wp2_with fail
    refine (drawReadDec_any _ xs _ hx' S6.out.E.R).mono ?_
    rintro e w7 ⟨rv, hrv, rfl, hb7⟩
    have S7 : Hid (LexSt w w7 (.slice sp xs.length cap) xs (.slice a1 ts.length c1) (.slice a2 ts.length c2) ts) := S6.out.next hb7
    clear hb7 S6
    go_wp2_with fail
    refine (drawWords_any _ xs _ hx' S7.out.E.R).mono ?_
    rintro e w8 ⟨wv, hwv, rfl, hb8⟩
    have S8 : Hid (LexSt w w8 (.slice sp xs.length cap) xs (.slice a1 ts.length c1) (.slice a2 ts.length c2) ts) := S7.out.next hb8
    clear hb8 S7
    have mav : av.size ≤ maxLen := okS_small (by omega)
    have mvv : vv.size ≤ maxLen := okS_small (by omega)
    have mrv : rv.size ≤ maxLen := okS_small (by omega)
    go_wp2_with fail
    refine (implAtomOk_any av _ mav S8.out.E.keys).mono ?_
    rintro e w' ⟨rfl, hw⟩
    rw [hw]
    clear hw w'
    go_wp2_with fail
    refine (specAtomOk_any av _ mav).mono ?_
    rintro e w' ⟨rfl, hw⟩
    rw [hw]
    clear hw w'
    go_wp2_with fail
    refine (implVarOk_any vv _ mvv).mono ?_
    rintro e w' ⟨rfl, hw⟩
    rw [hw]
    clear hw w'
    go_wp2_with fail
    refine (specVarOk_any vv _ mvv).mono ?_
    rintro e w' ⟨rfl, hw⟩
    rw [hw]
    clear hw w'
    go_wp2_with fail
    refine (implDecText_any dv _ hd0 hd1 S8.out.E.P).mono ?_
    rintro e w9 ⟨rfl, hb9⟩
    have S9 : Hid (LexSt w w9 (.slice sp xs.length cap) xs (.slice a1 ts.length c1) (.slice a2 ts.length c2) ts) := S8.out.next hb9
    clear hb9 S8
    go_wp2_with fail
    refine (specDecText_any dv _ hd0 hd1).mono ?_
    rintro e w' ⟨rfl, hw⟩
    rw [hw]
    clear hw w'
    go_wp2_with fail
    refine (implReadDec_any rv _ mrv S9.out.E.P).mono ?_
    rintro e w10 ⟨rfl, hb10⟩
    have S10 : Hid (LexSt w w10 (.slice sp xs.length cap) xs (.slice a1 ts.length c1) (.slice a2 ts.length c2) ts) := S9.out.next hb10
    clear hb10 S9
    go_wp2_with fail
    refine (specReadDec_any rv _ mrv).mono ?_
    rintro e w' ⟨rfl, hw⟩
    rw [hw]
    clear hw w'
    obtain ⟨mm, hmm⟩ := S10.out.E.M
    go_wp2_with fail
    refine (implWords_any wv mm _ (by omega) hmm).mono ?_
    clear hmm
    rintro e w11 ⟨gA, rfl, hgA, hoA, hb11⟩
    have S11 : Hid (LexSt w w11 (.slice sp xs.length cap) xs (.slice a1 ts.length c1) (.slice a2 ts.length c2) ts) := S10.out.next hb11
    have OA : Hid (w11.ownsRow w10.heap.size 9 1 (.slice (some ⟨gA, 0, none⟩) (wordsL wv.data.toList).length (wordsL wv.data.toList).length) (wordsL wv.data.toList).length ((wordsL wv.data.toList).map strV)) := hoA
    clear hb11 hoA S10
    go_wp2_with fail
    refine (specWords_any wv _ (by omega)).mono ?_
    rintro e w12 ⟨vB, rfl, hoB, hb12⟩
    have S12 : Hid (LexSt w w12 (.slice sp xs.length cap) xs (.slice a1 ts.length c1) (.slice a2 ts.length c2) ts) := S11.out.next hb12
    have OA2 : Hid (w12.ownsRow w10.heap.size 9 1 (.slice (some ⟨gA, 0, none⟩) (wordsL wv.data.toList).length (wordsL wv.data.toList).length) (wordsL wv.data.toList).length ((wordsL wv.data.toList).map strV)) := own_next OA.out hb12
    obtain ⟨aB, cB, rfl, hcB⟩ := own_shape hoB
    have hwl : 0 < (wordsL wv.data.toList).length := List.length_pos_iff.2 (wordsL_ne _)
    have hwl2 : (wordsL wv.data.toList).length ≤ 2000 := Nat.le_trans (wordsL_length _) (by rw [Array.length_toList]; show wv.size + 1 ≤ 2000; omega)
    obtain ⟨gB, rfl⟩ := own_base hoB hwl
    have OB : Hid (w12.ownsRow w11.heap.size 9 1 (.slice (some ⟨gB, 0, none⟩) (wordsL wv.data.toList).length cB) (wordsL wv.data.toList).length ((wordsL wv.data.toList).map strV)) := hoB
    clear hb12 hoB S11 OA
    generalize wordsL wv.data.toList = WL at OA2 OB hwl hwl2 hcB ⊢
    go_wp2_with fail
    refine (sameTexts_any gA gB _ cB _ _ WL _ (by omega) (Nat.le_refl _) hcB OA2.out OB.out).mono ?_
    rintro e w' ⟨rfl, kq, hw⟩
    rw [hw]
    have S13 : Hid (LexSt w (w12.drewN kq) (.slice sp xs.length cap) xs (.slice a1 ts.length c1) (.slice a2 ts.length c2) ts) := S12.out.drew kq
    clear hw w' OA2 OB S12
    generalize w12.drewN kq = w13 at S13 ⊢
    have HU : Hid (∀ (k : Nat) (x y : Tok), ts[k]? = some x → ts[k + 1]? = some y → x.line ≤ y.line) := fun k x y h1 h2 => by
      have := lexM_line s.data.toList k x y
      rw [HRL.out] at this
      exact this h1 h2
    go_wp2_with fail
    go_loopw [13] (fun iv wr => ∃ k : Nat, k ≤ ts.length ∧ iv = .int .i64 k ∧ Hid (LexSt w wr (.slice sp xs.length cap) xs (.slice a1 ts.length c1) (.slice a2 ts.length c2) ts)) (fun iv _ => ts.length - (intOf iv).toNat)
    case atStart => exact ⟨0, Nat.zero_le _, rfl, S13.out⟩
    case round =>
      obtain ⟨k, hk, rfl, SK⟩ := hrel
      clear S13
      by_cases hlt : k < ts.length
      · obtain ⟨B1, o1⟩ := SK.out.o1
        obtain ⟨B2, o2⟩ := SK.out.o2
        obtain ⟨g1, rfl⟩ := own_base o1 (by omega)
        obtain ⟨g2, rfl⟩ := own_base o2 (by omega)
        obtain ⟨x, hxk⟩ : ∃ x, ts[k]? = some x := ⟨_, List.getElem?_eq_getElem hlt⟩
        have hxe : ts[k] = x := (List.getElem?_eq_some_iff.1 hxk).2
        obtain ⟨p1, p2, p3, p4⟩ := own_toks o1 k hlt
        obtain ⟨q1, q2, q3, q4⟩ := own_toks o2 k hlt
        rw [hxe] at p1 p2 p3 p4 q1 q2 q3 q4
        obtain ⟨xk, xt, xn, xl⟩ := x
        simp only at p1 p2 p3 p4 q1 q2 q3 q4
        generalize (⟨xt.toArray⟩ : ByteArray) = XT at p2 q2
        cases k with
        | zero =>
          clear hxe o1 o2
          go_wp2_with fail
          go_quiet (fail)
          go_wp2_with fail
          exact ⟨⟨0 + 1, by omega, by go_num, SK.out.drew nq⟩, by simp [intOf]; omega⟩
        | succ j =>
          obtain ⟨y, hyj⟩ : ∃ y, ts[j]? = some y := ⟨_, List.getElem?_eq_getElem (by omega)⟩
          have hye : ts[j]'(by omega) = y := (List.getElem?_eq_some_iff.1 hyj).2
          obtain ⟨r1, r2, r3, r4⟩ := own_toks o1 j (by omega)
          rw [hye] at r4
          have hup := HU.out j y _ hyj hxk
          simp only at hup
          clear r1 r2 r3 o1 o2 hye hxe
          go_wp2_with fail
          go_quiet (fail)
          go_wp2_with fail
          exact ⟨⟨j + 1 + 1, by omega, by go_num, SK.out.drew nq⟩, by simp [intOf]; omega⟩
      · clear HU
        have HN : Hid (ln ≠ 0 → ts.length = 0) := fun h => by
          have := lexM_none s.data.toList
          rw [HRL.out] at this
          have h2 : ts = [] := this h
          rw [h2]; rfl
        have HA : Hid (atomB av = true → varB av = false) := atom_not_var av
        have HD : Hid (0 ≤ readN rv → (⟨(Lib.itoa (readN rv)).toArray⟩ : ByteArray) = rv ∧ -9223372036854775808 ≤ readN rv ∧ readN rv ≤ 9223372036854775807) := fun h => by
          have := read_back rv h
          exact ⟨by rw [this.1], this.2⟩
        go_wp2_with fail
        refine (implReadDec_any rv _ mrv SK.out.E.P).mono ?_
        rintro e w14 ⟨rfl, hb14⟩
        have S14 : Hid (LexSt w w14 (.slice sp xs.length cap) xs (.slice a1 ts.length c1) (.slice a2 ts.length c2) ts) := SK.out.next hb14
        clear hb14 SK
        by_cases h0 : 0 ≤ readN rv
        · obtain ⟨hd, hr0, hr1⟩ := HD.out h0
          have HDD : Hid _ := hd
          clear hd HD
          go_wp2_with fail
          refine (implReadDec_any rv _ mrv S14.out.E.P).mono ?_
          rintro e w15 ⟨rfl, hb15⟩
          have S15 : Hid (LexSt w w15 (.slice sp xs.length cap) xs (.slice a1 ts.length c1) (.slice a2 ts.length c2) ts) := S14.out.next hb15
          clear hb15 S14
          go_wp2_with fail
          refine (implDecText_any (readN rv) _ hr0 hr1 S15.out.E.P).mono ?_
          rintro e w16 ⟨rfl, hb16⟩
          rw [HDD.out]
          have S16 : Hid (LexSt w w16 (.slice sp xs.length cap) xs (.slice a1 ts.length c1) (.slice a2 ts.length c2) ts) := S15.out.next hb16
          clear hb16 S15 HDD
          go_wp2_with fail
          refine (implAtomOk_any av _ mav S16.out.E.keys).mono ?_
          rintro e w' ⟨rfl, hw⟩
          rw [hw]
          clear hw w'
          rcases (by cases atomB av <;> simp : atomB av = true ∨ atomB av = false) with ha | ha
          · have hv := HA.out ha
            rw [ha]
            go_wp2_with fail
            refine (implVarOk_any av _ mav).mono ?_
            rintro e w' ⟨rfl, hw⟩
            rw [hw, hv]
            clear hw w' HA
            by_cases hln : ln = 0
            · subst hln
              by_cases hsz : s.size ≤ 3994
              · have hsi : ¬ (3994 < (s.size : Int)) := by omega
                have HM : Hid (lexM (s ++ (⟨#[32, 10, 32, 37, 32, 120]⟩ : ByteArray)).data.toList = (ts, 0)) := by
                  show _ = _
                  rw [← HRL.out, more_data]
                  exact lexM_more _ (by rw [Array.length_toList]; exact hsz)
                have hsm2 : (s ++ (⟨#[32, 10, 32, 37, 32, 120]⟩ : ByteArray)).size ≤ maxLen := okS_small (by rw [ByteArray.size_append]; show _ + 6 ≤ _; omega)
                go_wp2_with fail
                have qm := implLex_any _ _ hsm2 S16.out.E.T S16.out.E.L
                rw [HM.out] at qm
                refine qm.mono ?_
                rintro e wz ⟨lz, rfl, hoz, hbz⟩
                clear qm HM
                obtain ⟨az, cz, rfl, hcz⟩ := own_shape hoz
                have hB := (S16.out.next hbz).B
                clear hoz hbz
                go_wp2
                go_ret
                exact ⟨rfl, hB⟩
              · have hsi : (3994 < (s.size : Int)) := by omega
                go_wp2
                go_ret
                exact ⟨rfl, S16.out.B⟩
            · have hn0 := HN.out hln
              go_wp2
              go_ret
              exact ⟨rfl, S16.out.B⟩
          · rw [ha]
            clear HA
            by_cases hln : ln = 0
            · subst hln
              by_cases hsz : s.size ≤ 3994
              · have hsi : ¬ (3994 < (s.size : Int)) := by omega
                have HM : Hid (lexM (s ++ (⟨#[32, 10, 32, 37, 32, 120]⟩ : ByteArray)).data.toList = (ts, 0)) := by
                  show _ = _
                  rw [← HRL.out, more_data]
                  exact lexM_more _ (by rw [Array.length_toList]; exact hsz)
                have hsm2 : (s ++ (⟨#[32, 10, 32, 37, 32, 120]⟩ : ByteArray)).size ≤ maxLen := okS_small (by rw [ByteArray.size_append]; show _ + 6 ≤ _; omega)
                go_wp2_with fail
                have qm := implLex_any _ _ hsm2 S16.out.E.T S16.out.E.L
                rw [HM.out] at qm
                refine qm.mono ?_
                rintro e wz ⟨lz, rfl, hoz, hbz⟩
                clear qm HM
                obtain ⟨az, cz, rfl, hcz⟩ := own_shape hoz
                have hB := (S16.out.next hbz).B
                clear hoz hbz
                go_wp2
                go_ret
                exact ⟨rfl, hB⟩
              · have hsi : (3994 < (s.size : Int)) := by omega
                go_wp2
                go_ret
                exact ⟨rfl, S16.out.B⟩
            · have hn0 := HN.out hln
              go_wp2
              go_ret
              exact ⟨rfl, S16.out.B⟩
        · clear HD
          go_wp2_with fail
          refine (implAtomOk_any av _ mav S14.out.E.keys).mono ?_
          rintro e w' ⟨rfl, hw⟩
          rw [hw]
          clear hw w'
          rcases (by cases atomB av <;> simp : atomB av = true ∨ atomB av = false) with ha | ha
          · have hv := HA.out ha
            rw [ha]
            go_wp2_with fail
            refine (implVarOk_any av _ mav).mono ?_
            rintro e w' ⟨rfl, hw⟩
            rw [hw, hv]
            clear hw w' HA
            by_cases hln : ln = 0
            · subst hln
              by_cases hsz : s.size ≤ 3994
              · have hsi : ¬ (3994 < (s.size : Int)) := by omega
                have HM : Hid (lexM (s ++ (⟨#[32, 10, 32, 37, 32, 120]⟩ : ByteArray)).data.toList = (ts, 0)) := by
                  show _ = _
                  rw [← HRL.out, more_data]
                  exact lexM_more _ (by rw [Array.length_toList]; exact hsz)
                have hsm2 : (s ++ (⟨#[32, 10, 32, 37, 32, 120]⟩ : ByteArray)).size ≤ maxLen := okS_small (by rw [ByteArray.size_append]; show _ + 6 ≤ _; omega)
                go_wp2_with fail
                have qm := implLex_any _ _ hsm2 S14.out.E.T S14.out.E.L
                rw [HM.out] at qm
                refine qm.mono ?_
                rintro e wz ⟨lz, rfl, hoz, hbz⟩
                clear qm HM
                obtain ⟨az, cz, rfl, hcz⟩ := own_shape hoz
                have hB := (S14.out.next hbz).B
                clear hoz hbz
                go_wp2
                go_ret
                exact ⟨rfl, hB⟩
              · have hsi : (3994 < (s.size : Int)) := by omega
                go_wp2
                go_ret
                exact ⟨rfl, S14.out.B⟩
            · have hn0 := HN.out hln
              go_wp2
              go_ret
              exact ⟨rfl, S14.out.B⟩
          · rw [ha]
            clear HA
            by_cases hln : ln = 0
            · subst hln
              by_cases hsz : s.size ≤ 3994
              · have hsi : ¬ (3994 < (s.size : Int)) := by omega
                have HM : Hid (lexM (s ++ (⟨#[32, 10, 32, 37, 32, 120]⟩ : ByteArray)).data.toList = (ts, 0)) := by
                  show _ = _
                  rw [← HRL.out, more_data]
                  exact lexM_more _ (by rw [Array.length_toList]; exact hsz)
                have hsm2 : (s ++ (⟨#[32, 10, 32, 37, 32, 120]⟩ : ByteArray)).size ≤ maxLen := okS_small (by rw [ByteArray.size_append]; show _ + 6 ≤ _; omega)
                go_wp2_with fail
                have qm := implLex_any _ _ hsm2 S14.out.E.T S14.out.E.L
                rw [HM.out] at qm
                refine qm.mono ?_
                rintro e wz ⟨lz, rfl, hoz, hbz⟩
                clear qm HM
                obtain ⟨az, cz, rfl, hcz⟩ := own_shape hoz
                have hB := (S14.out.next hbz).B
                clear hoz hbz
                go_wp2
                go_ret
                exact ⟨rfl, hB⟩
              · have hsi : (3994 < (s.size : Int)) := by omega
                go_wp2
                go_ret
                exact ⟨rfl, S14.out.B⟩
            · have hn0 := HN.out hln
              go_wp2
              go_ret
              exact ⟨rfl, S14.out.B⟩
end Go.Proofs.YtkomkhiinfdfmaaGreatDoor
