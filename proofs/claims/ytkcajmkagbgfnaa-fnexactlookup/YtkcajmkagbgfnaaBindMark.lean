/-
  The laws' markBindS: numbers and texts are written into names that are bound, which own their memory.
-/
import Derived.Test.YtkcajmkagbgfnaaValMark
import Derived.Test.YtkcajmkagbgfnaaBindTo
namespace Go.Proofs.Ytkcajmkagbgfnaa
open Go.ChangeShapes Go.WideShapes Go.ChangeAt Go.RowKit
set_option linter.unusedVariables false

def cntB : Nat → Bd → Nat
  | 0, _ => 0
  | d + 1, b => 4 + (b.val.kids.map (cntV d)).sum
def markB : Nat → Nat → Bd → Bd
  | 0, _, b => b
  | d + 1, k, b => ⟨mtext k, .mk (k + 1) (k + 2) (mtext (k + 3)) (markL (markV d) (cntV d) (k + 4) b.val.kids)⟩
theorem OBd.lt {w : World} {d : Nat} {cs : List Value} {b : Bd} {fp : List Nat} (h : OBd w d cs b fp) : ∀ a ∈ fp, a < w.heap.size := by
  obtain ⟨vs, rfl, h1, h2⟩ := h
  exact h2.lt

set_option maxHeartbeats 8000000 in
theorem markBindS_any (d : Nat) (w : World) (v : Value) (es : List Bd) (fp : List Nat) (k : Nat) (h : ORows w 99 5 (OBd w d) v es fp) (hnd : fp.Nodup) (hk1 : 1 ≤ k) (hkb : k + (es.map (cntB d)).sum ≤ 1099511627776) :
    Calls Try.prog 27 #[v, .int .i64 k] w fun e w' => e = .returned (.int .i64 ((k + (es.map (cntB d)).sum : Nat) : Int)) ∧ ORows w' 99 5 (OBd w' d) v (markL (markB d) (cntB d) k es) fp ∧ Off fp w w' := by
  obtain ⟨p, cap, rfl, hcl, hcm⟩ := h.shape
  have hnb : es.length ≤ 9223372036854775807 := by unfold maxLen at hcm; omega
  have HL : Hid ((markL (markB d) (cntB d) k es).length = es.length) := markL_length _ _ _ _
  have HO : Hid (ORows w 99 5 (OBd w d) (.slice p es.length cap) es fp) := h
  have HND : Hid fp.Nodup := hnd
  have HKB : Hid (k + (es.map (cntB d)).sum ≤ 1099511627776) := hkb
  generalize hn : es.length = n at *
  have HN : Hid (es.length = n) := hn
  clear h hnd hn hkb
  go_enter Try.func27, Try.ntmps27
  go_wp2
  go_loopw [1, 5] (fun kv iv wr => ∃ i kk : Nat, i ≤ n ∧ iv = .int .i64 i ∧ kv = .int .i64 kk ∧ Hid (kk = k + ((es.take i).map (cntB d)).sum) ∧ Hid (ORows wr 99 5 (OBd wr d) (.slice p n cap) (mix i (markL (markB d) (cntB d) k es) es) fp) ∧ Hid (Off fp w wr)) (fun _ iv _ => n - (intOf iv).toNat)
  case atStart => exact ⟨0, k, Nat.zero_le _, rfl, rfl, (by show k = _; simp), (by show ORows _ _ _ _ _ _ _; rw [mix_zero]; exact HO.out), Off.refl _ _⟩
  case round =>
    obtain ⟨i, kk, hi, rfl, rfl, HK, HR, HF⟩ := hrel
    by_cases hlt : i < n
    · obtain ⟨x, hxi⟩ : ∃ x, es[i]? = some x := ⟨es[i]'(by rw [HN.out]; exact hlt), List.getElem?_eq_getElem _⟩
      have hml : (mix i (markL (markB d) (cntB d) k es) es).length = n := by rw [mix_length (by rw [HL.out, HN.out]), HN.out]
      have hmx : (mix i (markL (markB d) (cntB d) k es) es)[i]? = some x := by rw [mix_at (by rw [HL.out, HN.out]) (by rw [HN.out]; exact hlt)]; exact hxi
      have HMX : Hid ((mix i (markL (markB d) (cntB d) k es) es).length = n) := hml
      rcases HR.out with hnil | ⟨hne, cells, g, cap', fps, ho, hv, hl, hfp, hat⟩
      · rw [hnil.1] at hml; simp at hml; omega
      rw [hml] at ho hv hl
      obtain ⟨f, hf⟩ : ∃ f, fps[i]? = some f := ⟨fps[i]'(by rw [hl]; exact hlt), List.getElem?_eq_getElem _⟩
      obtain ⟨cs, hcs5, hcs, hx⟩ := hat i x f hmx hf
      cases d with
      | zero => obtain ⟨_, _, _, h⟩ := hx; exact h.elim
      | succ d' =>
      obtain ⟨_, rfl, -, kv, rfl, -, -, -, hkids⟩ := hx
      cases hv
      have hlc : cells.length = n * 5 := ho.1
      have hnp := nodup_parts (hfp ▸ HND.out)
      have a0 := (ho.cellAt (i * 5) (by omega)).trans (hcs 0 (by omega))
      have a1 := (ho.cellAt (i * 5 + 1) (by omega)).trans (hcs 1 (by omega))
      have a2 := (ho.cellAt (i * 5 + 2) (by omega)).trans (hcs 2 (by omega))
      simp at a0 a1 a2
      have hsum : ((es.take (i + 1)).map (cntB (d' + 1))).sum = ((es.take i).map (cntB (d' + 1))).sum + cntB (d' + 1) x := sum_take_succ _ es i x hxi
      have hle : ((es.take (i + 1)).map (cntB (d' + 1))).sum ≤ (es.map (cntB (d' + 1))).sum := sum_take_le _ es (i + 1)
      have hcx : cntB (d' + 1) x = 4 + (x.val.kids.map (cntV d')).sum := rfl
      have hkk := HK.out
      have hkb := HKB.out
      have hkk3 : kk + 4 + (x.val.kids.map (cntV d')).sum ≤ 1099511627776 := by omega
      have hg0 : g ∈ fp := by rw [hfp]; simp
      have hfs : ∀ a ∈ f, a ∈ fp := fun a ha => by rw [hfp]; exact List.mem_cons_of_mem _ (List.mem_flatten.2 ⟨f, List.mem_of_getElem? hf, ha⟩)
      have hgf : g ∉ f := (hnp.1 f (List.mem_of_getElem? hf)).1
      have hfn : f.Nodup := (hnp.1 f (List.mem_of_getElem? hf)).2
      have HO0 : Hid (wr.ownsRow 0 99 5 (.slice (some ⟨g, 0, none⟩) n cap) n cells) := ho
      have HKD : Hid (ORows wr 41 4 (OVa wr d') kv x.val.kids f) := hkids
      have HAT : Hid (∀ (j : Nat) y f', (mix i (markL (markB (d' + 1)) (cntB (d' + 1)) k es) es)[j]? = some y → fps[j]? = some f' → ∃ cs : List Value, cs.length = 5 ∧ (∀ q, q < 5 → cells[j * 5 + q]? = cs[q]?) ∧ OBd wr (d' + 1) cs y f') := hat
      have HNP : Hid (∀ (i j : Nat) f f', i ≠ j → fps[i]? = some f → fps[j]? = some f' → ∀ a ∈ f, a ∉ f') := hnp.2
      have HNG : Hid (∀ f ∈ fps, g ∉ f ∧ f.Nodup) := hnp.1
      have HFP : Hid (fp = g :: fps.flatten) := hfp
      have HNE : Hid (mix i (markL (markB (d' + 1)) (cntB (d' + 1)) k es) es ≠ []) := hne
      have HFS : Hid ((∀ a ∈ f, a ∈ fp) ∧ g ∈ fp ∧ g ∉ f ∧ f.Nodup) := ⟨hfs, hg0, hgf, hfn⟩
      have HMI : Hid ((markL (markB (d' + 1)) (cntB (d' + 1)) k es)[i]? = some (markB (d' + 1) kk x)) := by
        show _ = _
        rw [markL_at _ _ _ _ _ _ hxi, ← HK.out]
      have HSUM : Hid (k + ((es.take (i + 1)).map (cntB (d' + 1))).sum = kk + 4 + (x.val.kids.map (cntV d')).sum) := by show _ = _; omega
      obtain ⟨pk, ck, hkv, -⟩ := hkids.shape
      subst hkv
      have HC3 : Hid (cells[i * 5 + 3]? = some (.string x.val.text)) := hcs 3 (by omega)
      have HC4 : Hid (cells[i * 5 + 4]? = some (.slice pk x.val.kids.length ck)) := hcs 4 (by omega)
      have HC1 : Hid (cells[i * 5 + 1]? = some (.int .i64 x.val.kind)) := hcs 1 (by omega)
      have HC2 : Hid (cells[i * 5 + 2]? = some (.int .i64 x.val.n)) := hcs 2 (by omega)
      have HC0 : Hid (cells[i * 5]? = some (.string x.name)) := hcs 0 (by omega)
      have hki : (i : Int) < (n : Int) := by omega
      have hi0 : (0 : Int) ≤ (i : Int) := by omega
      have hk0 : 1 ≤ kk := by omega
      clear hkids hat hcs hnp hfp hne hfs hg0 hgf hfn hml hmx hsum hle hcx hkk hkb ho hcs5 HKB HO a0 a1 a2
      go_wp2_with fail
      refine (markText_at kk _ (by omega) (by omega) (by omega)).mono ?_
      rintro e w1 ⟨rfl, hb⟩
      have o1 := HO0.out.kept (grownBy_belowR (r := none) hb) (Or.inr (by simp [Value.ownBlock]))
      have b0 := (o1.cellAt (i * 5) (by omega)).trans HC0.out
      have z0 := o1.frozenAt (i * 5)
      have s0 := o1.stored (i * 5) (.string (mtext kk))
      have b1 : (w1.setCell ⟨g, i * 5, none⟩ (.string (mtext kk))).cell? ⟨g, i * 5 + 1, none⟩ = some (.int .i64 x.val.kind) := by
        rw [s0.1.cellAt (i * 5 + 1) (by omega), List.getElem?_set_ne (by omega)]; exact HC1.out
      have z1 := s0.1.frozenAt (i * 5 + 1)
      have s1 := s0.1.stored (i * 5 + 1) (.int .i64 ((kk : Int) + 1))
      have b2 : ((w1.setCell ⟨g, i * 5, none⟩ (.string (mtext kk))).setCell ⟨g, i * 5 + 1, none⟩ (.int .i64 ((kk : Int) + 1))).cell? ⟨g, i * 5 + 2, none⟩ = some (.int .i64 x.val.n) := by
        rw [s1.1.cellAt (i * 5 + 2) (by omega), List.getElem?_set_ne (by omega), List.getElem?_set_ne (by omega)]; exact HC2.out
      have z2 := s1.1.frozenAt (i * 5 + 2)
      have s2 := s1.1.stored (i * 5 + 2) (.int .i64 ((kk : Int) + 1 + 1))
      have HS2 : Hid ((((w1.setCell ⟨g, i * 5, none⟩ (.string (mtext kk))).setCell ⟨g, i * 5 + 1, none⟩ (.int .i64 ((kk : Int) + 1))).setCell ⟨g, i * 5 + 2, none⟩ (.int .i64 ((kk : Int) + 1 + 1))).ownsRow 0 99 5 (.slice (some ⟨g, 0, none⟩) n cap) n (((cells.set (i * 5) (.string (mtext kk))).set (i * 5 + 1) (.int .i64 ((kk : Int) + 1))).set (i * 5 + 2) (.int .i64 ((kk : Int) + 1 + 1)))) := s2.1
      have HG2 : Hid (w1.grownBy (((w1.setCell ⟨g, i * 5, none⟩ (.string (mtext kk))).setCell ⟨g, i * 5 + 1, none⟩ (.int .i64 ((kk : Int) + 1))).setCell ⟨g, i * 5 + 2, none⟩ (.int .i64 ((kk : Int) + 1 + 1))) (some g)) := grownBy_transR s0.2 (grownBy_transR s1.2 s2.2)
      have HB1 : Hid (Below wr.heap.size wr w1) := hb
      clear o1 s0 s1 s2 hb
      go_wp2_with fail
      refine (markText_at (kk + 3) _ (by omega) (by omega) (by omega)).mono ?_
      rintro e w2 ⟨rfl, hb⟩
      have o3 := HS2.out.kept (grownBy_belowR (r := none) hb) (Or.inr (by simp [Value.ownBlock]))
      have b3 : w2.cell? ⟨g, i * 5 + 3, none⟩ = some (.string x.val.text) := by
        rw [o3.cellAt (i * 5 + 3) (by omega), List.getElem?_set_ne (by omega), List.getElem?_set_ne (by omega), List.getElem?_set_ne (by omega)]; exact HC3.out
      have z3 := o3.frozenAt (i * 5 + 3)
      have s3 := o3.stored (i * 5 + 3) (.string (mtext (kk + 3)))
      have b4 : (w2.setCell ⟨g, i * 5 + 3, none⟩ (.string (mtext (kk + 3)))).cell? ⟨g, i * 5 + 4, none⟩ = some (.slice pk x.val.kids.length ck) := by
        rw [s3.1.cellAt (i * 5 + 4) (by omega), List.getElem?_set_ne (by omega), List.getElem?_set_ne (by omega), List.getElem?_set_ne (by omega), List.getElem?_set_ne (by omega)]; exact HC4.out
      have HS3 : Hid ((w2.setCell ⟨g, i * 5 + 3, none⟩ (.string (mtext (kk + 3)))).ownsRow 0 99 5 (.slice (some ⟨g, 0, none⟩) n cap) n ((((cells.set (i * 5) (.string (mtext kk))).set (i * 5 + 1) (.int .i64 ((kk : Int) + 1))).set (i * 5 + 2) (.int .i64 ((kk : Int) + 1 + 1))).set (i * 5 + 3) (.string (mtext (kk + 3))))) := s3.1
      have HG3 : Hid (w2.grownBy (w2.setCell ⟨g, i * 5 + 3, none⟩ (.string (mtext (kk + 3)))) (some g)) := s3.2
      have HB2 : Hid (Below (((w1.setCell ⟨g, i * 5, none⟩ (.string (mtext kk))).setCell ⟨g, i * 5 + 1, none⟩ (.int .i64 ((kk : Int) + 1))).setCell ⟨g, i * 5 + 2, none⟩ (.int .i64 ((kk : Int) + 1 + 1))).heap.size (((w1.setCell ⟨g, i * 5, none⟩ (.string (mtext kk))).setCell ⟨g, i * 5 + 1, none⟩ (.int .i64 ((kk : Int) + 1))).setCell ⟨g, i * 5 + 2, none⟩ (.int .i64 ((kk : Int) + 1 + 1))) w2) := hb
      clear o3 s3 hb b0 b1 b2 z0 z1 z2
      go_wp2_with fail
      have hoff : Off [g] wr (w2.setCell ⟨g, i * 5 + 3, none⟩ (.string (mtext (kk + 3)))) := (Off.of_below HB1.out).trans ((Off.of_grown HG2.out (by simp)).trans ((Off.of_below HB2.out).trans (Off.of_grown HG3.out (by simp))))
      have hkeep : ∀ f', g ∉ f' → (∀ a ∈ f', a < wr.heap.size) → KeepOn f' wr (w2.setCell ⟨g, i * 5 + 3, none⟩ (.string (mtext (kk + 3)))) := fun f' h1 h2 => hoff.keep (fun a ha => ⟨h2 a ha, fun hm => h1 (by rw [List.mem_singleton] at hm; exact hm ▸ ha)⟩)
      have hkf := hkeep f HFS.out.2.2.1 (HKD.out.lt (fun _ _ _ h => h.lt))
      refine ((markS_all d').at x.val.kids f (kk + 4) _ (by omega) (HKD.out.keep hkf (fun cs x f' _ hs h => h.keep (hkf.sub hs))) HFS.out.2.2.2 (by omega) hkk3).mono ?_
      rintro e w3 ⟨rfl, r2, off2⟩
      have hown : w3.ownsRow 0 99 5 (.slice (some ⟨g, 0, none⟩) n cap) n ((((cells.set (i * 5) (.string (mtext kk))).set (i * 5 + 1) (.int .i64 ((kk : Int) + 1))).set (i * 5 + 2) (.int .i64 ((kk : Int) + 1 + 1))).set (i * 5 + 3) (.string (mtext (kk + 3)))) := owns_block HS3.out rfl (off2.block g (owns_lt HS3.out rfl) HFS.out.2.2.1)
      have hset := ORows.set (R := OBd wr (d' + 1)) (R' := OBd w3 (d' + 1)) (x' := markB (d' + 1) kk x) (i := i) (f := f) HNE.out (by rw [HMX.out]; exact hown) (by rw [HMX.out]) (by rw [HMX.out]; exact hl) HAT.out hf
        (fun m hm => by rw [List.getElem?_set_ne (by omega), List.getElem?_set_ne (by omega), List.getElem?_set_ne (by omega), List.getElem?_set_ne (by omega)])
        [.string (mtext kk), .int .i64 ((kk : Int) + 1), .int .i64 ((kk : Int) + 1 + 1), .string (mtext (kk + 3)), .slice pk x.val.kids.length ck] rfl
        (fun j hj => by
          match j, hj with
          | 0, _ => rw [List.getElem?_set_ne (by omega), List.getElem?_set_ne (by omega), List.getElem?_set_ne (by omega)]; exact List.getElem?_set_self (by omega)
          | 1, _ => rw [List.getElem?_set_ne (by omega), List.getElem?_set_ne (by omega), List.getElem?_set_self (by rw [List.length_set]; omega)]; rfl
          | 2, _ => rw [List.getElem?_set_ne (by omega), List.getElem?_set_self (by rw [List.length_set, List.length_set]; omega)]; rfl
          | 3, _ => rw [List.getElem?_set_self (by rw [List.length_set, List.length_set, List.length_set]; omega)]; rfl
          | 4, _ => rw [List.getElem?_set_ne (by omega), List.getElem?_set_ne (by omega), List.getElem?_set_ne (by omega), List.getElem?_set_ne (by omega)]; exact HC4.out)
        ⟨_, rfl, mtext_ok (by omega), _, by simp [markB, Va.kind, Va.n, Va.text]; omega, nat_ok (n := kk + 1) (by omega), nat_ok (n := kk + 2) (by omega), mtext_ok (by omega), r2⟩
        (fun j y f' cs hj hf' h => h.keep (fun a ha => by
          have h1 := (HNG.out f' (List.mem_of_getElem? hf')).1
          have h2 := h.lt a ha
          have h3 := HNP.out j i f' f hj hf' hf a ha
          exact (off2.block a (Nat.lt_of_lt_of_le h2 hoff.size) h3).trans (hkeep f' h1 h.lt a ha)))
      rw [mix_succ (by rw [HL.out, HN.out]) HMI.out, ← HFP.out] at hset
      have HSET : Hid (ORows w3 99 5 (OBd w3 (d' + 1)) (.slice (some ⟨g, 0, none⟩) n cap) (mix (i + 1) (markL (markB (d' + 1)) (cntB (d' + 1)) k es) es) fp) := hset
      have HF2 : Hid (Off fp w w3) := HF.out.trans ((hoff.sub (fun a ha => by rw [List.mem_singleton] at ha; exact ha ▸ HFS.out.2.1)).trans (off2.sub HFS.out.1))
      clear hset hown r2 off2 hoff hkeep hkf
      go_wp2_with fail
      exact ⟨⟨i + 1, kk + 4 + (x.val.kids.map (cntV d')).sum, by omega, by go_num, rfl, HSUM.out.symm, HSET, HF2⟩, by simp [intOf]; omega⟩
    · obtain rfl : i = n := by omega
      have HE : Hid (kk = k + (es.map (cntB d)).sum) := by
        have := HK.out
        rw [List.take_of_length_le (by rw [HN.out]; exact Nat.le_refl _)] at this
        exact this
      have HR2 : Hid (ORows wr 99 5 (OBd wr d) (.slice p i cap) (markL (markB d) (cntB d) k es) fp) := by
        have := HR.out
        rw [mix_all (by rw [HL.out, HN.out]) (by rw [HN.out]; exact Nat.le_refl _)] at this
        exact this
      clear HR HO
      go_wp2_with fail
      go_ret
      exact ⟨by rw [HE.out]; rfl, HR2.out, HF.out⟩

theorem cntV_le : ∀ (d : Nat) (es : List Va), (es.map (cntV d)).sum ≤ 3 * wtS (wtVa d) es
  | 0, es => by
    have : (es.map (cntV 0)).sum = 0 := by
      induction es with
      | nil => rfl
      | cons a l ih => simp only [List.map_cons, List.sum_cons, ih]; rfl
    omega
  | d + 1, es => by
    unfold wtS
    induction es with
    | nil => simp
    | cons a l ih =>
      have h1 := cntV_le d a.kids
      have h2 : cntV (d + 1) a = 3 + (a.kids.map (cntV d)).sum := rfl
      have h3 : wtVa (d + 1) a = a.text.size + wtS (wtVa d) a.kids := rfl
      simp only [List.map_cons, List.sum_cons, List.length_cons]
      omega
theorem cntB_le (d : Nat) (es : List Bd) : (es.map (cntB d)).sum ≤ 4 * wtS (wtBd d) es := by
  unfold wtS
  induction es with
  | nil => simp
  | cons a l ih =>
    cases d with
    | zero =>
      have h2 : cntB 0 a = 0 := rfl
      simp only [List.map_cons, List.sum_cons, List.length_cons]
      omega
    | succ d =>
      have h1 := cntV_le d a.val.kids
      have h2 : cntB (d + 1) a = 4 + (a.val.kids.map (cntV d)).sum := rfl
      have h3 : wtBd (d + 1) a = a.name.size + (a.val.text.size + wtS (wtVa d) a.val.kids) := rfl
      simp only [List.map_cons, List.sum_cons, List.length_cons]
      omega
end Go.Proofs.Ytkcajmkagbgfnaa
