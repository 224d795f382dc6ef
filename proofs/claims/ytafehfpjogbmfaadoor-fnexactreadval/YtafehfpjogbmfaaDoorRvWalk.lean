/-
  The law of ReadVal, walked: at every text. (Written by tools/mkrvwalk.py.)
-/
import Derived.Test.YtafehfpjogbmfaaDoorRvSpecE
import Derived.Test.YtafehfpjogbmfaaDoorRvSz
import Derived.Test.YtafehfpjogbmfaaDoorVaHeld
import Derived.Test.YtafehfpjogbmfaaDoorValEq
namespace Go.Proofs.YtafehfpjogbmfaaDoor
open Go.ChangeShapes Go.WideShapes Go.ChangeAt Go.RowKit
set_option linter.unusedVariables false
set_option maxRecDepth 100000

def RdV (d : Nat) (xs : List Va) (kd nn : Int) (tx : ByteArray) (L : Nat) (ok : Bool) (w : World) (e : Ending) (w' : World) : Prop :=
  ∃ p c fp, e = .returned (.tuple #[.agg #[.int .i64 kd, .int .i64 nn, .string tx, .slice p L c], .bool ok]) ∧ ORows w' 24 4 (OVa w' d) (.slice p L c) xs fp ∧ (okI kd ∧ okI nn ∧ okS tx) ∧ fp.Nodup ∧ (∀ a ∈ fp, w.heap.size ≤ a ∧ a < w'.heap.size) ∧ Below w.heap.size w w'
theorem rdV_of {X : Va} {ok : Bool} {w : World} {e : Ending} {w' : World} (h : RdGot w (X, ok) e w') : RdV (SizeOf.sizeOf X) X.kids X.kind X.n X.text X.kids.length ok w e w' := by
  obtain ⟨cs, fp, rfl, h, nd, rg, hb⟩ := h
  obtain ⟨kv, rfl, h1, h2, h3, hr⟩ := h.fit.deeper (Nat.le_succ _)
  obtain ⟨p, c, rfl, -⟩ := id hr.shape
  exact ⟨p, c, fp, rfl, hr, ⟨h1, h2, h3⟩, nd, rg, hb⟩

set_option maxHeartbeats 16000000 in
theorem fnExactReadVal_walk (w : World) (s : ByteArray) (hs : okS s) (IMP : s.size ≤ 1048576 → ∀ w', Below w.heap.size w w' → Calls Tryd.prog 5 #[.string s] w' (RdGot w' (rdV s.data.toList))) :
    Calls Tryd.prog 3 #[.string s] w fun e w' => e = .returned (.bool true) ∧ Below w.heap.size w w' := by
  have hms : s.size ≤ 9223372036854775807 := by unfold okS maxLen at hs; omega
  by_cases hls : 1048576 < s.size
  · have hls' : (1048576 : Int) < (s.size : Int) := by omega
    clear IMP
    go_enter Tryd.func3, Tryd.ntmps3
    go_wp2_with fail
    go_ret
    exact ⟨rfl, Below.refl _ _⟩
  · have hls' : ¬ (1048576 : Int) < (s.size : Int) := by omega
    have hsm : s.size ≤ 1048576 := by omega
    have hll : s.data.toList.length = s.size := by simp
    have SP0 : ∀ w', Calls Tryd.prog 4 #[.string s] w' (RdGot w' (rdV s.data.toList)) := fun w' => specReadVal_any hsm w'
    have IM0 := IMP hsm
    have CN0 := rdV_cnt s.data.toList
    rw [hll] at CN0
    generalize rdV s.data.toList = RR at *
    obtain ⟨X, ok⟩ := RR
    simp only at CN0
    have CN : Hid (1 + (X.kids.map (cntV (SizeOf.sizeOf X))).sum ≤ 1099511627776) := by
      show _ ≤ _
      have := CN0 (SizeOf.sizeOf X + 1)
      rw [cntV] at this
      omega
    have SP : Hid (∀ w', Calls Tryd.prog 4 #[.string s] w' (RdV (SizeOf.sizeOf X) X.kids X.kind X.n X.text X.kids.length ok w')) := fun w' => (SP0 w').mono fun e w'' h => rdV_of h
    have IM : Hid (∀ w', Below w.heap.size w w' → Calls Tryd.prog 5 #[.string s] w' (RdV (SizeOf.sizeOf X) X.kids X.kind X.n X.text X.kids.length ok w')) := fun w' hb => (IM0 w' hb).mono fun e w'' h => rdV_of h
    have VX : Hid (X = .mk X.kind X.n X.text X.kids) := by show _ = _; cases X; rfl
    clear SP0 IM0 CN0 IMP hs hsm hll
    generalize hd : SizeOf.sizeOf X = d at *
    generalize X.kids.length = L at *
    generalize X.kind = kd at *
    generalize X.n = nn at *
    generalize X.text = tx at *
    generalize X.kids = xs at *
    clear hd VX
    unfold RdV at SP IM
    have B0 : Hid (Below w.heap.size w w) := Below.refl _ _
    go_enter Tryd.func3, Tryd.ntmps3
    go_wp2_with fail
    refine (SP.out _).mono ?_
    rintro e w1 ⟨pw, cw, fpw, rfl, ho, hok, hnd, hrg, hb⟩
    have K1 : Hid (Below w.heap.size w w1) := hb
    have B1 : Hid (Below w.heap.size w w1) := B0.out.trans (K1.out.mono B0.out.size)
    clear hb 
    have HOK : Hid (okI kd ∧ okI nn ∧ okS tx) := hok
    have Ow1 : Hid (ORows w1 24 4 (OVa w1 d) (.slice pw L cw) xs fpw) := ho
    have Rw : Hid (fpw.Nodup ∧ ∀ a ∈ fpw, w.heap.size ≤ a ∧ a < w1.heap.size) := ⟨hnd, hrg⟩
    clear ho hnd hrg hok
    obtain ⟨w2, hW⟩ : ∃ W, W = w1.alloc (.cells #[.int .i64 kd, .int .i64 nn, .string tx, .slice pw L cw] 24) := ⟨_, rfl⟩
    have hb : Below w1.heap.size w1 w2 := by rw [hW]; exact (Below.refl _ _).alloc (Nat.le_refl _) _
    have X2 : Hid (Blk w2 w1.heap.size #[.int .i64 kd, .int .i64 nn, .string tx, .slice pw L cw] 24) := by
      show Blk _ _ _ _
      rw [hW]; exact Blk.new
    have HW2 : Hid (w2 = w1.alloc (.cells #[.int .i64 kd, .int .i64 nn, .string tx, .slice pw L cw] 24)) := hW
    clear hW
    have K2 : Hid (Below w1.heap.size w1 w2) := hb
    have B2 : Hid (Below w.heap.size w w2) := B1.out.trans (K2.out.mono B1.out.size)
    have Nw2 : KeepOn fpw w1 w2 := KeepOn.below K2.out (fun a ha => Ow1.out.lt (fun _ _ _ h => h.lt) a ha)
    have Ow2 : Hid (ORows w2 24 4 (OVa w2 d) (.slice pw L cw) xs fpw) := Ow1.out.keep Nw2 (fun cs x f _ hs h => h.keep (Nw2.sub hs))
    clear Nw2
    clear hb Ow1
    have bw2 : Hid (Blk w2 w1.heap.size #[.int .i64 kd, .int .i64 nn, .string tx, .slice pw L cw] 24) := X2.out
    have LW : Hid (w1.heap.size < w2.heap.size) := bw2.out.lt
    go_wp2_with fail
    rw [← HW2.out]
    refine (IM.out _ B2.out).mono ?_
    rintro e w3 ⟨pg, cg, fpg, rfl, ho, hok, hnd, hrg, hb⟩
    have K3 : Hid (Below w2.heap.size w2 w3) := hb
    have B3 : Hid (Below w.heap.size w w3) := B2.out.trans (K3.out.mono B2.out.size)
    have Nw3 : KeepOn fpw w2 w3 := KeepOn.below K3.out (fun a ha => Ow2.out.lt (fun _ _ _ h => h.lt) a ha)
    have Ow3 : Hid (ORows w3 24 4 (OVa w3 d) (.slice pw L cw) xs fpw) := Ow2.out.keep Nw3 (fun cs x f _ hs h => h.keep (Nw3.sub hs))
    clear Nw3
    have bw3 : Hid (Blk w3 w1.heap.size #[.int .i64 kd, .int .i64 nn, .string tx, .slice pw L cw] 24) := bw2.out.next K3.out
    clear hb Ow2 bw2
    have Og3 : Hid (ORows w3 24 4 (OVa w3 d) (.slice pg L cg) xs fpg) := ho
    have Rg : Hid (fpg.Nodup ∧ ∀ a ∈ fpg, w2.heap.size ≤ a ∧ a < w3.heap.size) := ⟨hnd, hrg⟩
    clear ho hnd hrg hok
    obtain ⟨w4, hW⟩ : ∃ W, W = w3.alloc (.cells #[.int .i64 kd, .int .i64 nn, .string tx, .slice pg L cg] 24) := ⟨_, rfl⟩
    have hb : Below w3.heap.size w3 w4 := by rw [hW]; exact (Below.refl _ _).alloc (Nat.le_refl _) _
    have X4 : Hid (Blk w4 w3.heap.size #[.int .i64 kd, .int .i64 nn, .string tx, .slice pg L cg] 24) := by
      show Blk _ _ _ _
      rw [hW]; exact Blk.new
    have HW4 : Hid (w4 = w3.alloc (.cells #[.int .i64 kd, .int .i64 nn, .string tx, .slice pg L cg] 24)) := hW
    clear hW
    have K4 : Hid (Below w3.heap.size w3 w4) := hb
    have B4 : Hid (Below w.heap.size w w4) := B3.out.trans (K4.out.mono B3.out.size)
    have Nw4 : KeepOn fpw w3 w4 := KeepOn.below K4.out (fun a ha => Ow3.out.lt (fun _ _ _ h => h.lt) a ha)
    have Ow4 : Hid (ORows w4 24 4 (OVa w4 d) (.slice pw L cw) xs fpw) := Ow3.out.keep Nw4 (fun cs x f _ hs h => h.keep (Nw4.sub hs))
    clear Nw4
    have Ng4 : KeepOn fpg w3 w4 := KeepOn.below K4.out (fun a ha => Og3.out.lt (fun _ _ _ h => h.lt) a ha)
    have Og4 : Hid (ORows w4 24 4 (OVa w4 d) (.slice pg L cg) xs fpg) := Og3.out.keep Ng4 (fun cs x f _ hs h => h.keep (Ng4.sub hs))
    clear Ng4
    have bw4 : Hid (Blk w4 w1.heap.size #[.int .i64 kd, .int .i64 nn, .string tx, .slice pw L cw] 24) := bw3.out.next K4.out
    clear hb Ow3 Og3 bw3
    have bg4 : Hid (Blk w4 w3.heap.size #[.int .i64 kd, .int .i64 nn, .string tx, .slice pg L cg] 24) := X4.out
    have yg0 := bg4.out.cell 0 _ rfl
    have yg1 := bg4.out.cell 1 _ rfl
    have yg2 := bg4.out.cell 2 _ rfl
    have yg3 := bg4.out.cell 3 _ rfl
    have yw0 := bw4.out.cell 0 _ rfl
    have yw1 := bw4.out.cell 1 _ rfl
    have yw2 := bw4.out.cell 2 _ rfl
    have yw3 := bw4.out.cell 3 _ rfl
    rw [HW4.out] at yg0 yg1 yg2 yg3 yw0 yw1 yw2 yw3
    go_wp2_with fail
    clear yg0 yg1 yg2 yg3 yw0 yw1 yw2 yw3
    rw [← HW4.out]
    refine (eqVal_all (d + 1) _ _ _ (.mk kd nn tx xs) ⟨_, rfl, (⟨_, rfl, HOK.out.1, HOK.out.2.1, HOK.out.2.2, Og4.out.tree (fun _ _ => trivial)⟩ : HVa _ All (d + 1) _ (.mk kd nn tx xs))⟩ ⟨_, rfl, (⟨_, rfl, HOK.out.1, HOK.out.2.1, HOK.out.2.2, Ow4.out.tree (fun _ _ => trivial)⟩ : HVa _ All (d + 1) _ (.mk kd nn tx xs))⟩).mono ?_
    rintro e w5 ⟨rfl, hb⟩
    have K5 : Hid (Below w4.heap.size w4 w5) := hb
    have B5 : Hid (Below w.heap.size w w5) := B4.out.trans (K5.out.mono B4.out.size)
    have Nw5 : KeepOn fpw w4 w5 := KeepOn.below K5.out (fun a ha => Ow4.out.lt (fun _ _ _ h => h.lt) a ha)
    have Ow5 : Hid (ORows w5 24 4 (OVa w5 d) (.slice pw L cw) xs fpw) := Ow4.out.keep Nw5 (fun cs x f _ hs h => h.keep (Nw5.sub hs))
    clear Nw5
    have Ng5 : KeepOn fpg w4 w5 := KeepOn.below K5.out (fun a ha => Og4.out.lt (fun _ _ _ h => h.lt) a ha)
    have Og5 : Hid (ORows w5 24 4 (OVa w5 d) (.slice pg L cg) xs fpg) := Og4.out.keep Ng5 (fun cs x f _ hs h => h.keep (Ng5.sub hs))
    clear Ng5
    have bw5 : Hid (Blk w5 w1.heap.size #[.int .i64 kd, .int .i64 nn, .string tx, .slice pw L cw] 24) := bw4.out.next K5.out
    have bg5 : Hid (Blk w5 w3.heap.size #[.int .i64 kd, .int .i64 nn, .string tx, .slice pg L cg] 24) := bg4.out.next K5.out
    clear hb Ow4 Og4 bw4 bg4
    have yg0 := bg5.out.cell 0 _ rfl
    have yg1 := bg5.out.cell 1 _ rfl
    have yg2 := bg5.out.cell 2 _ rfl
    have yg3 := bg5.out.cell 3 _ rfl
    go_wp2_with fail
    clear yg0 yg1 yg2 yg3
    refine (markVal_any d _ _ _ _ _ xs fpg 1 Og5.out Rg.out.1 (Nat.le_refl _) CN.out).mono ?_
    rintro e w6 ⟨rfl, hm, off⟩
    have HHE : Hid (∀ w', ORows w' 24 4 (OVa w' d) (.slice pg L cg) (markL (markV d) (cntV d) 1 xs) fpg → Calls Tryd.prog 8 #[.agg #[.int .i64 kd, .int .i64 nn, .string tx, .slice pg L cg], .int .i64 1] w' fun e w'' => e = .returned (.int .i64 ((1 + (xs.map (cntV d)).sum : Nat) : Int)) ∧ Below w'.heap.size w' w'') := fun w' h => heldVal_any d w' kd nn tx _ xs 1 (h.tree (fun _ _ => trivial)) (Nat.le_refl _) CN.out
    have hkz0 : (0 : Int) ≤ ((1 + (xs.map (cntV d)).sum : Nat) : Int) := by omega
    generalize ((1 + (xs.map (cntV d)).sum : Nat) : Int) = kz at hkz0 HHE ⊢
    have hkz : ¬ kz < 0 := by omega
    have KS6 : Hid (w5.heap.size ≤ w6.heap.size) := off.size
    have B6 : Hid (Below w.heap.size w w6) := B5.out.trans (off.below (N := w.heap.size) (fun a ha => Nat.le_trans B2.out.size (Rg.out.2 a ha).1) B5.out.size)
    have Nw6 : KeepOn fpw w5 w6 := off.keep (fun a ha => ⟨Ow5.out.lt (fun _ _ _ h => h.lt) a ha, fun hm => by have h1 := Rw.out.2 a ha; have h2 := Rg.out.2 a hm; have := LW.out; omega⟩)
    have Ow6 : Hid (ORows w6 24 4 (OVa w6 d) (.slice pw L cw) xs fpw) := Ow5.out.keep Nw6 (fun cs x f _ hs h => h.keep (Nw6.sub hs))
    have Om6 : Hid (ORows w6 24 4 (OVa w6 d) (.slice pg L cg) (markL (markV d) (cntV d) 1 xs) fpg) := hm
    have bw6 : Hid (Blk w6 w1.heap.size #[.int .i64 kd, .int .i64 nn, .string tx, .slice pw L cw] 24) := (off.block _ bw5.out.lt (fun hm => by have h2 := Rg.out.2 _ hm; have := LW.out; omega)).trans bw5.out
    have bg6 : Hid (Blk w6 w3.heap.size #[.int .i64 kd, .int .i64 nn, .string tx, .slice pg L cg] 24) := (off.block _ bg5.out.lt (fun hm => by have h2 := Rg.out.2 _ hm; omega)).trans bg5.out
    clear hm off hkz0 Ow5 Og5 bw5 bg5 Nw6
    have yg0 := bg6.out.cell 0 _ rfl
    have yg1 := bg6.out.cell 1 _ rfl
    have yg2 := bg6.out.cell 2 _ rfl
    have yg3 := bg6.out.cell 3 _ rfl
    go_wp2_with fail
    clear yg0 yg1 yg2 yg3
    refine (HHE.out _ Om6.out).mono ?_
    rintro e w7 ⟨rfl, hb⟩
    have K7 : Hid (Below w6.heap.size w6 w7) := hb
    have B7 : Hid (Below w.heap.size w w7) := B6.out.trans (K7.out.mono B6.out.size)
    have Nw7 : KeepOn fpw w6 w7 := KeepOn.below K7.out (fun a ha => Ow6.out.lt (fun _ _ _ h => h.lt) a ha)
    have Ow7 : Hid (ORows w7 24 4 (OVa w7 d) (.slice pw L cw) xs fpw) := Ow6.out.keep Nw7 (fun cs x f _ hs h => h.keep (Nw7.sub hs))
    clear Nw7
    have Nm7 : KeepOn fpg w6 w7 := KeepOn.below K7.out (fun a ha => Om6.out.lt (fun _ _ _ h => h.lt) a ha)
    have Om7 : Hid (ORows w7 24 4 (OVa w7 d) (.slice pg L cg) (markL (markV d) (cntV d) 1 xs) fpg) := Om6.out.keep Nm7 (fun cs x f _ hs h => h.keep (Nm7.sub hs))
    clear Nm7
    have bw7 : Hid (Blk w7 w1.heap.size #[.int .i64 kd, .int .i64 nn, .string tx, .slice pw L cw] 24) := bw6.out.next K7.out
    have bg7 : Hid (Blk w7 w3.heap.size #[.int .i64 kd, .int .i64 nn, .string tx, .slice pg L cg] 24) := bg6.out.next K7.out
    clear hb Ow6 Om6 bw6 bg6
    go_wp2_with fail
    refine (IM.out _ B7.out).mono ?_
    rintro e w8 ⟨ph, ch, fph, rfl, ho, hok, hnd, hrg, hb⟩
    have K8 : Hid (Below w7.heap.size w7 w8) := hb
    have B8 : Hid (Below w.heap.size w w8) := B7.out.trans (K8.out.mono B7.out.size)
    have Nw8 : KeepOn fpw w7 w8 := KeepOn.below K8.out (fun a ha => Ow7.out.lt (fun _ _ _ h => h.lt) a ha)
    have Ow8 : Hid (ORows w8 24 4 (OVa w8 d) (.slice pw L cw) xs fpw) := Ow7.out.keep Nw8 (fun cs x f _ hs h => h.keep (Nw8.sub hs))
    clear Nw8
    have Nm8 : KeepOn fpg w7 w8 := KeepOn.below K8.out (fun a ha => Om7.out.lt (fun _ _ _ h => h.lt) a ha)
    have Om8 : Hid (ORows w8 24 4 (OVa w8 d) (.slice pg L cg) (markL (markV d) (cntV d) 1 xs) fpg) := Om7.out.keep Nm8 (fun cs x f _ hs h => h.keep (Nm8.sub hs))
    clear Nm8
    have bw8 : Hid (Blk w8 w1.heap.size #[.int .i64 kd, .int .i64 nn, .string tx, .slice pw L cw] 24) := bw7.out.next K8.out
    have bg8 : Hid (Blk w8 w3.heap.size #[.int .i64 kd, .int .i64 nn, .string tx, .slice pg L cg] 24) := bg7.out.next K8.out
    clear hb Ow7 Om7 bw7 bg7
    have Oh8 : Hid (ORows w8 24 4 (OVa w8 d) (.slice ph L ch) xs fph) := ho
    have Rh : Hid (fph.Nodup ∧ ∀ a ∈ fph, w7.heap.size ≤ a ∧ a < w8.heap.size) := ⟨hnd, hrg⟩
    clear ho hnd hrg hok
    obtain ⟨w9, hW⟩ : ∃ W, W = w8.alloc (.cells #[.int .i64 kd, .int .i64 nn, .string tx, .slice ph L ch] 24) := ⟨_, rfl⟩
    have hb : Below w8.heap.size w8 w9 := by rw [hW]; exact (Below.refl _ _).alloc (Nat.le_refl _) _
    have X9 : Hid (Blk w9 w8.heap.size #[.int .i64 kd, .int .i64 nn, .string tx, .slice ph L ch] 24) := by
      show Blk _ _ _ _
      rw [hW]; exact Blk.new
    have HW9 : Hid (w9 = w8.alloc (.cells #[.int .i64 kd, .int .i64 nn, .string tx, .slice ph L ch] 24)) := hW
    clear hW
    have K9 : Hid (Below w8.heap.size w8 w9) := hb
    have B9 : Hid (Below w.heap.size w w9) := B8.out.trans (K9.out.mono B8.out.size)
    have Nw9 : KeepOn fpw w8 w9 := KeepOn.below K9.out (fun a ha => Ow8.out.lt (fun _ _ _ h => h.lt) a ha)
    have Ow9 : Hid (ORows w9 24 4 (OVa w9 d) (.slice pw L cw) xs fpw) := Ow8.out.keep Nw9 (fun cs x f _ hs h => h.keep (Nw9.sub hs))
    clear Nw9
    have Nm9 : KeepOn fpg w8 w9 := KeepOn.below K9.out (fun a ha => Om8.out.lt (fun _ _ _ h => h.lt) a ha)
    have Om9 : Hid (ORows w9 24 4 (OVa w9 d) (.slice pg L cg) (markL (markV d) (cntV d) 1 xs) fpg) := Om8.out.keep Nm9 (fun cs x f _ hs h => h.keep (Nm9.sub hs))
    clear Nm9
    have Nh9 : KeepOn fph w8 w9 := KeepOn.below K9.out (fun a ha => Oh8.out.lt (fun _ _ _ h => h.lt) a ha)
    have Oh9 : Hid (ORows w9 24 4 (OVa w9 d) (.slice ph L ch) xs fph) := Oh8.out.keep Nh9 (fun cs x f _ hs h => h.keep (Nh9.sub hs))
    clear Nh9
    have bw9 : Hid (Blk w9 w1.heap.size #[.int .i64 kd, .int .i64 nn, .string tx, .slice pw L cw] 24) := bw8.out.next K9.out
    have bg9 : Hid (Blk w9 w3.heap.size #[.int .i64 kd, .int .i64 nn, .string tx, .slice pg L cg] 24) := bg8.out.next K9.out
    clear hb Ow8 Om8 Oh8 bw8 bg8
    have bh9 : Hid (Blk w9 w8.heap.size #[.int .i64 kd, .int .i64 nn, .string tx, .slice ph L ch] 24) := X9.out
    have yh0 := bh9.out.cell 0 _ rfl
    have yh1 := bh9.out.cell 1 _ rfl
    have yh2 := bh9.out.cell 2 _ rfl
    have yh3 := bh9.out.cell 3 _ rfl
    have yw0 := bw9.out.cell 0 _ rfl
    have yw1 := bw9.out.cell 1 _ rfl
    have yw2 := bw9.out.cell 2 _ rfl
    have yw3 := bw9.out.cell 3 _ rfl
    rw [HW9.out] at yh0 yh1 yh2 yh3 yw0 yw1 yw2 yw3
    go_wp2_with fail
    clear yh0 yh1 yh2 yh3 yw0 yw1 yw2 yw3
    rw [← HW9.out]
    refine (eqVal_all (d + 1) _ _ _ (.mk kd nn tx xs) ⟨_, rfl, (⟨_, rfl, HOK.out.1, HOK.out.2.1, HOK.out.2.2, Oh9.out.tree (fun _ _ => trivial)⟩ : HVa _ All (d + 1) _ (.mk kd nn tx xs))⟩ ⟨_, rfl, (⟨_, rfl, HOK.out.1, HOK.out.2.1, HOK.out.2.2, Ow9.out.tree (fun _ _ => trivial)⟩ : HVa _ All (d + 1) _ (.mk kd nn tx xs))⟩).mono ?_
    rintro e w10 ⟨rfl, hb⟩
    have K10 : Hid (Below w9.heap.size w9 w10) := hb
    have B10 : Hid (Below w.heap.size w w10) := B9.out.trans (K10.out.mono B9.out.size)
    have Nw10 : KeepOn fpw w9 w10 := KeepOn.below K10.out (fun a ha => Ow9.out.lt (fun _ _ _ h => h.lt) a ha)
    have Ow10 : Hid (ORows w10 24 4 (OVa w10 d) (.slice pw L cw) xs fpw) := Ow9.out.keep Nw10 (fun cs x f _ hs h => h.keep (Nw10.sub hs))
    clear Nw10
    have Nm10 : KeepOn fpg w9 w10 := KeepOn.below K10.out (fun a ha => Om9.out.lt (fun _ _ _ h => h.lt) a ha)
    have Om10 : Hid (ORows w10 24 4 (OVa w10 d) (.slice pg L cg) (markL (markV d) (cntV d) 1 xs) fpg) := Om9.out.keep Nm10 (fun cs x f _ hs h => h.keep (Nm10.sub hs))
    clear Nm10
    have Nh10 : KeepOn fph w9 w10 := KeepOn.below K10.out (fun a ha => Oh9.out.lt (fun _ _ _ h => h.lt) a ha)
    have Oh10 : Hid (ORows w10 24 4 (OVa w10 d) (.slice ph L ch) xs fph) := Oh9.out.keep Nh10 (fun cs x f _ hs h => h.keep (Nh10.sub hs))
    clear Nh10
    have bw10 : Hid (Blk w10 w1.heap.size #[.int .i64 kd, .int .i64 nn, .string tx, .slice pw L cw] 24) := bw9.out.next K10.out
    have bg10 : Hid (Blk w10 w3.heap.size #[.int .i64 kd, .int .i64 nn, .string tx, .slice pg L cg] 24) := bg9.out.next K10.out
    have bh10 : Hid (Blk w10 w8.heap.size #[.int .i64 kd, .int .i64 nn, .string tx, .slice ph L ch] 24) := bh9.out.next K10.out
    clear hb Ow9 Om9 Oh9 bw9 bg9 bh9
    have yg0 := bg10.out.cell 0 _ rfl
    have yg1 := bg10.out.cell 1 _ rfl
    have yg2 := bg10.out.cell 2 _ rfl
    have yg3 := bg10.out.cell 3 _ rfl
    go_wp2_with fail
    clear yg0 yg1 yg2 yg3
    refine (HHE.out _ Om10.out).mono ?_
    rintro e w11 ⟨rfl, hb⟩
    have K11 : Hid (Below w10.heap.size w10 w11) := hb
    have B11 : Hid (Below w.heap.size w w11) := B10.out.trans (K11.out.mono B10.out.size)
    have Nw11 : KeepOn fpw w10 w11 := KeepOn.below K11.out (fun a ha => Ow10.out.lt (fun _ _ _ h => h.lt) a ha)
    have Ow11 : Hid (ORows w11 24 4 (OVa w11 d) (.slice pw L cw) xs fpw) := Ow10.out.keep Nw11 (fun cs x f _ hs h => h.keep (Nw11.sub hs))
    clear Nw11
    have Nm11 : KeepOn fpg w10 w11 := KeepOn.below K11.out (fun a ha => Om10.out.lt (fun _ _ _ h => h.lt) a ha)
    have Om11 : Hid (ORows w11 24 4 (OVa w11 d) (.slice pg L cg) (markL (markV d) (cntV d) 1 xs) fpg) := Om10.out.keep Nm11 (fun cs x f _ hs h => h.keep (Nm11.sub hs))
    clear Nm11
    have Nh11 : KeepOn fph w10 w11 := KeepOn.below K11.out (fun a ha => Oh10.out.lt (fun _ _ _ h => h.lt) a ha)
    have Oh11 : Hid (ORows w11 24 4 (OVa w11 d) (.slice ph L ch) xs fph) := Oh10.out.keep Nh11 (fun cs x f _ hs h => h.keep (Nh11.sub hs))
    clear Nh11
    have bw11 : Hid (Blk w11 w1.heap.size #[.int .i64 kd, .int .i64 nn, .string tx, .slice pw L cw] 24) := bw10.out.next K11.out
    have bg11 : Hid (Blk w11 w3.heap.size #[.int .i64 kd, .int .i64 nn, .string tx, .slice pg L cg] 24) := bg10.out.next K11.out
    have bh11 : Hid (Blk w11 w8.heap.size #[.int .i64 kd, .int .i64 nn, .string tx, .slice ph L ch] 24) := bh10.out.next K11.out
    clear hb Ow10 Om10 Oh10 bw10 bg10 bh10
    go_wp2_with fail
    go_ret
    exact ⟨rfl, B11.out⟩
end Go.Proofs.YtafehfpjogbmfaaDoor
