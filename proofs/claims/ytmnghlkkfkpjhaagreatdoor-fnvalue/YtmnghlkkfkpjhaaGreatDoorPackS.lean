/-
  Texts of the proof, packed: TextImpl2, ValOkTop.
-/
import Derived.Test.YtmnghlkkfkpjhaaGreatDoorPackR
import Derived.Laws.IdiomStrings
import Derived.Lib.BufferRead
import Derived.Test.YtmnghlkkfkpjhaaGreatDoorPackN
/-
  The program's ValText, by contract: appendVal, kind by kind.
-/
namespace Go.Proofs.YtmnghlkkfkpjhaaGreatDoor
open Go.ChangeShapes Go.WideShapes Go.ChangeAt Go.RowKit
set_option linter.unusedVariables false

theorem news_one (W : World) (c : UInt8) (t : TypeId) (g : Nat) (hg : g = W.heap.size) : ∀ j u, (byts [c])[j]? = some u → (W.alloc (.cells #[.int .u8 c.toNat] t)).cell? ((⟨g, 0, none⟩ : Addr).add j) = some u := by
  subst hg
  intro j u h
  match j, h with
  | 0, h => simp [byts] at h; subst h; rw [Addr.add]; exact cell_new W _ t 0 _ rfl
theorem byts_oneCell (l : List UInt8) : ∀ u ∈ byts l, u.oneCell' = true := by
  intro u hu
  simp only [byts, List.mem_map] at hu
  obtain ⟨b, _, rfl⟩ := hu
  rfl

set_option maxHeartbeats 8000000 in
set_option maxRecDepth 100000 in
theorem ap0 {d : Nat} (h1 : ApsC d) (w : World) (nx : Int) (tx : ByteArray) (p : Option Addr) (cap : Nat) (es : List Va) (B : Nat) (tv : Value) (l : List UInt8) (hnb : es.length ≤ 9223372036854775807) (hni : okI nx) (hts : tx.size ≤ maxLen) (F0 : Rows w (fun g => g < B) 4 (HVa w (fun g => g < B) d) (.slice p es.length cap) es)
    (hwt : l.length + (22 + 25 * (tx.size + wtS (wtVa d) es)) ≤ 60000000) (hgd : Gd w B) (hown : OwnB w B tv l) :
    Calls Tryz.prog 52 #[tv, .agg #[.int .i64 0, .int .i64 nx, .string tx, .slice p es.length cap]] w fun e w' => ∃ tv', e = .returned tv' ∧ OwnB w' B tv' (l ++ vaTxt (d + 1) (.mk 0 nx tx es)) ∧ Below B w w' := by
  have HG : Hid (Gd w B) := hgd
  have HO : Hid (OwnB w B tv l) := hown
  have HF : Hid (Rows w (fun g => g < B) 4 (HVa w (fun g => g < B) d) (.slice p es.length cap) es) := F0
  obtain ⟨i0, i1⟩ := okI_bd hni
  obtain ⟨i, hi, hz0, hz1, hz2⟩ := info_parts info_u8
  have hB := hown.2
  have HNE : Hid (∀ b, w.heap.size ≤ b → tv.ownBlock ≠ some b) := fun b hb e => by have := (hown.off e).2; omega
  clear hgd hown F0 hni
  generalize hln : es.length = n at *
  have HLN : Hid (es.length = n) := hln
  clear hln
  have q_numberValue := as_numberValue_numberValue
  go_enter Tryz.func52, Tryz.ntmps52
  go_wp2_with fail
  refine (vof0 nx tx p n cap _).mono ?_
  rintro e w1 ⟨rfl, hb⟩
  have B1 : Hid (Below w.heap.size w w1) := ((Below.refl _ _).alloc (Nat.le_refl _) _).trans (hb.mono (by simp))
  clear hb
  have BA : Hid (Below w.heap.size w (w1.alloc (.cells #[.int .i64 nx] 87))) := B1.out.alloc B1.out.size _
  go_wp2_with fail
  refine (implDecText_any nx _ i0 i1 (powAt_below HG.out.pow BA.out)).mono ?_
  rintro e w2 ⟨rfl, hb2⟩
  have B2 : Hid (Below w.heap.size w w2) := BA.out.trans (hb2.mono BA.out.size)
  have BB : Hid (Below B w w2) := B2.out.mono hB
  have HO1 : Hid (OwnB w2 B tv l) := HO.out.next B2.out
  have hil := itoa_len nx i0 i1
  clear hb2
  go_wp2_with (first | (at_builtin; refine wpList_append_stringM _ rfl _ _ 22 9 rfl B 5 i Tryz.underlying22 Tryz.underlying9 hi hz0 hz1 hz2 tv _ _ rfl HO1.out.1 ⟨(Lib.itoa nx).toArray⟩ rfl (by unfold maxLen; simp [ByteArray.size]; omega) (by simp [ByteArray.size]; omega) HO1.out.2 ?_))
  intro tv2 w9 hown2 hgr2 _
  have HO2 : Hid (OwnB w9 B tv2 (l ++ Lib.itoa nx)) := OwnB.of hown2 (by simp only [List.length_append]) (by rw [byts_str]) (Nat.le_trans HO1.out.2 hgr2.size)
  have HB2 : Hid (Below B w w9) := BB.out.trans (HO1.out.below hgr2)
  clear hown2 hgr2
  go_wp2_with fail
  go_ret
  exact ⟨tv2, rfl, by simpa [vaTxt, Va.kind, Va.n, Va.text] using HO2.out, HB2.out⟩

set_option maxHeartbeats 8000000 in
set_option maxRecDepth 100000 in
theorem ap1 {d : Nat} (h1 : ApsC d) (w : World) (nx : Int) (tx : ByteArray) (p : Option Addr) (cap : Nat) (es : List Va) (B : Nat) (tv : Value) (l : List UInt8) (hnb : es.length ≤ 9223372036854775807) (hni : okI nx) (hts : tx.size ≤ maxLen) (F0 : Rows w (fun g => g < B) 4 (HVa w (fun g => g < B) d) (.slice p es.length cap) es)
    (hwt : l.length + (22 + 25 * (tx.size + wtS (wtVa d) es)) ≤ 60000000) (hgd : Gd w B) (hown : OwnB w B tv l) :
    Calls Tryz.prog 52 #[tv, .agg #[.int .i64 1, .int .i64 nx, .string tx, .slice p es.length cap]] w fun e w' => ∃ tv', e = .returned tv' ∧ OwnB w' B tv' (l ++ vaTxt (d + 1) (.mk 1 nx tx es)) ∧ Below B w w' := by
  have HG : Hid (Gd w B) := hgd
  have HO : Hid (OwnB w B tv l) := hown
  have HF : Hid (Rows w (fun g => g < B) 4 (HVa w (fun g => g < B) d) (.slice p es.length cap) es) := F0
  obtain ⟨i0, i1⟩ := okI_bd hni
  obtain ⟨i, hi, hz0, hz1, hz2⟩ := info_parts info_u8
  have hB := hown.2
  have HNE : Hid (∀ b, w.heap.size ≤ b → tv.ownBlock ≠ some b) := fun b hb e => by have := (hown.off e).2; omega
  clear hgd hown F0 hni
  generalize hln : es.length = n at *
  have HLN : Hid (es.length = n) := hln
  clear hln
  have q_numberValue := as_atomValue_numberValue
  have q_atomValue := as_atomValue_atomValue
  go_enter Tryz.func52, Tryz.ntmps52
  go_wp2_with fail
  refine (vof1 nx tx p n cap _).mono ?_
  rintro e w1 ⟨rfl, hb⟩
  have B1 : Hid (Below w.heap.size w w1) := ((Below.refl _ _).alloc (Nat.le_refl _) _).trans (hb.mono (by simp))
  clear hb
  have BA : Hid (Below w.heap.size w (w1.alloc (.cells #[.string tx] 89))) := B1.out.alloc B1.out.size _
  have BB : Hid (Below B w (w1.alloc (.cells #[.string tx] 89))) := BA.out.mono hB
  have HO1 : Hid (OwnB (w1.alloc (.cells #[.string tx] 89)) B tv l) := HO.out.next BA.out
  go_wp2_with (first | (at_builtin; refine wpList_append_stringM _ rfl _ _ 22 9 rfl B 5 i Tryz.underlying22 Tryz.underlying9 hi hz0 hz1 hz2 tv _ _ rfl HO1.out.1 tx rfl (by unfold maxLen; omega) (by omega) HO1.out.2 ?_))
  intro tv2 w9 hown2 hgr2 _
  have HO2 : Hid (OwnB w9 B tv2 (l ++ tx.data.toList)) := OwnB.of hown2 (by simp only [List.length_append, bsize]) (by rw [byts_str]) (Nat.le_trans HO1.out.2 hgr2.size)
  have HB2 : Hid (Below B w w9) := BB.out.trans (HO1.out.below hgr2)
  clear hown2 hgr2
  go_wp2_with fail
  go_ret
  exact ⟨tv2, rfl, by simpa [vaTxt, Va.kind, Va.n, Va.text] using HO2.out, HB2.out⟩

set_option maxHeartbeats 8000000 in
set_option maxRecDepth 100000 in
theorem ap3 {d : Nat} (h1 : ApsC d) (w : World) (nx : Int) (tx : ByteArray) (p : Option Addr) (cap : Nat) (es : List Va) (B : Nat) (tv : Value) (l : List UInt8) (hnb : es.length ≤ 9223372036854775807) (hni : okI nx) (hts : tx.size ≤ maxLen) (F0 : Rows w (fun g => g < B) 4 (HVa w (fun g => g < B) d) (.slice p es.length cap) es)
    (hwt : l.length + (22 + 25 * (tx.size + wtS (wtVa d) es)) ≤ 60000000) (hgd : Gd w B) (hown : OwnB w B tv l) :
    Calls Tryz.prog 52 #[tv, .agg #[.int .i64 3, .int .i64 nx, .string tx, .slice p es.length cap]] w fun e w' => ∃ tv', e = .returned tv' ∧ OwnB w' B tv' (l ++ vaTxt (d + 1) (.mk 3 nx tx es)) ∧ Below B w w' := by
  have HG : Hid (Gd w B) := hgd
  have HO : Hid (OwnB w B tv l) := hown
  have HF : Hid (Rows w (fun g => g < B) 4 (HVa w (fun g => g < B) d) (.slice p es.length cap) es) := F0
  obtain ⟨i0, i1⟩ := okI_bd hni
  obtain ⟨i, hi, hz0, hz1, hz2⟩ := info_parts info_u8
  have hB := hown.2
  have HNE : Hid (∀ b, w.heap.size ≤ b → tv.ownBlock ≠ some b) := fun b hb e => by have := (hown.off e).2; omega
  clear hgd hown F0 hni
  generalize hln : es.length = n at *
  have HLN : Hid (es.length = n) := hln
  clear hln
  have q_numberValue := as_nilValue_numberValue
  have q_atomValue := as_nilValue_atomValue
  have q_tupleValue := as_nilValue_tupleValue
  have q_nilValue := as_nilValue_nilValue
  go_enter Tryz.func52, Tryz.ntmps52
  go_wp2_with fail
  refine (vof3 nx tx p n cap _).mono ?_
  rintro e w1 ⟨rfl, hb⟩
  have B1 : Hid (Below w.heap.size w w1) := ((Below.refl _ _).alloc (Nat.le_refl _) _).trans (hb.mono (by simp))
  clear hb
  have BA : Hid (Below w.heap.size w (w1.alloc (.cells #[] 95))) := B1.out.alloc B1.out.size _
  have BB : Hid (Below B w (w1.alloc (.cells #[] 95))) := BA.out.mono hB
  have HO1 : Hid (OwnB (w1.alloc (.cells #[] 95)) B tv l) := HO.out.next BA.out
  go_wp2_with (first | (at_builtin; refine wpList_append_stringM _ rfl _ _ 22 9 rfl B 5 i Tryz.underlying22 Tryz.underlying9 hi hz0 hz1 hz2 tv _ _ rfl HO1.out.1 ⟨#[91, 93]⟩ rfl (by unfold maxLen; simp [ByteArray.size]; omega) (by simp [ByteArray.size]; omega) HO1.out.2 ?_))
  intro tv2 w9 hown2 hgr2 _
  have HO2 : Hid (OwnB w9 B tv2 (l ++ [91, 93])) := OwnB.of hown2 (by rw [List.length_append]; rfl) rfl (Nat.le_trans HO1.out.2 hgr2.size)
  have HB2 : Hid (Below B w w9) := BB.out.trans (HO1.out.below hgr2)
  clear hown2 hgr2
  go_wp2_with fail
  go_ret
  exact ⟨tv2, rfl, by simpa [vaTxt, Va.kind, Va.n, Va.text] using HO2.out, HB2.out⟩

set_option maxHeartbeats 8000000 in
set_option maxRecDepth 100000 in
theorem ap2 {d : Nat} (h1 : ApsC d) (w : World) (nx : Int) (tx : ByteArray) (p : Option Addr) (cap : Nat) (es : List Va) (B : Nat) (tv : Value) (l : List UInt8) (hnb : es.length ≤ 9223372036854775807) (hni : okI nx) (hts : tx.size ≤ maxLen) (F0 : Rows w (fun g => g < B) 4 (HVa w (fun g => g < B) d) (.slice p es.length cap) es)
    (hwt : l.length + (22 + 25 * (tx.size + wtS (wtVa d) es)) ≤ 60000000) (hgd : Gd w B) (hown : OwnB w B tv l) :
    Calls Tryz.prog 52 #[tv, .agg #[.int .i64 2, .int .i64 nx, .string tx, .slice p es.length cap]] w fun e w' => ∃ tv', e = .returned tv' ∧ OwnB w' B tv' (l ++ vaTxt (d + 1) (.mk 2 nx tx es)) ∧ Below B w w' := by
  have HG : Hid (Gd w B) := hgd
  have HO : Hid (OwnB w B tv l) := hown
  have HF : Hid (Rows w (fun g => g < B) 4 (HVa w (fun g => g < B) d) (.slice p es.length cap) es) := F0
  obtain ⟨i0, i1⟩ := okI_bd hni
  obtain ⟨i, hi, hz0, hz1, hz2⟩ := info_parts info_u8
  have hB := hown.2
  have HNE : Hid (∀ b, w.heap.size ≤ b → tv.ownBlock ≠ some b) := fun b hb e => by have := (hown.off e).2; omega
  clear hgd hown F0 hni
  generalize hln : es.length = n at *
  have HLN : Hid (es.length = n) := hln
  clear hln
  have q_numberValue := as_tupleValue_numberValue
  have q_atomValue := as_tupleValue_atomValue
  have q_tupleValue := as_tupleValue_tupleValue
  go_enter Tryz.func52, Tryz.ntmps52
  go_wp2_with fail
  refine (vof2 nx tx p n cap _).mono ?_
  rintro e w1 ⟨rfl, hb⟩
  have B1 : Hid (Below w.heap.size w w1) := ((Below.refl _ _).alloc (Nat.le_refl _) _).trans (hb.mono (by simp))
  clear hb
  have BA : Hid (Below w.heap.size w ((w1.alloc (.cells #[.slice p n cap] 91)).alloc (.cells #[.int .u8 123] 5))) := (B1.out.alloc B1.out.size _).alloc (by have := B1.out.size; simp only [alloc_hs]; omega) _
  have HO3 : Hid (OwnB ((w1.alloc (.cells #[.slice p n cap] 91)).alloc (.cells #[.int .u8 123] 5)) B tv l) := HO.out.next BA.out
  have N3 : Hid (∀ j u, (byts [123])[j]? = some u → ((w1.alloc (.cells #[.slice p n cap] 91)).alloc (.cells #[.int .u8 123] 5)).cell? ((⟨w1.heap.size + 1, 0, none⟩ : Addr).add j) = some u) := news_one (w1.alloc (.cells #[.slice p n cap] 91)) 123 5 _ (by simp only [alloc_hs])
  go_wp2_with (first | (at_builtin; refine wpList_appendM _ rfl _ _ 22 rfl B 5 i Tryz.underlying22 hi hz0 hz1 hz2 tv _ _ rfl HO3.out.1 _ 1 1 (by decide) (byts [123]) rfl rfl N3.out (byts_oneCell _) (by unfold maxLen; omega) (by omega) HO3.out.2 ?_))
  intro tv2 w4 hown2 hgr2 _
  have HO4 : Hid (OwnB w4 B tv2 (l ++ [123])) := OwnB.of hown2 (by rw [List.length_append]; rfl) rfl (Nat.le_trans HO3.out.2 hgr2.size)
  have HB4 : Hid (Below B w w4) := (BA.out.mono hB).trans (HO3.out.below hgr2)
  have hbk := HO3.out.blk hgr2 (Blk.alloc (Blk.new (w := w1) (cs := #[.slice p n cap]) (t := 91))) (HNE.out _ B1.out.size)
  have c0 := hbk.cell 0 _ rfl
  clear hown2 hgr2 hbk
  go_wp2_with fail
  refine (h1 _ _ es ⟨#[44, 32]⟩ B tv2 _ (HF.out.mono (SameOn.of_low HB4.out) (fun _ h => h) (fun _ _ _ h => h.mono (SameOn.of_low HB4.out) (fun _ h => h))) (by simp only [List.length_append, List.length_cons, List.length_nil]; omega) (by decide) (HG.out.low' HB4.out) HO4.out).mono ?_
  rintro e w5 ⟨tv5, rfl, ho5, hb5⟩
  have HO5 : Hid (OwnB w5 B tv5 (l ++ [123] ++ joinT [44, 32] (es.map (vaTxt d)))) := ho5
  have HB5 : Hid (Below B w w5) := HB4.out.trans hb5
  have HJ : (l ++ [123] ++ joinT [44, 32] (es.map (vaTxt d))).length + 1 ≤ 60000000 := by
    have := joinT_bound d [44, 32] (by decide) es (fun y hy => vaTxt_len d y (rows_ints HF.out y hy))
    simp only [List.length_append, List.length_cons, List.length_nil]; omega
  have HO6 : Hid (OwnB (w5.alloc (.cells #[.int .u8 125] 5)) B tv5 (l ++ [123] ++ joinT [44, 32] (es.map (vaTxt d)))) := ho5.next ((Below.refl _ _).alloc (Nat.le_refl _) _)
  have HB6 : Hid (Below B w (w5.alloc (.cells #[.int .u8 125] 5))) := HB5.out.alloc (Nat.le_trans hB HB5.out.size) _
  have N6 : Hid (∀ j u, (byts [125])[j]? = some u → (w5.alloc (.cells #[.int .u8 125] 5)).cell? ((⟨w5.heap.size, 0, none⟩ : Addr).add j) = some u) := news_one w5 125 5 _ rfl
  clear hb5 ho5 c0
  go_wp2_with (first | (at_builtin; refine wpList_appendM _ rfl _ _ 22 rfl B 5 i Tryz.underlying22 hi hz0 hz1 hz2 tv5 _ _ rfl HO6.out.1 _ 1 1 (by decide) (byts [125]) rfl rfl N6.out (byts_oneCell _) (by unfold maxLen; omega) (by omega) HO6.out.2 ?_))
  intro tv7 w7 hown2 hgr2 _
  have HO7 : Hid (OwnB w7 B tv7 (l ++ [123] ++ joinT [44, 32] (es.map (vaTxt d)) ++ [125])) := OwnB.of hown2 (by simp <;> omega) (by simp [byts]) (Nat.le_trans HO6.out.2 hgr2.size)
  have HB7 : Hid (Below B w w7) := HB6.out.trans (HO6.out.below hgr2)
  clear hown2 hgr2
  go_wp2_with fail
  go_ret
  exact ⟨tv7, rfl, by simpa [vaTxt, Va.kind, Va.kids] using HO7.out, HB7.out⟩

set_option maxHeartbeats 8000000 in
set_option maxRecDepth 100000 in
theorem ap4 {d : Nat} (h1 : ApsC d) (w : World) (nx : Int) (tx : ByteArray) (p : Option Addr) (cap : Nat) (es : List Va) (B : Nat) (tv : Value) (l : List UInt8) (hnb : es.length ≤ 9223372036854775807) (hni : okI nx) (hts : tx.size ≤ maxLen) (F0 : Rows w (fun g => g < B) 4 (HVa w (fun g => g < B) d) (.slice p es.length cap) es)
    (hwt : l.length + (22 + 25 * (tx.size + wtS (wtVa d) es)) ≤ 60000000) (hgd : Gd w B) (hown : OwnB w B tv l) :
    Calls Tryz.prog 52 #[tv, .agg #[.int .i64 4, .int .i64 nx, .string tx, .slice p es.length cap]] w fun e w' => ∃ tv', e = .returned tv' ∧ OwnB w' B tv' (l ++ vaTxt (d + 1) (.mk 4 nx tx es)) ∧ Below B w w' := by
  have HG : Hid (Gd w B) := hgd
  have HO : Hid (OwnB w B tv l) := hown
  have HF : Hid (Rows w (fun g => g < B) 4 (HVa w (fun g => g < B) d) (.slice p es.length cap) es) := F0
  obtain ⟨i0, i1⟩ := okI_bd hni
  obtain ⟨i, hi, hz0, hz1, hz2⟩ := info_parts info_u8
  have hB := hown.2
  have HNE : Hid (∀ b, w.heap.size ≤ b → tv.ownBlock ≠ some b) := fun b hb e => by have := (hown.off e).2; omega
  clear hgd hown F0 hni
  generalize hln : es.length = n at *
  have HLN : Hid (es.length = n) := hln
  clear hln
  have q_numberValue := as_consValue_numberValue
  have q_atomValue := as_consValue_atomValue
  have q_tupleValue := as_consValue_tupleValue
  have q_nilValue := as_consValue_nilValue
  have q_consValue := as_consValue_consValue
  go_enter Tryz.func52, Tryz.ntmps52
  go_wp2_with fail
  refine (vof4 nx tx p n cap _).mono ?_
  rintro e w1 ⟨rfl, hb⟩
  have B1 : Hid (Below w.heap.size w w1) := ((Below.refl _ _).alloc (Nat.le_refl _) _).trans (hb.mono (by simp))
  clear hb
  have BA : Hid (Below w.heap.size w ((w1.alloc (.cells #[.slice p n cap] 96)).alloc (.cells #[.int .u8 91] 5))) := (B1.out.alloc B1.out.size _).alloc (by have := B1.out.size; simp only [alloc_hs]; omega) _
  have HO3 : Hid (OwnB ((w1.alloc (.cells #[.slice p n cap] 96)).alloc (.cells #[.int .u8 91] 5)) B tv l) := HO.out.next BA.out
  have N3 : Hid (∀ j u, (byts [91])[j]? = some u → ((w1.alloc (.cells #[.slice p n cap] 96)).alloc (.cells #[.int .u8 91] 5)).cell? ((⟨w1.heap.size + 1, 0, none⟩ : Addr).add j) = some u) := news_one (w1.alloc (.cells #[.slice p n cap] 96)) 91 5 _ (by simp only [alloc_hs])
  go_wp2_with (first | (at_builtin; refine wpList_appendM _ rfl _ _ 22 rfl B 5 i Tryz.underlying22 hi hz0 hz1 hz2 tv _ _ rfl HO3.out.1 _ 1 1 (by decide) (byts [91]) rfl rfl N3.out (byts_oneCell _) (by unfold maxLen; omega) (by omega) HO3.out.2 ?_))
  intro tv2 w4 hown2 hgr2 _
  have HO4 : Hid (OwnB w4 B tv2 (l ++ [91])) := OwnB.of hown2 (by rw [List.length_append]; rfl) rfl (Nat.le_trans HO3.out.2 hgr2.size)
  have HB4 : Hid (Below B w w4) := (BA.out.mono hB).trans (HO3.out.below hgr2)
  have hbk := HO3.out.blk hgr2 (Blk.alloc (Blk.new (w := w1) (cs := #[.slice p n cap]) (t := 96))) (HNE.out _ B1.out.size)
  have c0 := hbk.cell 0 _ rfl
  clear hown2 hgr2 hbk
  go_wp2_with fail
  refine (h1 _ _ es ⟨#[32, 124, 32]⟩ B tv2 _ (HF.out.mono (SameOn.of_low HB4.out) (fun _ h => h) (fun _ _ _ h => h.mono (SameOn.of_low HB4.out) (fun _ h => h))) (by simp only [List.length_append, List.length_cons, List.length_nil]; omega) (by decide) (HG.out.low' HB4.out) HO4.out).mono ?_
  rintro e w5 ⟨tv5, rfl, ho5, hb5⟩
  have HO5 : Hid (OwnB w5 B tv5 (l ++ [91] ++ joinT [32, 124, 32] (es.map (vaTxt d)))) := ho5
  have HB5 : Hid (Below B w w5) := HB4.out.trans hb5
  have HJ : (l ++ [91] ++ joinT [32, 124, 32] (es.map (vaTxt d))).length + 1 ≤ 60000000 := by
    have := joinT_bound d [32, 124, 32] (by decide) es (fun y hy => vaTxt_len d y (rows_ints HF.out y hy))
    simp only [List.length_append, List.length_cons, List.length_nil]; omega
  have HO6 : Hid (OwnB (w5.alloc (.cells #[.int .u8 93] 5)) B tv5 (l ++ [91] ++ joinT [32, 124, 32] (es.map (vaTxt d)))) := ho5.next ((Below.refl _ _).alloc (Nat.le_refl _) _)
  have HB6 : Hid (Below B w (w5.alloc (.cells #[.int .u8 93] 5))) := HB5.out.alloc (Nat.le_trans hB HB5.out.size) _
  have N6 : Hid (∀ j u, (byts [93])[j]? = some u → (w5.alloc (.cells #[.int .u8 93] 5)).cell? ((⟨w5.heap.size, 0, none⟩ : Addr).add j) = some u) := news_one w5 93 5 _ rfl
  clear hb5 ho5 c0
  go_wp2_with (first | (at_builtin; refine wpList_appendM _ rfl _ _ 22 rfl B 5 i Tryz.underlying22 hi hz0 hz1 hz2 tv5 _ _ rfl HO6.out.1 _ 1 1 (by decide) (byts [93]) rfl rfl N6.out (byts_oneCell _) (by unfold maxLen; omega) (by omega) HO6.out.2 ?_))
  intro tv7 w7 hown2 hgr2 _
  have HO7 : Hid (OwnB w7 B tv7 (l ++ [91] ++ joinT [32, 124, 32] (es.map (vaTxt d)) ++ [93])) := OwnB.of hown2 (by simp <;> omega) (by simp [byts]) (Nat.le_trans HO6.out.2 hgr2.size)
  have HB7 : Hid (Below B w w7) := HB6.out.trans (HO6.out.below hgr2)
  clear hown2 hgr2
  go_wp2_with fail
  go_ret
  exact ⟨tv7, rfl, by simpa [vaTxt, Va.kind, Va.kids] using HO7.out, HB7.out⟩

set_option maxHeartbeats 8000000 in
set_option maxRecDepth 100000 in
theorem apS {d : Nat} (h1 : ApsC d) (w : World) (kx nx : Int) (tx : ByteArray) (p : Option Addr) (cap : Nat) (es : List Va) (B : Nat) (tv : Value) (l : List UInt8) (k0 : ¬ kx = 0) (k1 : ¬ kx = 1) (k2 : ¬ kx = 2) (k3 : ¬ kx = 3) (k4 : ¬ kx = 4) (hnb : es.length ≤ 9223372036854775807) (hni : okI nx) (hts : tx.size ≤ maxLen) (F0 : Rows w (fun g => g < B) 4 (HVa w (fun g => g < B) d) (.slice p es.length cap) es)
    (hwt : l.length + (22 + 25 * (tx.size + wtS (wtVa d) es)) ≤ 60000000) (hgd : Gd w B) (hown : OwnB w B tv l) :
    Calls Tryz.prog 52 #[tv, .agg #[.int .i64 kx, .int .i64 nx, .string tx, .slice p es.length cap]] w fun e w' => ∃ tv', e = .returned tv' ∧ OwnB w' B tv' (l ++ vaTxt (d + 1) (.mk kx nx tx es)) ∧ Below B w w' := by
  have HG : Hid (Gd w B) := hgd
  have HO : Hid (OwnB w B tv l) := hown
  have HF : Hid (Rows w (fun g => g < B) 4 (HVa w (fun g => g < B) d) (.slice p es.length cap) es) := F0
  obtain ⟨i0, i1⟩ := okI_bd hni
  obtain ⟨i, hi, hz0, hz1, hz2⟩ := info_parts info_u8
  have hB := hown.2
  have HNE : Hid (∀ b, w.heap.size ≤ b → tv.ownBlock ≠ some b) := fun b hb e => by have := (hown.off e).2; omega
  clear hgd hown F0 hni
  generalize hln : es.length = n at *
  have HLN : Hid (es.length = n) := hln
  clear hln
  have q_numberValue := as_strangeValue_numberValue
  have q_atomValue := as_strangeValue_atomValue
  have q_tupleValue := as_strangeValue_tupleValue
  have q_nilValue := as_strangeValue_nilValue
  have q_consValue := as_strangeValue_consValue
  go_enter Tryz.func52, Tryz.ntmps52
  go_wp2_with fail
  refine (vofS kx nx tx p n cap _ k0 k1 k2 k3 k4).mono ?_
  rintro e w1 ⟨rfl, hb⟩
  have B1 : Hid (Below w.heap.size w w1) := ((Below.refl _ _).alloc (Nat.le_refl _) _).trans (hb.mono (by simp))
  clear hb
  have BB : Hid (Below B w w1) := B1.out.mono hB
  have HO1 : Hid (OwnB w1 B tv l) := HO.out.next B1.out
  go_wp2_with fail
  go_ret
  exact ⟨tv, rfl, by simpa [vaTxt, Va.kind, k0, k1, k2, k3, k4] using HO1.out, BB.out⟩

theorem appendVal_of {d : Nat} (h1 : ApsC d) : ApC (d + 1) := by
  intro w cs x B tv l h hwt hgd hown
  obtain ⟨kv, rfl, -, hni, hts, f0⟩ := h
  obtain ⟨kx, nx, tx, es⟩ := x
  simp only [Va.kind, Va.n, Va.text, Va.kids] at *
  have hw : wtVa (d + 1) (.mk kx nx tx es) = tx.size + wtS (wtVa d) es := rfl
  rw [hw] at hwt
  have f1 := f0
  obtain ⟨p, cap, hkv, hcl, hcm, -⟩ := f0
  subst hkv
  have hnb : es.length ≤ 9223372036854775807 := by unfold maxLen at hcm; omega
  by_cases k0 : kx = 0
  · subst k0; exact ap0 h1 w nx tx p cap es B tv l hnb hni hts f1 hwt hgd hown
  by_cases k1 : kx = 1
  · subst k1; exact ap1 h1 w nx tx p cap es B tv l hnb hni hts f1 hwt hgd hown
  by_cases k2 : kx = 2
  · subst k2; exact ap2 h1 w nx tx p cap es B tv l hnb hni hts f1 hwt hgd hown
  by_cases k3 : kx = 3
  · subst k3; exact ap3 h1 w nx tx p cap es B tv l hnb hni hts f1 hwt hgd hown
  by_cases k4 : kx = 4
  · subst k4; exact ap4 h1 w nx tx p cap es B tv l hnb hni hts f1 hwt hgd hown
  · exact apS h1 w kx nx tx p cap es B tv l k0 k1 k2 k3 k4 hnb hni hts f1 hwt hgd hown
theorem appendVal_all : ∀ d, ApC d
  | 0 => fun w cs x B tv l h _ _ _ => h.elim
  | d + 1 => appendVal_of (appendVals_of (appendVal_all d))

theorem bytes_back {w : World} {B : Nat} {v : Value} {l : List UInt8} (h : OwnB w B v l) : (convert 22 9 v).run Tryz.prog w = .ok (.string ⟨l.toArray⟩) w := by
  obtain ⟨h, _⟩ := h
  rcases h.shape with ⟨rfl, hn⟩ | ⟨g, cap, rfl⟩
  · obtain rfl := List.length_eq_zero_iff.1 hn
    exact Lib.run_convert_nil_bytes w _ _ 5 0 Tryz.underlying22 Tryz.underlying5 Tryz.underlying9
  · refine run_convert_bytes_back w _ _ 5 ⟨g, 0, none⟩ cap l Tryz.underlying22 Tryz.underlying5 Tryz.underlying9 (fun j hj => ?_)
    have := h.cells (g := g) rfl j (.int .u8 (l[j].toNat : Int)) (by simp [byts, hj])
    exact this

set_option maxHeartbeats 4000000 in
/-- THE PROGRAM's ValText. -/
theorem implValText_any (d : Nat) (w : World) (cs : List Value) (x : Va) (hp : PowAt w) (h : HVa w All d cs x) (hwt : wtVa d x ≤ 1048576) :
    Calls Tryz.prog 23 #[.agg cs.toArray] w fun e w' => e = .returned (.string ⟨(vaTxt d x).toArray⟩) ∧ Below w.heap.size w w' := by
  obtain ⟨kk, nn, s, p, l, c, rfl⟩ := h.shape
  have BL : Hid (Below w.heap.size w (w.alloc (.cells #[.int .i64 kk, .int .i64 nn, .string s, .slice p l c] 26))) := (Below.refl _ _).alloc (Nat.le_refl _) _
  have HH : Hid (HVa (w.alloc (.cells #[.int .i64 kk, .int .i64 nn, .string s, .slice p l c] 26)) (fun g => g < w.heap.size) d [.int .i64 kk, .int .i64 nn, .string s, .slice p l c] x) := (h.lowT).mono (SameOn.of_below BL.out) (fun _ h => h.2)
  have G0 : Hid (Gd (w.alloc (.cells #[.int .i64 kk, .int .i64 nn, .string s, .slice p l c] 26)) w.heap.size) := ⟨powAt_below hp BL.out, hp.lt⟩
  have O0 : Hid (OwnB (w.alloc (.cells #[.int .i64 kk, .int .i64 nn, .string s, .slice p l c] 26)) w.heap.size (.slice none 0 0) []) := OwnB.start BL.out.size
  clear h hp
  go_enter Tryz.func23, Tryz.ntmps23
  go_wp2_with fail
  refine (appendVal_all d _ _ x w.heap.size _ [] HH.out (by simp only [List.length_nil]; omega) G0.out O0.out).mono ?_
  rintro e w1 ⟨tv, rfl, ho, hb⟩
  have HB1 : Hid (Below w.heap.size w w1) := BL.out.trans hb
  have hc := bytes_back ho
  clear hb ho
  go_wp2_with fail
  go_ret
  exact ⟨by simp, HB1.out⟩

/-- THE SPECIFICATION's ValText. -/
theorem specValText_any (d : Nat) (w : World) (cs : List Value) (x : Va) (h : HVa w All d cs x) (hwt : wtVa d x ≤ 1048576) :
    Calls Tryz.prog 24 #[.agg cs.toArray] w fun e w' => e = .returned (.string ⟨(vaTxt d x).toArray⟩) ∧ Below w.heap.size w w' := by
  refine (text_all d w cs x h hwt).mono ?_
  rintro e w' ⟨s, rfl, hs, hb⟩
  exact ⟨by rw [← hs], hb⟩
end Go.Proofs.YtmnghlkkfkpjhaaGreatDoor
/-
  The program's ValOk, by contract.
-/
namespace Go.Proofs.YtmnghlkkfkpjhaaGreatDoor
open Go.ChangeShapes Go.WideShapes Go.ChangeAt Go.RowKit
set_option linter.unusedVariables false

theorem fB_eq (k n : Int) (t : ByteArray) (es : List Va) : (scalB (.mk k n t es) && shapeB k t es.length) = fB k n t es.length := by
  have hs : scalB (.mk k n t es) = ((decide (k = 0) || decide (n = 0)) && (decide (k = 1) || decide (t.toList = []))) := rfl
  rw [hs]
  by_cases k0 : k = 0
  · subst k0; simp [shapeB, fB]
  by_cases k1 : k = 1
  · subst k1; by_cases hl : es.length = 0 <;> by_cases ha : atomB t = true <;> simp [shapeB, fB, hl, ha]
  by_cases k2 : k = 2
  · subst k2; simp [shapeB, fB, Bool.and_assoc]
  by_cases k3 : k = 3
  · subst k3; simp [shapeB, fB, Bool.and_assoc]
  by_cases k4 : k = 4
  · subst k4
    by_cases hl : es.length = 2 <;> by_cases hn : n = 0 <;> by_cases ht : t.toList = [] <;> simp [shapeB, fB, hl, hn, ht]
  · simp [shapeB, fB, k0, k1, k2, k3, k4]
theorem vaOk_eq (d : Nat) (k n : Int) (t : ByteArray) (es : List Va) (deep : Int) : vaOk (d + 1) (.mk k n t es) deep = (decide (0 ≤ deep) && fB k n t es.length && es.all (fun y => vaOk d y (deep - 1))) := by
  have hv : vaOk (d + 1) (.mk k n t es) deep = (decide (0 ≤ deep) && scalB (.mk k n t es) && es.all (fun y => vaOk d y (deep - 1)) && shapeB k t es.length) := rfl
  rw [hv, ← fB_eq]
  cases decide (0 ≤ deep) <;> cases scalB (.mk k n t es) <;> cases es.all (fun y => vaOk d y (deep - 1)) <;> cases shapeB k t es.length <;> rfl
theorem parts_numberValue (n : Int) (w : World) : Calls Tryz.prog 117 #[.agg #[.int .i64 n]] w fun e w' => e = .returned (.slice none 0 0) ∧ Below w.heap.size w w' := by
  go_enter Tryz.func117, Tryz.ntmps117
  go_wp2
  go_ret
  exact ⟨rfl, by first | exact Below.refl _ _ | exact (Below.refl _ _).alloc (Nat.le_refl _) _⟩
theorem parts_atomValue (t : ByteArray) (w : World) : Calls Tryz.prog 118 #[.agg #[.string t]] w fun e w' => e = .returned (.slice none 0 0) ∧ Below w.heap.size w w' := by
  go_enter Tryz.func118, Tryz.ntmps118
  go_wp2
  go_ret
  exact ⟨rfl, by first | exact Below.refl _ _ | exact (Below.refl _ _).alloc (Nat.le_refl _) _⟩
theorem parts_nilValue  (w : World) : Calls Tryz.prog 119 #[.agg #[]] w fun e w' => e = .returned (.slice none 0 0) ∧ Below w.heap.size w w' := by
  go_enter Tryz.func119, Tryz.ntmps119
  go_wp2
  go_ret
  exact ⟨rfl, by first | exact Below.refl _ _ | exact (Below.refl _ _).alloc (Nat.le_refl _) _⟩
theorem parts_tupleValue (p : Option Addr) (l c : Nat) (w : World) : Calls Tryz.prog 60 #[.agg #[.slice p l c]] w fun e w' => e = .returned (.slice p l c) ∧ Below w.heap.size w w' := by
  go_enter Tryz.func60, Tryz.ntmps60
  go_wp2
  go_ret
  exact ⟨rfl, (Below.refl _ _).alloc (Nat.le_refl _) _⟩

/-- A function of a value and of how deep it lies. -/
def OkC (d : Nat) : Prop :=
  ∀ (w : World) (cs : List Value) (x : Va) (deep : Int), KeysAt w → HVa w All d cs x → 0 ≤ deep → deep ≤ 201 → Calls Tryz.prog 50 #[.agg cs.toArray, .int .i64 deep] w fun e w' => e = .returned (.bool (vaOk d x (200 - deep))) ∧ Below w.heap.size w w'

theorem parts_consValue (p : Option Addr) (l c : Nat) (w : World) : Calls Tryz.prog 62 #[.agg #[.slice p l c]] w fun e w' => e = .returned (.slice p l c) ∧ Below w.heap.size w w' := by
  go_enter Tryz.func62, Tryz.ntmps62
  go_wp2
  go_ret
  exact ⟨rfl, (Below.refl _ _).alloc (Nat.le_refl _) _⟩

theorem KeysAt.below {w w' : World} (h : KeysAt w) (hb : Below w.heap.size w w') : KeysAt w' := ⟨cell_next hb h.1, cell_next hb h.2.1, cell_next hb h.2.2⟩

theorem fields_any (k n : Int) (t : ByteArray) (p : Option Addr) (l c : Nat) (w : World) (hlb : l ≤ 9223372036854775807) (hts : t.size ≤ maxLen) (hk : KeysAt w) : Calls Tryz.prog 67 #[.agg #[.int .i64 k, .int .i64 n, .string t, .slice p l c]] w fun e w' => e = .returned (.bool (fB k n t l)) ∧ Below w.heap.size w w' := by
  by_cases k0 : k = 0
  · subst k0; exact fields0 n t p l c w hlb hts hk
  by_cases k1 : k = 1
  · subst k1; exact fields1 n t p l c w hlb hts hk
  by_cases k2 : k = 2
  · subst k2; exact fields2 n t p l c w hlb hts hk
  by_cases k3 : k = 3
  · subst k3; exact fields3 n t p l c w hlb hts hk
  by_cases k4 : k = 4
  · subst k4; exact fields4 n t p l c w hlb hts hk
  · exact fieldsS k n t p l c w hlb hts hk k0 k1 k2 k3 k4

set_option maxHeartbeats 8000000 in
set_option maxRecDepth 100000 in
theorem ok_walk2 {d : Nat} (hE : OkC d) (w : World) (n : Int) (t : ByteArray) (p : Option Addr) (nn c : Nat) (es : List Va) (deep : Int) (HN : Hid (es.length = nn)) (hnb : nn ≤ 9223372036854775807) (hts : t.size ≤ maxLen) (hk : KeysAt w)
    (HX : Hid (es ≠ [] → ∃ g off, p = some ⟨g, off, none⟩ ∧ All g ∧ g < w.heap.size ∧ ∀ i x, es[i]? = some x → ∃ cs, cs.length = 4 ∧ (∀ j, j < 4 → w.cell? ⟨g, off + i * 4 + j, none⟩ = cs[j]?) ∧ HVa w All d cs x)) (h0 : 0 ≤ deep) (h1 : deep ≤ 200) (hf : fB 2 n t nn = true) :
    Calls Tryz.prog 50 #[.agg #[.int .i64 2, .int .i64 n, .string t, .slice p nn c], .int .i64 deep] w fun e w' => e = .returned (.bool (es.all (fun y => vaOk d y (200 - (deep + 1))))) ∧ Below w.heap.size w w' := by
  have HK : Hid (KeysAt w) := hk
  have HF : Hid (fB 2 n t nn = true) := hf
  have hm := me_tupleValue
  clear hk hf
  go_enter Tryz.func50, Tryz.ntmps50
  go_wp2_with fail
  have K0 : KeysAt (w.alloc (.cells #[.int .i64 2, .int .i64 n, .string t, .slice p nn c] 26)) := HK.out.below ((Below.refl _ _).alloc (Nat.le_refl _) _)
  refine (fields_any 2 n t p nn c _ hnb hts K0).mono ?_
  rintro e w1 ⟨rfl, hb⟩
  rw [HF.out]
  have B1 : Hid (Below w.heap.size w w1) := ((Below.refl _ _).alloc (Nat.le_refl _) _).trans (hb.mono (by simp))
  have hbk := Blk.next (Blk.new (w := w) (cs := #[.int .i64 2, .int .i64 n, .string t, .slice p nn c]) (t := 26)) hb
  have a0 := hbk.cell 0 _ rfl
  have a1 := hbk.cell 1 _ rfl
  have a2 := hbk.cell 2 _ rfl
  have a3 := hbk.cell 3 _ rfl
  clear hb hbk K0
  go_wp2_with fail
  refine (vof2 n t p nn c _).mono ?_
  rintro e w2 ⟨rfl, hb⟩
  have B2 : Hid (Below w.heap.size w w2) := B1.out.trans (hb.mono B1.out.size)
  clear hb a0 a1 a2 a3
  go_wp2_with fail
  refine (parts_tupleValue _ _ _ _).mono ?_
  rintro e w3 ⟨rfl, hb⟩
  have B3 : Hid (Below w.heap.size w w3) := B2.out.trans (hb.mono B2.out.size)
  clear hb
  go_wp2_with fail
  go_loopw [18] (fun iv wr => ∃ k : Nat, k ≤ nn ∧ iv = .int .i64 k ∧ Hid ((es.take k).all (fun y => vaOk d y (200 - (deep + 1))) = true) ∧ Below w.heap.size w wr) (fun iv _ => nn - (intOf iv).toNat)
  case atStart => exact ⟨0, Nat.zero_le _, rfl, rfl, B3.out⟩
  case round =>
    obtain ⟨k, hk, rfl, hall, hb⟩ := hrel
    have HB : Hid (Below w.heap.size w wr) := hb
    by_cases hlt : k < nn
    · obtain ⟨x, hxk⟩ : ∃ x, es[k]? = some x := ⟨es[k]'(by rw [HN.out]; exact hlt), List.getElem?_eq_getElem _⟩
      obtain ⟨g, off, rfl, -, hgl, hat⟩ := HX.out (by intro h; rw [h] at hxk; simp at hxk)
      obtain ⟨cs, hcs4, hcs, r1⟩ := hat k x hxk
      obtain ⟨sk, sn, st, p1, n1, q1, rfl⟩ := r1.shape
      have E1 : ∀ w', Below w.heap.size w w' → HVa w' All d [.int .i64 sk, .int .i64 sn, .string st, .slice p1 n1 q1] x := fun w' hw => r1.mono (SameOn.of_below hw) (fun _ h => h)
      have a0 := hcs 0 (by omega)
      have a1 := hcs 1 (by omega)
      have a2 := hcs 2 (by omega)
      have a3 := hcs 3 (by omega)
      rw [← hb.cell (p := ⟨g, _, none⟩) hgl] at a0 a1 a2 a3
      simp at a0 a1 a2 a3
      have hki : (k : Int) < (nn : Int) := by omega
      have hk0 : (0 : Int) ≤ (k : Int) := by omega
      clear hb hcs hat hcs4 r1
      generalize hcv : vaOk d x (200 - (deep + 1)) = cv
      have HCV : Hid (vaOk d x (200 - (deep + 1)) = cv) := hcv
      have HBA : Hid (Below w.heap.size w (wr.alloc (.cells #[.int .i64 sk, .int .i64 sn, .string st, .slice p1 n1 q1] 26))) := HB.out.alloc HB.out.size _
      cases cv with
      | true =>
        clear hcv
        go_wp2_with fail
        refine (hE _ _ x (deep + 1) (HK.out.below HBA.out) (E1 _ HBA.out) (by omega) (by omega)).mono ?_
        rintro e w4 ⟨rfl, hb4⟩
        rw [HCV.out]
        have HB4 : Hid (Below w.heap.size w w4) := HBA.out.trans (hb4.mono HBA.out.size)
        clear hb4
        go_wp2_with fail
        exact ⟨⟨k + 1, by omega, by go_num, all_take_succ _ es k x hxk hall.out HCV.out, HB4.out⟩, by simp [intOf]; omega⟩
      | false =>
        have HS : Hid (es.all (fun y => vaOk d y (200 - (deep + 1))) = false) := all_at_false _ es k x hxk hcv
        clear hcv
        go_wp2_with fail
        refine (hE _ _ x (deep + 1) (HK.out.below HBA.out) (E1 _ HBA.out) (by omega) (by omega)).mono ?_
        rintro e w4 ⟨rfl, hb4⟩
        rw [HCV.out]
        have HB4 : Hid (Below w.heap.size w w4) := HBA.out.trans (hb4.mono HBA.out.size)
        clear hb4
        go_wp2_with fail
        go_ret
        exact ⟨by rw [HS.out]; rfl, HB4.out⟩
    · have HS : Hid (es.all (fun y => vaOk d y (200 - (deep + 1))) = true) := by
        have := hall.out
        rwa [List.take_of_length_le (by rw [HN.out]; omega)] at this
      clear hb
      go_wp2_with fail
      go_ret
      exact ⟨by rw [HS.out]; rfl, HB.out⟩

set_option maxHeartbeats 8000000 in
set_option maxRecDepth 100000 in
theorem ok_walk4 {d : Nat} (hE : OkC d) (w : World) (n : Int) (t : ByteArray) (p : Option Addr) (nn c : Nat) (es : List Va) (deep : Int) (HN : Hid (es.length = nn)) (hnb : nn ≤ 9223372036854775807) (hts : t.size ≤ maxLen) (hk : KeysAt w)
    (HX : Hid (es ≠ [] → ∃ g off, p = some ⟨g, off, none⟩ ∧ All g ∧ g < w.heap.size ∧ ∀ i x, es[i]? = some x → ∃ cs, cs.length = 4 ∧ (∀ j, j < 4 → w.cell? ⟨g, off + i * 4 + j, none⟩ = cs[j]?) ∧ HVa w All d cs x)) (h0 : 0 ≤ deep) (h1 : deep ≤ 200) (hf : fB 4 n t nn = true) :
    Calls Tryz.prog 50 #[.agg #[.int .i64 4, .int .i64 n, .string t, .slice p nn c], .int .i64 deep] w fun e w' => e = .returned (.bool (es.all (fun y => vaOk d y (200 - (deep + 1))))) ∧ Below w.heap.size w w' := by
  have HK : Hid (KeysAt w) := hk
  have HF : Hid (fB 4 n t nn = true) := hf
  have hm := me_consValue
  clear hk hf
  go_enter Tryz.func50, Tryz.ntmps50
  go_wp2_with fail
  have K0 : KeysAt (w.alloc (.cells #[.int .i64 4, .int .i64 n, .string t, .slice p nn c] 26)) := HK.out.below ((Below.refl _ _).alloc (Nat.le_refl _) _)
  refine (fields_any 4 n t p nn c _ hnb hts K0).mono ?_
  rintro e w1 ⟨rfl, hb⟩
  rw [HF.out]
  have B1 : Hid (Below w.heap.size w w1) := ((Below.refl _ _).alloc (Nat.le_refl _) _).trans (hb.mono (by simp))
  have hbk := Blk.next (Blk.new (w := w) (cs := #[.int .i64 4, .int .i64 n, .string t, .slice p nn c]) (t := 26)) hb
  have a0 := hbk.cell 0 _ rfl
  have a1 := hbk.cell 1 _ rfl
  have a2 := hbk.cell 2 _ rfl
  have a3 := hbk.cell 3 _ rfl
  clear hb hbk K0
  go_wp2_with fail
  refine (vof4 n t p nn c _).mono ?_
  rintro e w2 ⟨rfl, hb⟩
  have B2 : Hid (Below w.heap.size w w2) := B1.out.trans (hb.mono B1.out.size)
  clear hb a0 a1 a2 a3
  go_wp2_with fail
  refine (parts_consValue _ _ _ _).mono ?_
  rintro e w3 ⟨rfl, hb⟩
  have B3 : Hid (Below w.heap.size w w3) := B2.out.trans (hb.mono B2.out.size)
  clear hb
  go_wp2_with fail
  go_loopw [18] (fun iv wr => ∃ k : Nat, k ≤ nn ∧ iv = .int .i64 k ∧ Hid ((es.take k).all (fun y => vaOk d y (200 - (deep + 1))) = true) ∧ Below w.heap.size w wr) (fun iv _ => nn - (intOf iv).toNat)
  case atStart => exact ⟨0, Nat.zero_le _, rfl, rfl, B3.out⟩
  case round =>
    obtain ⟨k, hk, rfl, hall, hb⟩ := hrel
    have HB : Hid (Below w.heap.size w wr) := hb
    by_cases hlt : k < nn
    · obtain ⟨x, hxk⟩ : ∃ x, es[k]? = some x := ⟨es[k]'(by rw [HN.out]; exact hlt), List.getElem?_eq_getElem _⟩
      obtain ⟨g, off, rfl, -, hgl, hat⟩ := HX.out (by intro h; rw [h] at hxk; simp at hxk)
      obtain ⟨cs, hcs4, hcs, r1⟩ := hat k x hxk
      obtain ⟨sk, sn, st, p1, n1, q1, rfl⟩ := r1.shape
      have E1 : ∀ w', Below w.heap.size w w' → HVa w' All d [.int .i64 sk, .int .i64 sn, .string st, .slice p1 n1 q1] x := fun w' hw => r1.mono (SameOn.of_below hw) (fun _ h => h)
      have a0 := hcs 0 (by omega)
      have a1 := hcs 1 (by omega)
      have a2 := hcs 2 (by omega)
      have a3 := hcs 3 (by omega)
      rw [← hb.cell (p := ⟨g, _, none⟩) hgl] at a0 a1 a2 a3
      simp at a0 a1 a2 a3
      have hki : (k : Int) < (nn : Int) := by omega
      have hk0 : (0 : Int) ≤ (k : Int) := by omega
      clear hb hcs hat hcs4 r1
      generalize hcv : vaOk d x (200 - (deep + 1)) = cv
      have HCV : Hid (vaOk d x (200 - (deep + 1)) = cv) := hcv
      have HBA : Hid (Below w.heap.size w (wr.alloc (.cells #[.int .i64 sk, .int .i64 sn, .string st, .slice p1 n1 q1] 26))) := HB.out.alloc HB.out.size _
      cases cv with
      | true =>
        clear hcv
        go_wp2_with fail
        refine (hE _ _ x (deep + 1) (HK.out.below HBA.out) (E1 _ HBA.out) (by omega) (by omega)).mono ?_
        rintro e w4 ⟨rfl, hb4⟩
        rw [HCV.out]
        have HB4 : Hid (Below w.heap.size w w4) := HBA.out.trans (hb4.mono HBA.out.size)
        clear hb4
        go_wp2_with fail
        exact ⟨⟨k + 1, by omega, by go_num, all_take_succ _ es k x hxk hall.out HCV.out, HB4.out⟩, by simp [intOf]; omega⟩
      | false =>
        have HS : Hid (es.all (fun y => vaOk d y (200 - (deep + 1))) = false) := all_at_false _ es k x hxk hcv
        clear hcv
        go_wp2_with fail
        refine (hE _ _ x (deep + 1) (HK.out.below HBA.out) (E1 _ HBA.out) (by omega) (by omega)).mono ?_
        rintro e w4 ⟨rfl, hb4⟩
        rw [HCV.out]
        have HB4 : Hid (Below w.heap.size w w4) := HBA.out.trans (hb4.mono HBA.out.size)
        clear hb4
        go_wp2_with fail
        go_ret
        exact ⟨by rw [HS.out]; rfl, HB4.out⟩
    · have HS : Hid (es.all (fun y => vaOk d y (200 - (deep + 1))) = true) := by
        have := hall.out
        rwa [List.take_of_length_le (by rw [HN.out]; omega)] at this
      clear hb
      go_wp2_with fail
      go_ret
      exact ⟨by rw [HS.out]; rfl, HB.out⟩

set_option maxHeartbeats 8000000 in
set_option maxRecDepth 100000 in
theorem ok_walk0 {d : Nat} (hE : OkC d) (w : World) (n : Int) (t : ByteArray) (p : Option Addr) (nn c : Nat) (deep : Int) (hnb : nn ≤ 9223372036854775807) (hts : t.size ≤ maxLen) (hk : KeysAt w) (h0 : 0 ≤ deep) (h1 : deep ≤ 200) (hf : fB 0 n t nn = true) :
    Calls Tryz.prog 50 #[.agg #[.int .i64 0, .int .i64 n, .string t, .slice p nn c], .int .i64 deep] w fun e w' => e = .returned (.bool true) ∧ Below w.heap.size w w' := by
  have HK : Hid (KeysAt w) := hk
  have HF : Hid (fB 0 n t nn = true) := hf
  have hm := me_numberValue
  clear hk hf
  go_enter Tryz.func50, Tryz.ntmps50
  go_wp2_with fail
  have K0 : KeysAt (w.alloc (.cells #[.int .i64 0, .int .i64 n, .string t, .slice p nn c] 26)) := HK.out.below ((Below.refl _ _).alloc (Nat.le_refl _) _)
  refine (fields_any 0 n t p nn c _ hnb hts K0).mono ?_
  rintro e w1 ⟨rfl, hb⟩
  rw [HF.out]
  have B1 : Hid (Below w.heap.size w w1) := ((Below.refl _ _).alloc (Nat.le_refl _) _).trans (hb.mono (by simp))
  have hbk := Blk.next (Blk.new (w := w) (cs := #[.int .i64 0, .int .i64 n, .string t, .slice p nn c]) (t := 26)) hb
  have a0 := hbk.cell 0 _ rfl
  have a1 := hbk.cell 1 _ rfl
  have a2 := hbk.cell 2 _ rfl
  have a3 := hbk.cell 3 _ rfl
  clear hb hbk K0
  go_wp2_with fail
  refine (vof0 n t p nn c _).mono ?_
  rintro e w2 ⟨rfl, hb⟩
  have B2 : Hid (Below w.heap.size w w2) := B1.out.trans (hb.mono B1.out.size)
  clear hb a0 a1 a2 a3
  go_wp2_with fail
  refine (parts_numberValue _ _).mono ?_
  rintro e w3 ⟨rfl, hb⟩
  have B3 : Hid (Below w.heap.size w w3) := B2.out.trans (hb.mono B2.out.size)
  clear hb
  go_wp2_with fail
  go_loopw [18] (fun iv wr => iv = .int .i64 0 ∧ Below w.heap.size w wr) (fun _ _ => 0)
  case atStart => exact ⟨rfl, B3.out⟩
  case round =>
    obtain ⟨rfl, hb⟩ := hrel
    have HB : Hid (Below w.heap.size w wr) := hb
    clear hb
    go_wp2_with fail
    go_ret
    exact ⟨rfl, HB.out⟩

set_option maxHeartbeats 8000000 in
set_option maxRecDepth 100000 in
theorem ok_walk1 {d : Nat} (hE : OkC d) (w : World) (n : Int) (t : ByteArray) (p : Option Addr) (nn c : Nat) (deep : Int) (hnb : nn ≤ 9223372036854775807) (hts : t.size ≤ maxLen) (hk : KeysAt w) (h0 : 0 ≤ deep) (h1 : deep ≤ 200) (hf : fB 1 n t nn = true) :
    Calls Tryz.prog 50 #[.agg #[.int .i64 1, .int .i64 n, .string t, .slice p nn c], .int .i64 deep] w fun e w' => e = .returned (.bool true) ∧ Below w.heap.size w w' := by
  have HK : Hid (KeysAt w) := hk
  have HF : Hid (fB 1 n t nn = true) := hf
  have hm := me_atomValue
  clear hk hf
  go_enter Tryz.func50, Tryz.ntmps50
  go_wp2_with fail
  have K0 : KeysAt (w.alloc (.cells #[.int .i64 1, .int .i64 n, .string t, .slice p nn c] 26)) := HK.out.below ((Below.refl _ _).alloc (Nat.le_refl _) _)
  refine (fields_any 1 n t p nn c _ hnb hts K0).mono ?_
  rintro e w1 ⟨rfl, hb⟩
  rw [HF.out]
  have B1 : Hid (Below w.heap.size w w1) := ((Below.refl _ _).alloc (Nat.le_refl _) _).trans (hb.mono (by simp))
  have hbk := Blk.next (Blk.new (w := w) (cs := #[.int .i64 1, .int .i64 n, .string t, .slice p nn c]) (t := 26)) hb
  have a0 := hbk.cell 0 _ rfl
  have a1 := hbk.cell 1 _ rfl
  have a2 := hbk.cell 2 _ rfl
  have a3 := hbk.cell 3 _ rfl
  clear hb hbk K0
  go_wp2_with fail
  refine (vof1 n t p nn c _).mono ?_
  rintro e w2 ⟨rfl, hb⟩
  have B2 : Hid (Below w.heap.size w w2) := B1.out.trans (hb.mono B1.out.size)
  clear hb a0 a1 a2 a3
  go_wp2_with fail
  refine (parts_atomValue _ _).mono ?_
  rintro e w3 ⟨rfl, hb⟩
  have B3 : Hid (Below w.heap.size w w3) := B2.out.trans (hb.mono B2.out.size)
  clear hb
  go_wp2_with fail
  go_loopw [18] (fun iv wr => iv = .int .i64 0 ∧ Below w.heap.size w wr) (fun _ _ => 0)
  case atStart => exact ⟨rfl, B3.out⟩
  case round =>
    obtain ⟨rfl, hb⟩ := hrel
    have HB : Hid (Below w.heap.size w wr) := hb
    clear hb
    go_wp2_with fail
    go_ret
    exact ⟨rfl, HB.out⟩

set_option maxHeartbeats 8000000 in
set_option maxRecDepth 100000 in
theorem ok_walk3 {d : Nat} (hE : OkC d) (w : World) (n : Int) (t : ByteArray) (p : Option Addr) (nn c : Nat) (deep : Int) (hnb : nn ≤ 9223372036854775807) (hts : t.size ≤ maxLen) (hk : KeysAt w) (h0 : 0 ≤ deep) (h1 : deep ≤ 200) (hf : fB 3 n t nn = true) :
    Calls Tryz.prog 50 #[.agg #[.int .i64 3, .int .i64 n, .string t, .slice p nn c], .int .i64 deep] w fun e w' => e = .returned (.bool true) ∧ Below w.heap.size w w' := by
  have HK : Hid (KeysAt w) := hk
  have HF : Hid (fB 3 n t nn = true) := hf
  have hm := me_nilValue
  clear hk hf
  go_enter Tryz.func50, Tryz.ntmps50
  go_wp2_with fail
  have K0 : KeysAt (w.alloc (.cells #[.int .i64 3, .int .i64 n, .string t, .slice p nn c] 26)) := HK.out.below ((Below.refl _ _).alloc (Nat.le_refl _) _)
  refine (fields_any 3 n t p nn c _ hnb hts K0).mono ?_
  rintro e w1 ⟨rfl, hb⟩
  rw [HF.out]
  have B1 : Hid (Below w.heap.size w w1) := ((Below.refl _ _).alloc (Nat.le_refl _) _).trans (hb.mono (by simp))
  have hbk := Blk.next (Blk.new (w := w) (cs := #[.int .i64 3, .int .i64 n, .string t, .slice p nn c]) (t := 26)) hb
  have a0 := hbk.cell 0 _ rfl
  have a1 := hbk.cell 1 _ rfl
  have a2 := hbk.cell 2 _ rfl
  have a3 := hbk.cell 3 _ rfl
  clear hb hbk K0
  go_wp2_with fail
  refine (vof3 n t p nn c _).mono ?_
  rintro e w2 ⟨rfl, hb⟩
  have B2 : Hid (Below w.heap.size w w2) := B1.out.trans (hb.mono B1.out.size)
  clear hb a0 a1 a2 a3
  go_wp2_with fail
  refine (parts_nilValue _).mono ?_
  rintro e w3 ⟨rfl, hb⟩
  have B3 : Hid (Below w.heap.size w w3) := B2.out.trans (hb.mono B2.out.size)
  clear hb
  go_wp2_with fail
  go_loopw [18] (fun iv wr => iv = .int .i64 0 ∧ Below w.heap.size w wr) (fun _ _ => 0)
  case atStart => exact ⟨rfl, B3.out⟩
  case round =>
    obtain ⟨rfl, hb⟩ := hrel
    have HB : Hid (Below w.heap.size w wr) := hb
    clear hb
    go_wp2_with fail
    go_ret
    exact ⟨rfl, HB.out⟩

set_option maxHeartbeats 8000000 in
theorem ok_of {d : Nat} (hE : OkC d) : OkC (d + 1) := by
  intro w cs x deep hk h h0 h1
  obtain ⟨kv, rfl, -, -, hts, f0⟩ := h
  obtain ⟨kx, nx, tx, es⟩ := x
  simp only [Va.kind, Va.n, Va.text, Va.kids] at *
  obtain ⟨p, cap, rfl, hcl, hcm, hx⟩ := f0
  have hlb : es.length ≤ 9223372036854775807 := by unfold maxLen at hcm; omega
  have hr : Rows w All 4 (HVa w All d) (.slice p es.length cap) es := ⟨p, cap, rfl, hcl, hcm, hx⟩
  have hv := vaOk_eq d kx nx tx es (200 - deep)
  by_cases c1 : deep ≤ 200
  · rw [decide_eq_true (by omega)] at hv
    cases hf : fB kx nx tx es.length with
    | true =>
      rw [hf] at hv
      simp only [Bool.and_self, Bool.true_and] at hv
      have e1 : 200 - deep - 1 = 200 - (deep + 1) := by omega
      rw [e1] at hv
      rw [hv]
      by_cases k2 : kx = 2
      · subst k2
        exact ok_walk2 hE w nx tx p es.length cap es deep rfl hlb hts hk hx h0 c1 hf
      by_cases k4 : kx = 4
      · subst k4
        exact ok_walk4 hE w nx tx p es.length cap es deep rfl hlb hts hk hx h0 c1 hf
      by_cases k0 : kx = 0
      · subst k0
        have hz : es = [] := by simp [fB] at hf; exact hf.2
        subst hz
        exact ok_walk0 hE w nx tx p 0 cap deep (by omega) hts hk h0 c1 hf
      by_cases k1 : kx = 1
      · subst k1
        have hz : es = [] := by simp [fB] at hf; exact hf.2.2
        subst hz
        exact ok_walk1 hE w nx tx p 0 cap deep (by omega) hts hk h0 c1 hf
      by_cases k3 : kx = 3
      · subst k3
        have hz : es = [] := by simp [fB] at hf; exact hf.2.2
        subst hz
        exact ok_walk3 hE w nx tx p 0 cap deep (by omega) hts hk h0 c1 hf
      · simp [fB, k0, k1, k2, k3, k4] at hf
    | false =>
      rw [hf] at hv
      have HS : Hid (vaOk (d + 1) (.mk kx nx tx es) (200 - deep) = false) := by show _ = _; rw [hv]; simp
      have HF : Hid (fB kx nx tx es.length = false) := hf
      have K0 : Hid (KeysAt (w.alloc (.cells #[.int .i64 kx, .int .i64 nx, .string tx, .slice p es.length cap] 26))) := hk.below ((Below.refl _ _).alloc (Nat.le_refl _) _)
      clear hv hf hk hr hx
      go_enter Tryz.func50, Tryz.ntmps50
      go_wp2_with fail
      refine (fields_any kx nx tx p es.length cap _ hlb hts K0.out).mono ?_
      rintro e w1 ⟨rfl, hb⟩
      rw [HF.out]
      have B1 : Hid (Below w.heap.size w w1) := ((Below.refl _ _).alloc (Nat.le_refl _) _).trans (hb.mono (by simp))
      clear hb
      go_wp2_with fail
      go_ret
      exact ⟨by rw [HS.out]; rfl, B1.out⟩
  · have HS : Hid (vaOk (d + 1) (.mk kx nx tx es) (200 - deep) = false) := by show _ = _; rw [hv, decide_eq_false (by omega)]; rfl
    have c2 : 200 < deep := by omega
    clear hv hk hr hx
    go_enter Tryz.func50, Tryz.ntmps50
    go_wp2_with fail
    go_ret
    exact ⟨by rw [HS.out]; rfl, (Below.refl _ _).alloc (Nat.le_refl _) _⟩

theorem ok_all : ∀ d, OkC d
  | 0 => fun w cs x deep _ h _ _ => h.elim
  | d + 1 => ok_of (ok_all d)

/-- THE PROGRAM's ValOk. -/
theorem implValOk_any (d : Nat) (w : World) (cs : List Value) (x : Va) (hk : KeysAt w) (h : HVa w All d cs x) :
    Calls Tryz.prog 21 #[.agg cs.toArray] w fun e w' => e = .returned (.bool (vaOk d x 200)) ∧ Below w.heap.size w w' := by
  obtain ⟨kk, nn, s, p, l, c, rfl⟩ := h.shape
  have BL : Hid (Below w.heap.size w (w.alloc (.cells #[.int .i64 kk, .int .i64 nn, .string s, .slice p l c] 26))) := (Below.refl _ _).alloc (Nat.le_refl _) _
  have HH : Hid (HVa (w.alloc (.cells #[.int .i64 kk, .int .i64 nn, .string s, .slice p l c] 26)) All d [.int .i64 kk, .int .i64 nn, .string s, .slice p l c] x) := h.mono (SameOn.of_below BL.out) (fun _ h => h)
  have K0 : Hid (KeysAt (w.alloc (.cells #[.int .i64 kk, .int .i64 nn, .string s, .slice p l c] 26))) := hk.below BL.out
  clear h hk
  go_enter Tryz.func21, Tryz.ntmps21
  go_wp2_with fail
  refine (ok_all d _ _ x 0 K0.out HH.out (by omega) (by omega)).mono ?_
  rintro e w1 ⟨rfl, hb⟩
  have HB1 : Hid (Below w.heap.size w w1) := BL.out.trans (hb.mono BL.out.size)
  clear hb
  go_wp2_with fail
  go_ret
  exact ⟨rfl, HB1.out⟩
end Go.Proofs.YtmnghlkkfkpjhaaGreatDoor
