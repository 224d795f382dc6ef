/-
  The program's ValText, by contract: appendVal, kind by kind.
-/
import Derived.Test.YthcdppdmiicelaaDoorTextImpl
import Derived.Laws.IdiomStrings
import Derived.Lib.BufferRead
namespace Go.Proofs.YthcdppdmiicelaaDoor
open Go.ChangeShapes Go.WideShapes Go.ChangeAt Go.RowKit
set_option linter.unusedVariables false

theorem news_one (W : World) (c : UInt8) (t : TypeId) (g : Nat) (hg : g = W.heap.size) : ∀ j u, (byts [c])[j]? = some u → (W.alloc (.cells #[.int .u8 c.toNat] t)).cell? ((⟨g, 0, none⟩ : Addr).add j) = some u := by
  subst hg
  intro j u h
  match j, h with
  | 0, h => simp [byts] at h; subst h; rw [Addr.add]; exact cell_new W _ t 0 _ rfl
theorem byts_oneCell (l : List UInt8) : ∀ u ∈ byts l, u.oneCell' = true := by
  intro u hu
  simp only [byts, List.mem_map] at hu
  obtain ⟨b, _, rfl⟩ := hu
  rfl

set_option maxHeartbeats 8000000 in
set_option maxRecDepth 100000 in
theorem ap0 {d : Nat} (h1 : ApsC d) (w : World) (nx : Int) (tx : ByteArray) (p : Option Addr) (cap : Nat) (es : List Va) (B : Nat) (tv : Value) (l : List UInt8) (hnb : es.length ≤ 9223372036854775807) (hni : okI nx) (hts : tx.size ≤ maxLen) (F0 : Rows w (fun g => g < B) 4 (HVa w (fun g => g < B) d) (.slice p es.length cap) es)
    (hwt : l.length + (22 + 25 * (tx.size + wtS (wtVa d) es)) ≤ 60000000) (hgd : Gd w B) (hown : OwnB w B tv l) :
    Calls Tryd.prog 25 #[tv, .agg #[.int .i64 0, .int .i64 nx, .string tx, .slice p es.length cap]] w fun e w' => ∃ tv', e = .returned tv' ∧ OwnB w' B tv' (l ++ vaTxt (d + 1) (.mk 0 nx tx es)) ∧ Below B w w' := by
  have HG : Hid (Gd w B) := hgd
  have HO : Hid (OwnB w B tv l) := hown
  have HF : Hid (Rows w (fun g => g < B) 4 (HVa w (fun g => g < B) d) (.slice p es.length cap) es) := F0
  obtain ⟨i0, i1⟩ := okI_bd hni
  obtain ⟨i, hi, hz0, hz1, hz2⟩ := info_parts info_u8
  have hB := hown.2
  have HNE : Hid (∀ b, w.heap.size ≤ b → tv.ownBlock ≠ some b) := fun b hb e => by have := (hown.off e).2; omega
  clear hgd hown F0 hni
  generalize hln : es.length = n at *
  have HLN : Hid (es.length = n) := hln
  clear hln
  have q_numberValue := as_numberValue_numberValue
  go_enter Tryd.func25, Tryd.ntmps25
  go_wp2_with fail
  refine (vof0 nx tx p n cap _).mono ?_
  rintro e w1 ⟨rfl, hb⟩
  have B1 : Hid (Below w.heap.size w w1) := ((Below.refl _ _).alloc (Nat.le_refl _) _).trans (hb.mono (by simp))
  clear hb
  have BA : Hid (Below w.heap.size w (w1.alloc (.cells #[.int .i64 nx] 58))) := B1.out.alloc B1.out.size _
  go_wp2_with fail
  refine (implDecText_any nx _ i0 i1 (powAt_below HG.out.pow BA.out)).mono ?_
  rintro e w2 ⟨rfl, hb2⟩
  have B2 : Hid (Below w.heap.size w w2) := BA.out.trans (hb2.mono BA.out.size)
  have BB : Hid (Below B w w2) := B2.out.mono hB
  have HO1 : Hid (OwnB w2 B tv l) := HO.out.next B2.out
  have hil := itoa_len nx i0 i1
  clear hb2
  go_wp2_with (first | (at_builtin; refine wpList_append_stringM _ rfl _ _ 49 9 rfl B 5 i Tryd.underlying49 Tryd.underlying9 hi hz0 hz1 hz2 tv _ _ rfl HO1.out.1 ⟨(Lib.itoa nx).toArray⟩ rfl (by unfold maxLen; simp [ByteArray.size]; omega) (by simp [ByteArray.size]; omega) HO1.out.2 ?_))
  intro tv2 w9 hown2 hgr2 _
  have HO2 : Hid (OwnB w9 B tv2 (l ++ Lib.itoa nx)) := OwnB.of hown2 (by simp only [List.length_append]) (by rw [byts_str]) (Nat.le_trans HO1.out.2 hgr2.size)
  have HB2 : Hid (Below B w w9) := BB.out.trans (HO1.out.below hgr2)
  clear hown2 hgr2
  go_wp2_with fail
  go_ret
  exact ⟨tv2, rfl, by simpa [vaTxt, Va.kind, Va.n, Va.text] using HO2.out, HB2.out⟩

set_option maxHeartbeats 8000000 in
set_option maxRecDepth 100000 in
theorem ap1 {d : Nat} (h1 : ApsC d) (w : World) (nx : Int) (tx : ByteArray) (p : Option Addr) (cap : Nat) (es : List Va) (B : Nat) (tv : Value) (l : List UInt8) (hnb : es.length ≤ 9223372036854775807) (hni : okI nx) (hts : tx.size ≤ maxLen) (F0 : Rows w (fun g => g < B) 4 (HVa w (fun g => g < B) d) (.slice p es.length cap) es)
    (hwt : l.length + (22 + 25 * (tx.size + wtS (wtVa d) es)) ≤ 60000000) (hgd : Gd w B) (hown : OwnB w B tv l) :
    Calls Tryd.prog 25 #[tv, .agg #[.int .i64 1, .int .i64 nx, .string tx, .slice p es.length cap]] w fun e w' => ∃ tv', e = .returned tv' ∧ OwnB w' B tv' (l ++ vaTxt (d + 1) (.mk 1 nx tx es)) ∧ Below B w w' := by
  have HG : Hid (Gd w B) := hgd
  have HO : Hid (OwnB w B tv l) := hown
  have HF : Hid (Rows w (fun g => g < B) 4 (HVa w (fun g => g < B) d) (.slice p es.length cap) es) := F0
  obtain ⟨i0, i1⟩ := okI_bd hni
  obtain ⟨i, hi, hz0, hz1, hz2⟩ := info_parts info_u8
  have hB := hown.2
  have HNE : Hid (∀ b, w.heap.size ≤ b → tv.ownBlock ≠ some b) := fun b hb e => by have := (hown.off e).2; omega
  clear hgd hown F0 hni
  generalize hln : es.length = n at *
  have HLN : Hid (es.length = n) := hln
  clear hln
  have q_numberValue := as_atomValue_numberValue
  have q_atomValue := as_atomValue_atomValue
  go_enter Tryd.func25, Tryd.ntmps25
  go_wp2_with fail
  refine (vof1 nx tx p n cap _).mono ?_
  rintro e w1 ⟨rfl, hb⟩
  have B1 : Hid (Below w.heap.size w w1) := ((Below.refl _ _).alloc (Nat.le_refl _) _).trans (hb.mono (by simp))
  clear hb
  have BA : Hid (Below w.heap.size w (w1.alloc (.cells #[.string tx] 60))) := B1.out.alloc B1.out.size _
  have BB : Hid (Below B w (w1.alloc (.cells #[.string tx] 60))) := BA.out.mono hB
  have HO1 : Hid (OwnB (w1.alloc (.cells #[.string tx] 60)) B tv l) := HO.out.next BA.out
  go_wp2_with (first | (at_builtin; refine wpList_append_stringM _ rfl _ _ 49 9 rfl B 5 i Tryd.underlying49 Tryd.underlying9 hi hz0 hz1 hz2 tv _ _ rfl HO1.out.1 tx rfl (by unfold maxLen; omega) (by omega) HO1.out.2 ?_))
  intro tv2 w9 hown2 hgr2 _
  have HO2 : Hid (OwnB w9 B tv2 (l ++ tx.data.toList)) := OwnB.of hown2 (by simp only [List.length_append, bsize]) (by rw [byts_str]) (Nat.le_trans HO1.out.2 hgr2.size)
  have HB2 : Hid (Below B w w9) := BB.out.trans (HO1.out.below hgr2)
  clear hown2 hgr2
  go_wp2_with fail
  go_ret
  exact ⟨tv2, rfl, by simpa [vaTxt, Va.kind, Va.n, Va.text] using HO2.out, HB2.out⟩

set_option maxHeartbeats 8000000 in
set_option maxRecDepth 100000 in
theorem ap3 {d : Nat} (h1 : ApsC d) (w : World) (nx : Int) (tx : ByteArray) (p : Option Addr) (cap : Nat) (es : List Va) (B : Nat) (tv : Value) (l : List UInt8) (hnb : es.length ≤ 9223372036854775807) (hni : okI nx) (hts : tx.size ≤ maxLen) (F0 : Rows w (fun g => g < B) 4 (HVa w (fun g => g < B) d) (.slice p es.length cap) es)
    (hwt : l.length + (22 + 25 * (tx.size + wtS (wtVa d) es)) ≤ 60000000) (hgd : Gd w B) (hown : OwnB w B tv l) :
    Calls Tryd.prog 25 #[tv, .agg #[.int .i64 3, .int .i64 nx, .string tx, .slice p es.length cap]] w fun e w' => ∃ tv', e = .returned tv' ∧ OwnB w' B tv' (l ++ vaTxt (d + 1) (.mk 3 nx tx es)) ∧ Below B w w' := by
  have HG : Hid (Gd w B) := hgd
  have HO : Hid (OwnB w B tv l) := hown
  have HF : Hid (Rows w (fun g => g < B) 4 (HVa w (fun g => g < B) d) (.slice p es.length cap) es) := F0
  obtain ⟨i0, i1⟩ := okI_bd hni
  obtain ⟨i, hi, hz0, hz1, hz2⟩ := info_parts info_u8
  have hB := hown.2
  have HNE : Hid (∀ b, w.heap.size ≤ b → tv.ownBlock ≠ some b) := fun b hb e => by have := (hown.off e).2; omega
  clear hgd hown F0 hni
  generalize hln : es.length = n at *
  have HLN : Hid (es.length = n) := hln
  clear hln
  have q_numberValue := as_nilValue_numberValue
  have q_atomValue := as_nilValue_atomValue
  have q_tupleValue := as_nilValue_tupleValue
  have q_nilValue := as_nilValue_nilValue
  go_enter Tryd.func25, Tryd.ntmps25
  go_wp2_with fail
  refine (vof3 nx tx p n cap _).mono ?_
  rintro e w1 ⟨rfl, hb⟩
  have B1 : Hid (Below w.heap.size w w1) := ((Below.refl _ _).alloc (Nat.le_refl _) _).trans (hb.mono (by simp))
  clear hb
  have BA : Hid (Below w.heap.size w (w1.alloc (.cells #[] 65))) := B1.out.alloc B1.out.size _
  have BB : Hid (Below B w (w1.alloc (.cells #[] 65))) := BA.out.mono hB
  have HO1 : Hid (OwnB (w1.alloc (.cells #[] 65)) B tv l) := HO.out.next BA.out
  go_wp2_with (first | (at_builtin; refine wpList_append_stringM _ rfl _ _ 49 9 rfl B 5 i Tryd.underlying49 Tryd.underlying9 hi hz0 hz1 hz2 tv _ _ rfl HO1.out.1 ⟨#[91, 93]⟩ rfl (by unfold maxLen; simp [ByteArray.size]; omega) (by simp [ByteArray.size]; omega) HO1.out.2 ?_))
  intro tv2 w9 hown2 hgr2 _
  have HO2 : Hid (OwnB w9 B tv2 (l ++ [91, 93])) := OwnB.of hown2 (by rw [List.length_append]; rfl) rfl (Nat.le_trans HO1.out.2 hgr2.size)
  have HB2 : Hid (Below B w w9) := BB.out.trans (HO1.out.below hgr2)
  clear hown2 hgr2
  go_wp2_with fail
  go_ret
  exact ⟨tv2, rfl, by simpa [vaTxt, Va.kind, Va.n, Va.text] using HO2.out, HB2.out⟩

set_option maxHeartbeats 8000000 in
set_option maxRecDepth 100000 in
theorem ap2 {d : Nat} (h1 : ApsC d) (w : World) (nx : Int) (tx : ByteArray) (p : Option Addr) (cap : Nat) (es : List Va) (B : Nat) (tv : Value) (l : List UInt8) (hnb : es.length ≤ 9223372036854775807) (hni : okI nx) (hts : tx.size ≤ maxLen) (F0 : Rows w (fun g => g < B) 4 (HVa w (fun g => g < B) d) (.slice p es.length cap) es)
    (hwt : l.length + (22 + 25 * (tx.size + wtS (wtVa d) es)) ≤ 60000000) (hgd : Gd w B) (hown : OwnB w B tv l) :
    Calls Tryd.prog 25 #[tv, .agg #[.int .i64 2, .int .i64 nx, .string tx, .slice p es.length cap]] w fun e w' => ∃ tv', e = .returned tv' ∧ OwnB w' B tv' (l ++ vaTxt (d + 1) (.mk 2 nx tx es)) ∧ Below B w w' := by
  have HG : Hid (Gd w B) := hgd
  have HO : Hid (OwnB w B tv l) := hown
  have HF : Hid (Rows w (fun g => g < B) 4 (HVa w (fun g => g < B) d) (.slice p es.length cap) es) := F0
  obtain ⟨i0, i1⟩ := okI_bd hni
  obtain ⟨i, hi, hz0, hz1, hz2⟩ := info_parts info_u8
  have hB := hown.2
  have HNE : Hid (∀ b, w.heap.size ≤ b → tv.ownBlock ≠ some b) := fun b hb e => by have := (hown.off e).2; omega
  clear hgd hown F0 hni
  generalize hln : es.length = n at *
  have HLN : Hid (es.length = n) := hln
  clear hln
  have q_numberValue := as_tupleValue_numberValue
  have q_atomValue := as_tupleValue_atomValue
  have q_tupleValue := as_tupleValue_tupleValue
  go_enter Tryd.func25, Tryd.ntmps25
  go_wp2_with fail
  refine (vof2 nx tx p n cap _).mono ?_
  rintro e w1 ⟨rfl, hb⟩
  have B1 : Hid (Below w.heap.size w w1) := ((Below.refl _ _).alloc (Nat.le_refl _) _).trans (hb.mono (by simp))
  clear hb
  have BA : Hid (Below w.heap.size w ((w1.alloc (.cells #[.slice p n cap] 62)).alloc (.cells #[.int .u8 123] 5))) := (B1.out.alloc B1.out.size _).alloc (by have := B1.out.size; simp only [alloc_hs]; omega) _
  have HO3 : Hid (OwnB ((w1.alloc (.cells #[.slice p n cap] 62)).alloc (.cells #[.int .u8 123] 5)) B tv l) := HO.out.next BA.out
  have N3 : Hid (∀ j u, (byts [123])[j]? = some u → ((w1.alloc (.cells #[.slice p n cap] 62)).alloc (.cells #[.int .u8 123] 5)).cell? ((⟨w1.heap.size + 1, 0, none⟩ : Addr).add j) = some u) := news_one (w1.alloc (.cells #[.slice p n cap] 62)) 123 5 _ (by simp only [alloc_hs])
  go_wp2_with (first | (at_builtin; refine wpList_appendM _ rfl _ _ 49 rfl B 5 i Tryd.underlying49 hi hz0 hz1 hz2 tv _ _ rfl HO3.out.1 _ 1 1 (by decide) (byts [123]) rfl rfl N3.out (byts_oneCell _) (by unfold maxLen; omega) (by omega) HO3.out.2 ?_))
  intro tv2 w4 hown2 hgr2 _
  have HO4 : Hid (OwnB w4 B tv2 (l ++ [123])) := OwnB.of hown2 (by rw [List.length_append]; rfl) rfl (Nat.le_trans HO3.out.2 hgr2.size)
  have HB4 : Hid (Below B w w4) := (BA.out.mono hB).trans (HO3.out.below hgr2)
  have hbk := HO3.out.blk hgr2 (Blk.alloc (Blk.new (w := w1) (cs := #[.slice p n cap]) (t := 62))) (HNE.out _ B1.out.size)
  have c0 := hbk.cell 0 _ rfl
  clear hown2 hgr2 hbk
  go_wp2_with fail
  refine (h1 _ _ es ⟨#[44, 32]⟩ B tv2 _ (HF.out.mono (SameOn.of_low HB4.out) (fun _ h => h) (fun _ _ _ h => h.mono (SameOn.of_low HB4.out) (fun _ h => h))) (by simp only [List.length_append, List.length_cons, List.length_nil]; omega) (by decide) (HG.out.low' HB4.out) HO4.out).mono ?_
  rintro e w5 ⟨tv5, rfl, ho5, hb5⟩
  have HO5 : Hid (OwnB w5 B tv5 (l ++ [123] ++ joinT [44, 32] (es.map (vaTxt d)))) := ho5
  have HB5 : Hid (Below B w w5) := HB4.out.trans hb5
  have HJ : (l ++ [123] ++ joinT [44, 32] (es.map (vaTxt d))).length + 1 ≤ 60000000 := by
    have := joinT_bound d [44, 32] (by decide) es (fun y hy => vaTxt_len d y (rows_ints HF.out y hy))
    simp only [List.length_append, List.length_cons, List.length_nil]; omega
  have HO6 : Hid (OwnB (w5.alloc (.cells #[.int .u8 125] 5)) B tv5 (l ++ [123] ++ joinT [44, 32] (es.map (vaTxt d)))) := ho5.next ((Below.refl _ _).alloc (Nat.le_refl _) _)
  have HB6 : Hid (Below B w (w5.alloc (.cells #[.int .u8 125] 5))) := HB5.out.alloc (Nat.le_trans hB HB5.out.size) _
  have N6 : Hid (∀ j u, (byts [125])[j]? = some u → (w5.alloc (.cells #[.int .u8 125] 5)).cell? ((⟨w5.heap.size, 0, none⟩ : Addr).add j) = some u) := news_one w5 125 5 _ rfl
  clear hb5 ho5 c0
  go_wp2_with (first | (at_builtin; refine wpList_appendM _ rfl _ _ 49 rfl B 5 i Tryd.underlying49 hi hz0 hz1 hz2 tv5 _ _ rfl HO6.out.1 _ 1 1 (by decide) (byts [125]) rfl rfl N6.out (byts_oneCell _) (by unfold maxLen; omega) (by omega) HO6.out.2 ?_))
  intro tv7 w7 hown2 hgr2 _
  have HO7 : Hid (OwnB w7 B tv7 (l ++ [123] ++ joinT [44, 32] (es.map (vaTxt d)) ++ [125])) := OwnB.of hown2 (by simp <;> omega) (by simp [byts]) (Nat.le_trans HO6.out.2 hgr2.size)
  have HB7 : Hid (Below B w w7) := HB6.out.trans (HO6.out.below hgr2)
  clear hown2 hgr2
  go_wp2_with fail
  go_ret
  exact ⟨tv7, rfl, by simpa [vaTxt, Va.kind, Va.kids] using HO7.out, HB7.out⟩

set_option maxHeartbeats 8000000 in
set_option maxRecDepth 100000 in
theorem ap4 {d : Nat} (h1 : ApsC d) (w : World) (nx : Int) (tx : ByteArray) (p : Option Addr) (cap : Nat) (es : List Va) (B : Nat) (tv : Value) (l : List UInt8) (hnb : es.length ≤ 9223372036854775807) (hni : okI nx) (hts : tx.size ≤ maxLen) (F0 : Rows w (fun g => g < B) 4 (HVa w (fun g => g < B) d) (.slice p es.length cap) es)
    (hwt : l.length + (22 + 25 * (tx.size + wtS (wtVa d) es)) ≤ 60000000) (hgd : Gd w B) (hown : OwnB w B tv l) :
    Calls Tryd.prog 25 #[tv, .agg #[.int .i64 4, .int .i64 nx, .string tx, .slice p es.length cap]] w fun e w' => ∃ tv', e = .returned tv' ∧ OwnB w' B tv' (l ++ vaTxt (d + 1) (.mk 4 nx tx es)) ∧ Below B w w' := by
  have HG : Hid (Gd w B) := hgd
  have HO : Hid (OwnB w B tv l) := hown
  have HF : Hid (Rows w (fun g => g < B) 4 (HVa w (fun g => g < B) d) (.slice p es.length cap) es) := F0
  obtain ⟨i0, i1⟩ := okI_bd hni
  obtain ⟨i, hi, hz0, hz1, hz2⟩ := info_parts info_u8
  have hB := hown.2
  have HNE : Hid (∀ b, w.heap.size ≤ b → tv.ownBlock ≠ some b) := fun b hb e => by have := (hown.off e).2; omega
  clear hgd hown F0 hni
  generalize hln : es.length = n at *
  have HLN : Hid (es.length = n) := hln
  clear hln
  have q_numberValue := as_consValue_numberValue
  have q_atomValue := as_consValue_atomValue
  have q_tupleValue := as_consValue_tupleValue
  have q_nilValue := as_consValue_nilValue
  have q_consValue := as_consValue_consValue
  go_enter Tryd.func25, Tryd.ntmps25
  go_wp2_with fail
  refine (vof4 nx tx p n cap _).mono ?_
  rintro e w1 ⟨rfl, hb⟩
  have B1 : Hid (Below w.heap.size w w1) := ((Below.refl _ _).alloc (Nat.le_refl _) _).trans (hb.mono (by simp))
  clear hb
  have BA : Hid (Below w.heap.size w ((w1.alloc (.cells #[.slice p n cap] 66)).alloc (.cells #[.int .u8 91] 5))) := (B1.out.alloc B1.out.size _).alloc (by have := B1.out.size; simp only [alloc_hs]; omega) _
  have HO3 : Hid (OwnB ((w1.alloc (.cells #[.slice p n cap] 66)).alloc (.cells #[.int .u8 91] 5)) B tv l) := HO.out.next BA.out
  have N3 : Hid (∀ j u, (byts [91])[j]? = some u → ((w1.alloc (.cells #[.slice p n cap] 66)).alloc (.cells #[.int .u8 91] 5)).cell? ((⟨w1.heap.size + 1, 0, none⟩ : Addr).add j) = some u) := news_one (w1.alloc (.cells #[.slice p n cap] 66)) 91 5 _ (by simp only [alloc_hs])
  go_wp2_with (first | (at_builtin; refine wpList_appendM _ rfl _ _ 49 rfl B 5 i Tryd.underlying49 hi hz0 hz1 hz2 tv _ _ rfl HO3.out.1 _ 1 1 (by decide) (byts [91]) rfl rfl N3.out (byts_oneCell _) (by unfold maxLen; omega) (by omega) HO3.out.2 ?_))
  intro tv2 w4 hown2 hgr2 _
  have HO4 : Hid (OwnB w4 B tv2 (l ++ [91])) := OwnB.of hown2 (by rw [List.length_append]; rfl) rfl (Nat.le_trans HO3.out.2 hgr2.size)
  have HB4 : Hid (Below B w w4) := (BA.out.mono hB).trans (HO3.out.below hgr2)
  have hbk := HO3.out.blk hgr2 (Blk.alloc (Blk.new (w := w1) (cs := #[.slice p n cap]) (t := 66))) (HNE.out _ B1.out.size)
  have c0 := hbk.cell 0 _ rfl
  clear hown2 hgr2 hbk
  go_wp2_with fail
  refine (h1 _ _ es ⟨#[32, 124, 32]⟩ B tv2 _ (HF.out.mono (SameOn.of_low HB4.out) (fun _ h => h) (fun _ _ _ h => h.mono (SameOn.of_low HB4.out) (fun _ h => h))) (by simp only [List.length_append, List.length_cons, List.length_nil]; omega) (by decide) (HG.out.low' HB4.out) HO4.out).mono ?_
  rintro e w5 ⟨tv5, rfl, ho5, hb5⟩
  have HO5 : Hid (OwnB w5 B tv5 (l ++ [91] ++ joinT [32, 124, 32] (es.map (vaTxt d)))) := ho5
  have HB5 : Hid (Below B w w5) := HB4.out.trans hb5
  have HJ : (l ++ [91] ++ joinT [32, 124, 32] (es.map (vaTxt d))).length + 1 ≤ 60000000 := by
    have := joinT_bound d [32, 124, 32] (by decide) es (fun y hy => vaTxt_len d y (rows_ints HF.out y hy))
    simp only [List.length_append, List.length_cons, List.length_nil]; omega
  have HO6 : Hid (OwnB (w5.alloc (.cells #[.int .u8 93] 5)) B tv5 (l ++ [91] ++ joinT [32, 124, 32] (es.map (vaTxt d)))) := ho5.next ((Below.refl _ _).alloc (Nat.le_refl _) _)
  have HB6 : Hid (Below B w (w5.alloc (.cells #[.int .u8 93] 5))) := HB5.out.alloc (Nat.le_trans hB HB5.out.size) _
  have N6 : Hid (∀ j u, (byts [93])[j]? = some u → (w5.alloc (.cells #[.int .u8 93] 5)).cell? ((⟨w5.heap.size, 0, none⟩ : Addr).add j) = some u) := news_one w5 93 5 _ rfl
  clear hb5 ho5 c0
  go_wp2_with (first | (at_builtin; refine wpList_appendM _ rfl _ _ 49 rfl B 5 i Tryd.underlying49 hi hz0 hz1 hz2 tv5 _ _ rfl HO6.out.1 _ 1 1 (by decide) (byts [93]) rfl rfl N6.out (byts_oneCell _) (by unfold maxLen; omega) (by omega) HO6.out.2 ?_))
  intro tv7 w7 hown2 hgr2 _
  have HO7 : Hid (OwnB w7 B tv7 (l ++ [91] ++ joinT [32, 124, 32] (es.map (vaTxt d)) ++ [93])) := OwnB.of hown2 (by simp <;> omega) (by simp [byts]) (Nat.le_trans HO6.out.2 hgr2.size)
  have HB7 : Hid (Below B w w7) := HB6.out.trans (HO6.out.below hgr2)
  clear hown2 hgr2
  go_wp2_with fail
  go_ret
  exact ⟨tv7, rfl, by simpa [vaTxt, Va.kind, Va.kids] using HO7.out, HB7.out⟩

set_option maxHeartbeats 8000000 in
set_option maxRecDepth 100000 in
theorem apS {d : Nat} (h1 : ApsC d) (w : World) (kx nx : Int) (tx : ByteArray) (p : Option Addr) (cap : Nat) (es : List Va) (B : Nat) (tv : Value) (l : List UInt8) (k0 : ¬ kx = 0) (k1 : ¬ kx = 1) (k2 : ¬ kx = 2) (k3 : ¬ kx = 3) (k4 : ¬ kx = 4) (hnb : es.length ≤ 9223372036854775807) (hni : okI nx) (hts : tx.size ≤ maxLen) (F0 : Rows w (fun g => g < B) 4 (HVa w (fun g => g < B) d) (.slice p es.length cap) es)
    (hwt : l.length + (22 + 25 * (tx.size + wtS (wtVa d) es)) ≤ 60000000) (hgd : Gd w B) (hown : OwnB w B tv l) :
    Calls Tryd.prog 25 #[tv, .agg #[.int .i64 kx, .int .i64 nx, .string tx, .slice p es.length cap]] w fun e w' => ∃ tv', e = .returned tv' ∧ OwnB w' B tv' (l ++ vaTxt (d + 1) (.mk kx nx tx es)) ∧ Below B w w' := by
  have HG : Hid (Gd w B) := hgd
  have HO : Hid (OwnB w B tv l) := hown
  have HF : Hid (Rows w (fun g => g < B) 4 (HVa w (fun g => g < B) d) (.slice p es.length cap) es) := F0
  obtain ⟨i0, i1⟩ := okI_bd hni
  obtain ⟨i, hi, hz0, hz1, hz2⟩ := info_parts info_u8
  have hB := hown.2
  have HNE : Hid (∀ b, w.heap.size ≤ b → tv.ownBlock ≠ some b) := fun b hb e => by have := (hown.off e).2; omega
  clear hgd hown F0 hni
  generalize hln : es.length = n at *
  have HLN : Hid (es.length = n) := hln
  clear hln
  have q_numberValue := as_strangeValue_numberValue
  have q_atomValue := as_strangeValue_atomValue
  have q_tupleValue := as_strangeValue_tupleValue
  have q_nilValue := as_strangeValue_nilValue
  have q_consValue := as_strangeValue_consValue
  go_enter Tryd.func25, Tryd.ntmps25
  go_wp2_with fail
  refine (vofS kx nx tx p n cap _ k0 k1 k2 k3 k4).mono ?_
  rintro e w1 ⟨rfl, hb⟩
  have B1 : Hid (Below w.heap.size w w1) := ((Below.refl _ _).alloc (Nat.le_refl _) _).trans (hb.mono (by simp))
  clear hb
  have BB : Hid (Below B w w1) := B1.out.mono hB
  have HO1 : Hid (OwnB w1 B tv l) := HO.out.next B1.out
  go_wp2_with fail
  go_ret
  exact ⟨tv, rfl, by simpa [vaTxt, Va.kind, k0, k1, k2, k3, k4] using HO1.out, BB.out⟩

theorem appendVal_of {d : Nat} (h1 : ApsC d) : ApC (d + 1) := by
  intro w cs x B tv l h hwt hgd hown
  obtain ⟨kv, rfl, -, hni, hts, f0⟩ := h
  obtain ⟨kx, nx, tx, es⟩ := x
  simp only [Va.kind, Va.n, Va.text, Va.kids] at *
  have hw : wtVa (d + 1) (.mk kx nx tx es) = tx.size + wtS (wtVa d) es := rfl
  rw [hw] at hwt
  have f1 := f0
  obtain ⟨p, cap, hkv, hcl, hcm, -⟩ := f0
  subst hkv
  have hnb : es.length ≤ 9223372036854775807 := by unfold maxLen at hcm; omega
  by_cases k0 : kx = 0
  · subst k0; exact ap0 h1 w nx tx p cap es B tv l hnb hni hts f1 hwt hgd hown
  by_cases k1 : kx = 1
  · subst k1; exact ap1 h1 w nx tx p cap es B tv l hnb hni hts f1 hwt hgd hown
  by_cases k2 : kx = 2
  · subst k2; exact ap2 h1 w nx tx p cap es B tv l hnb hni hts f1 hwt hgd hown
  by_cases k3 : kx = 3
  · subst k3; exact ap3 h1 w nx tx p cap es B tv l hnb hni hts f1 hwt hgd hown
  by_cases k4 : kx = 4
  · subst k4; exact ap4 h1 w nx tx p cap es B tv l hnb hni hts f1 hwt hgd hown
  · exact apS h1 w kx nx tx p cap es B tv l k0 k1 k2 k3 k4 hnb hni hts f1 hwt hgd hown
theorem appendVal_all : ∀ d, ApC d
  | 0 => fun w cs x B tv l h _ _ _ => h.elim
  | d + 1 => appendVal_of (appendVals_of (appendVal_all d))

theorem bytes_back {w : World} {B : Nat} {v : Value} {l : List UInt8} (h : OwnB w B v l) : (convert 49 9 v).run Tryd.prog w = .ok (.string ⟨l.toArray⟩) w := by
  obtain ⟨h, _⟩ := h
  rcases h.shape with ⟨rfl, hn⟩ | ⟨g, cap, rfl⟩
  · obtain rfl := List.length_eq_zero_iff.1 hn
    exact Lib.run_convert_nil_bytes w _ _ 5 0 Tryd.underlying49 Tryd.underlying5 Tryd.underlying9
  · refine run_convert_bytes_back w _ _ 5 ⟨g, 0, none⟩ cap l Tryd.underlying49 Tryd.underlying5 Tryd.underlying9 (fun j hj => ?_)
    have := h.cells (g := g) rfl j (.int .u8 (l[j].toNat : Int)) (by simp [byts, hj])
    exact this

set_option maxHeartbeats 4000000 in
/-- THE PROGRAM's ValText. -/
theorem implValText_any (d : Nat) (w : World) (cs : List Value) (x : Va) (hp : PowAt w) (h : HVa w All d cs x) (hwt : wtVa d x ≤ 1048576) :
    Calls Tryd.prog 12 #[.agg cs.toArray] w fun e w' => e = .returned (.string ⟨(vaTxt d x).toArray⟩) ∧ Below w.heap.size w w' := by
  obtain ⟨kk, nn, s, p, l, c, rfl⟩ := h.shape
  have BL : Hid (Below w.heap.size w (w.alloc (.cells #[.int .i64 kk, .int .i64 nn, .string s, .slice p l c] 29))) := (Below.refl _ _).alloc (Nat.le_refl _) _
  have HH : Hid (HVa (w.alloc (.cells #[.int .i64 kk, .int .i64 nn, .string s, .slice p l c] 29)) (fun g => g < w.heap.size) d [.int .i64 kk, .int .i64 nn, .string s, .slice p l c] x) := (h.lowT).mono (SameOn.of_below BL.out) (fun _ h => h.2)
  have G0 : Hid (Gd (w.alloc (.cells #[.int .i64 kk, .int .i64 nn, .string s, .slice p l c] 29)) w.heap.size) := ⟨powAt_below hp BL.out, hp.lt⟩
  have O0 : Hid (OwnB (w.alloc (.cells #[.int .i64 kk, .int .i64 nn, .string s, .slice p l c] 29)) w.heap.size (.slice none 0 0) []) := OwnB.start BL.out.size
  clear h hp
  go_enter Tryd.func12, Tryd.ntmps12
  go_wp2_with fail
  refine (appendVal_all d _ _ x w.heap.size _ [] HH.out (by simp only [List.length_nil]; omega) G0.out O0.out).mono ?_
  rintro e w1 ⟨tv, rfl, ho, hb⟩
  have HB1 : Hid (Below w.heap.size w w1) := BL.out.trans hb
  have hc := bytes_back ho
  clear hb ho
  go_wp2_with fail
  go_ret
  exact ⟨by simp, HB1.out⟩

/-- THE SPECIFICATION's ValText. -/
theorem specValText_any (d : Nat) (w : World) (cs : List Value) (x : Va) (h : HVa w All d cs x) (hwt : wtVa d x ≤ 1048576) :
    Calls Tryd.prog 11 #[.agg cs.toArray] w fun e w' => e = .returned (.string ⟨(vaTxt d x).toArray⟩) ∧ Below w.heap.size w w' := by
  refine (text_all d w cs x h hwt).mono ?_
  rintro e w' ⟨s, rfl, hs, hb⟩
  exact ⟨by rw [← hs], hb⟩
end Go.Proofs.YthcdppdmiicelaaDoor
