/-
  Iter
-/
import Derived.Shelf.SlIter.Nil
import Derived.Shelf.SortM.Plain
import Derived.Shelf.SortM.SortNone
import Derived.Test.YtbdhpganbbandaaGreatDoorProg
set_option maxHeartbeats 16000000
set_option linter.unusedVariables false
set_option maxRecDepth 100000
namespace Go.Proofs
open Go.Shelf Go.Proofs.Tryz
def Tryz.keys180_ren:Go.Shelf.Ren:=⟨fun | 7=>180 | 10=>193 | n=>n,fun | 23=>162 | 26=>9 | 3=>223 | 28=>225 | 0=>0 | 27=>199 | 33=>51 | 4=>4 | n=>n,fun | n=>n⟩
theorem Tryz.keys180:Go.Proofs.SlLaysZ.n7 prog Tryz.keys180_ren:={
 mixed:=by kernel_rfl
 f7:=⟨Tryz.f180.name,by decide,func180.trans (congrArg some (by kernel_rfl))⟩
 f10:=⟨Tryz.f193.name,by decide,func193.trans (congrArg some (by kernel_rfl))⟩
 t0:=underlying0
 a0:=Tryz.isAgg0
 z0:=Tryz.sizeOf0
 v0:=Tryz.zeroValue0
 t4:=underlying4
 a4:=Tryz.isAgg4
 z4:=Tryz.sizeOf4
 v4:=Tryz.zeroValue4
 t23:=underlying162
 a23:=Tryz.isAgg162
 z23:=Tryz.sizeOf162
 v23:=Tryz.zeroValue162
 t26:=underlying9
 a26:=Tryz.isAgg9
 z26:=Tryz.sizeOf9
 v26:=Tryz.zeroValue9
 t27:=underlying199
 a27:=Tryz.isAgg199
 z27:=Tryz.sizeOf199
 v27:=Tryz.zeroValue199
 t28:=underlying225
 a28:=Tryz.isAgg225
 z28:=Tryz.sizeOf225
 v28:=Tryz.zeroValue225
 t33:=underlying51
 a33:=Tryz.isAgg51
 z33:=Tryz.sizeOf51
 v33:=Tryz.zeroValue51 }
def Tryz.sorted179_ren:Go.Shelf.Ren:=⟨fun | 6=>179 | 8=>191 | 9=>192 | 11=>200 | 13=>202 | 12=>201 | 23=>219 | 24=>220 | 14=>210 | 15=>211 | 16=>212 | 17=>213 | 18=>214 | 19=>215 | 20=>216 | 21=>217 | 22=>218 | 25=>225 | 26=>226 | 27=>227 | 28=>228 | 29=>229 | 30=>230 | 31=>235 | n=>n,fun | 26=>9 | 28=>225 | 24=>49 | 0=>0 | 3=>3 | 37=>261 | 48=>275 | 50=>277 | 4=>4 | 40=>267 | 39=>266 | 45=>272 | 5=>5 | 9=>9 | 51=>282 | 55=>286 | 57=>293 | 58=>294 | 33=>51 | n=>n,fun | n=>n⟩
theorem Tryz.sorted179:Go.Proofs.SlLaysZ.n6 prog Tryz.sorted179_ren:={
 mixed:=by kernel_rfl
 f6:=⟨Tryz.f179.name,by decide,func179.trans (congrArg some (by kernel_rfl))⟩
 f8:=⟨Tryz.f191.name,by decide,func191.trans (congrArg some (by kernel_rfl))⟩
 f11:=⟨Tryz.f200.name,by decide,func200.trans (congrArg some (by kernel_rfl))⟩
 t0:=underlying0
 a0:=Tryz.isAgg0
 z0:=Tryz.sizeOf0
 v0:=Tryz.zeroValue0
 t24:=underlying49
 a24:=Tryz.isAgg49
 z24:=Tryz.sizeOf49
 v24:=Tryz.zeroValue49
 t26:=underlying9
 a26:=Tryz.isAgg9
 z26:=Tryz.sizeOf9
 v26:=Tryz.zeroValue9
 t28:=underlying225
 a28:=Tryz.isAgg225
 z28:=Tryz.sizeOf225
 v28:=Tryz.zeroValue225
 i26:=by kernel_rfl }
def Tryz.sort192_ren:Go.Shelf.Ren:=⟨fun | 6=>192 | 8=>202 | 9=>201 | 19=>219 | 20=>220 | 21=>210 | 22=>211 | 23=>212 | 24=>213 | 25=>214 | 26=>215 | 27=>216 | 28=>217 | 29=>218 | 36=>225 | 31=>226 | 32=>227 | 37=>228 | 38=>229 | 39=>230 | 41=>235 | n=>n,fun | 27=>49 | 29=>9 | 3=>3 | 32=>261 | 26=>49 | 0=>0 | 44=>275 | 46=>277 | 4=>4 | 36=>267 | 35=>266 | 41=>272 | 5=>5 | 9=>9 | 53=>282 | 57=>286 | 63=>293 | 64=>294 | n=>n,fun | n=>n⟩
theorem Tryz.sort192:Go.Proofs.SlLaysM.n6 prog Tryz.sort192_ren:={
 mixed:=by kernel_rfl
 f6:=⟨Tryz.f192.name,by decide,func192.trans (congrArg some (by kernel_rfl))⟩
 f8:=func202.trans (congrArg some (by kernel_rfl))
 f9:=⟨Tryz.f201.name,by decide,func201.trans (congrArg some (by kernel_rfl))⟩
 f19:=func219.trans (congrArg some (by kernel_rfl))
 f20:=func220.trans (congrArg some (by kernel_rfl))
 f21:=⟨Tryz.f210.name,by decide,func210.trans (congrArg some (by kernel_rfl))⟩
 f22:=⟨Tryz.f211.name,by decide,func211.trans (congrArg some (by kernel_rfl))⟩
 f23:=⟨Tryz.f212.name,by decide,func212.trans (congrArg some (by kernel_rfl))⟩
 f24:=⟨Tryz.f213.name,by decide,func213.trans (congrArg some (by kernel_rfl))⟩
 f25:=⟨Tryz.f214.name,by decide,func214.trans (congrArg some (by kernel_rfl))⟩
 f26:=⟨Tryz.f215.name,by decide,func215.trans (congrArg some (by kernel_rfl))⟩
 f27:=⟨Tryz.f216.name,by decide,func216.trans (congrArg some (by kernel_rfl))⟩
 f28:=⟨Tryz.f217.name,by decide,func217.trans (congrArg some (by kernel_rfl))⟩
 f29:=⟨Tryz.f218.name,by decide,func218.trans (congrArg some (by kernel_rfl))⟩
 f31:=func226.trans (congrArg some (by kernel_rfl))
 f32:=func227.trans (congrArg some (by kernel_rfl))
 f36:=⟨Tryz.f225.name,by decide,func225.trans (congrArg some (by kernel_rfl))⟩
 f37:=⟨Tryz.f228.name,by decide,func228.trans (congrArg some (by kernel_rfl))⟩
 f38:=⟨Tryz.f229.name,by decide,func229.trans (congrArg some (by kernel_rfl))⟩
 f39:=⟨Tryz.f230.name,by decide,func230.trans (congrArg some (by kernel_rfl))⟩
 f41:=⟨Tryz.f235.name,by decide,func235.trans (congrArg some (by kernel_rfl))⟩
 t0:=underlying0
 a0:=Tryz.isAgg0
 z0:=Tryz.sizeOf0
 v0:=Tryz.zeroValue0
 t3:=underlying3
 a3:=Tryz.isAgg3
 z3:=Tryz.sizeOf3
 v3:=Tryz.zeroValue3
 t4:=underlying4
 a4:=Tryz.isAgg4
 z4:=Tryz.sizeOf4
 v4:=Tryz.zeroValue4
 t5:=underlying5
 a5:=Tryz.isAgg5
 z5:=Tryz.sizeOf5
 v5:=Tryz.zeroValue5
 t9:=underlying9
 a9:=Tryz.isAgg9
 z9:=Tryz.sizeOf9
 v9:=Tryz.zeroValue9
 t26:=underlying49
 a26:=Tryz.isAgg49
 z26:=Tryz.sizeOf49
 v26:=Tryz.zeroValue49
 t27:=underlying49
 a27:=Tryz.isAgg49
 z27:=Tryz.sizeOf49
 v27:=Tryz.zeroValue49
 t29:=underlying9
 a29:=Tryz.isAgg9
 z29:=Tryz.sizeOf9
 v29:=Tryz.zeroValue9
 t32:=underlying261
 a32:=Tryz.isAgg261
 z32:=Tryz.sizeOf261
 v32:=Tryz.zeroValue261
 t35:=underlying266
 a35:=Tryz.isAgg266
 z35:=Tryz.sizeOf266
 v35:=Tryz.zeroValue266
 t36:=underlying267
 a36:=Tryz.isAgg267
 z36:=Tryz.sizeOf267
 v36:=Tryz.zeroValue267
 t41:=underlying272
 a41:=Tryz.isAgg272
 z41:=Tryz.sizeOf272
 v41:=Tryz.zeroValue272
 t44:=underlying275
 a44:=Tryz.isAgg275
 z44:=Tryz.sizeOf275
 v44:=Tryz.zeroValue275
 t46:=underlying277
 a46:=Tryz.isAgg277
 z46:=Tryz.sizeOf277
 v46:=Tryz.zeroValue277
 t53:=underlying282
 a53:=Tryz.isAgg282
 z53:=Tryz.sizeOf282
 v53:=Tryz.zeroValue282
 t57:=underlying286
 a57:=Tryz.isAgg286
 z57:=Tryz.sizeOf286
 v57:=Tryz.zeroValue286
 t63:=underlying293
 a63:=Tryz.isAgg293
 z63:=Tryz.sizeOf293
 v63:=Tryz.zeroValue293
 t64:=underlying294
 a64:=Tryz.isAgg294
 z64:=Tryz.sizeOf294
 v64:=Tryz.zeroValue294 }
open Go.RowKit Go.Maps Go.Sort Go.Shelf
theorem Tryz.sorts179 (m:Nat):AnyZ.SortsIn prog Tryz.sorted179_ren Fence.wide m :=
 ⟨fun blk off cap ss W hH hblk hsz=>callsIn_wide.2 (AnyM.slices_Sort_string Tryz.sort192 blk off cap ss W hH hblk hsz),
  fun p cap W=>callsIn_wide.2 (AnyM.slices_Sort_string_none Tryz.sort192 p cap W)⟩
theorem Tryz.maps_Keys_180 (mb:Option Nat) (W:World):CallsIn Fence.wide 5 prog 180 #[.map mb] W fun e w'=>e=.returned (.func (.func 193) #[] #[.pointer (some ⟨W.heap.size,0,none⟩)])∧w'=W.alloc (.cells #[.map mb] 162) :=
 AnyZ.keys_in Tryz.keys180 Fence.wide 5 trivial rfl mb W
set_option maxHeartbeats 1000000 in
theorem Tryz.slices_Sorted_keys_179_180 {H:Type} (b nn:Nat) (D0:DataW H) (R:Value→Option (DataW H × List MemPlace)) (w:World) (hown:w.ownsMap prog 9 R b nn D0) (hmax:Maps.size D0≤maxLen) (hbytes:Maps.size D0 * 16≤140737488355328) :
 CallsIn Fence.wide 5 prog 179 #[.func (.func 193) #[] #[.pointer (some ⟨w.heap.size,0,none⟩)]] (w.alloc (.cells #[.map (some b)] 162)) fun e w'=>∃ (v:Value) (ss:List (List UInt8)),e=.returned v∧ss.Perm (strKeys D0) ∧
  w'.ownsRow (w.alloc (.cells #[.map (some b)] 162)).heap.size 9 1 v ss.length ((ss.mergeSort (fun x y=>decide (x≤y))).map encStr)∧(v=.slice none 0 0 ↔ ss = [])∧Below (w.alloc (.cells #[.map (some b)] 162)).heap.size (w.alloc (.cells #[.map (some b)] 162)) w':=by
 have hbl:=hown.lt
 have hseq:SeqGives Fence.wide 2 prog 193 #[.pointer (some ⟨w.heap.size,0,none⟩)] encStr (fun ss=>ss.Perm (strKeys D0)) (Maps.size D0) (w.alloc (.cells #[.map (some b)] 162)) :=
  AnyZ.keys_gives (ρ:=Tryz.keys180_ren) { Tryz.keys180 with } Fence.wide _ trivial rfl (by omega) w.heap.size b nn D0 _ (by simp) (by simp) (by
   obtain ⟨es,clock,hb,Ft,hs,hD⟩:=hown
   exact ⟨es,clock,(Below.heap_alloc _ _ b hbl).trans hb,Ft,hs,hD⟩)
 exact AnyZ.sorted_in Tryz.sorted179 Fence.wide 5 trivial trivial trivial trivial rfl (by omega) (Tryz.sorts179 _) (enters_of func192 (by kernel_rfl) rfl) 193 #[.pointer (some ⟨w.heap.size,0,none⟩)] trivial (enters_of func193 (by kernel_rfl) rfl) _ _ hmax hbytes _ hseq
set_option maxHeartbeats 1000000 in
theorem Tryz.slices_Sorted_keys_nil_179_180 (w:World) :
 CallsIn Fence.wide 5 prog 179 #[.func (.func 193) #[] #[.pointer (some ⟨w.heap.size,0,none⟩)]] (w.alloc (.cells #[.map none] 162)) fun e w'=>∃ (v:Value) (ss:List (List UInt8)),e=.returned v∧ss = [] ∧
  w'.ownsRow (w.alloc (.cells #[.map none] 162)).heap.size 9 1 v ss.length ((ss.mergeSort (fun x y=>decide (x≤y))).map encStr)∧(v=.slice none 0 0 ↔ ss = [])∧Below (w.alloc (.cells #[.map none] 162)).heap.size (w.alloc (.cells #[.map none] 162)) w':=by
 have hseq:SeqGives Fence.wide 2 prog 193 #[.pointer (some ⟨w.heap.size,0,none⟩)] encStr (fun ss:List (List UInt8)=>ss = []) 0 (w.alloc (.cells #[.map none] 162)) :=
  AnyZ.keys_gives_nil (ρ:=Tryz.keys180_ren) { Tryz.keys180 with } Fence.wide _ trivial rfl w.heap.size _ (by simp) (by simp)
 exact AnyZ.sorted_in Tryz.sorted179 Fence.wide 5 trivial trivial trivial trivial rfl (by omega) (Tryz.sorts179 _) (enters_of func192 (by kernel_rfl) rfl) 193 #[.pointer (some ⟨w.heap.size,0,none⟩)] trivial (enters_of func193 (by kernel_rfl) rfl) _ 0 (Nat.zero_le _) (by omega) _ hseq
end Go.Proofs
