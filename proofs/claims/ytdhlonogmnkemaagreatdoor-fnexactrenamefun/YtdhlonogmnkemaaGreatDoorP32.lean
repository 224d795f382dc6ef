/-
  RenImpl RenSpec
-/
import Derived.Test.YtdhlonogmnkemaaGreatDoorP23
import Derived.Lib.AppendZerosOnto
import Derived.Sort.Walk0
import Derived.Test.YtdhlonogmnkemaaGreatDoorP30
import Derived.Test.YtdhlonogmnkemaaGreatDoorP20
set_option maxHeartbeats 16000000
set_option linter.unusedVariables false
set_option maxRecDepth 100000
namespace Go.Proofs.YtdhlonogmnkemaaGreatDoor
open Go.ChangeShapes Go.WideShapes Go.ChangeAt Go.RowKit
section
open Go.Proofs.Tryz
def finM (d:Nat) (ms0 ms:List Md):List Md × Int:=if Za4 d ms=true then (ms,0) else (ms0,6)
def EdE (w:World) (d:Nat) (r:List Md × Int) (e:Ending) (w':World):Prop :=
 ∃ u fp,e=.returned (.tuple #[u,.int .i64 r.2])/\Zg w' 63 3 (OMd w' d) u r.1 fp/\fp.Nodup/\(∀ a ∈ fp,w.heap.size<=a/\a<w'.heap.size)/\Bz w w'
theorem ZgZ (d:Nat) (w0 w:World) (v0 v:Value) (ms0 ms:List Md) (fp0 fp:List Nat) (hT:Tabs w) (h0:Zg w 63 3 (OMd w d) v0 ms0 fp0) (h:Zg w 63 3 (OMd w d) v ms fp) (hnd:fp.Nodup) (hrg:∀ a ∈ fp,w0.heap.size<=a) (hb0:Bz w0 w)
 (hw0:wtS (wtMd d) ms0<=16777216) (hw:wtS (wtMd d) ms<=16777216) :
 Calls prog 33 #[v0,v] w λe w'=>EdE w0 d (finM d ms0 ms) e w':=by
 have HTAB:=hid hT;have H0:=hid h0;have H:=hid h;have HND:Hid (fp.Nodup/\∀ a ∈ fp,w0.heap.size<=a):=⟨hnd,hrg⟩;have HB0:=hid hb0;have HW0:=hid hw0;have HW:=hid hw;obtain ⟨p0,c0,rfl,-⟩:=h0.shape;obtain ⟨p1,c1,rfl,-⟩:=h.shape;clear hT h0 h hnd hrg hb0 hw0 hw;go_enter func33,ntmps33;go_wp2_with fail;refine (Zd9 d w _ ms HTAB.out (ZbN H.out (λ_ _=>trivial)) HW.out).mono ?_;rintro e w2 ⟨rfl,hb⟩;have B2:=hid hb;have BB:=hid (HB0.out.trans (hb.mono HB0.out.size));have O2:=hid (ZbO H.out (Zj.below hb (ZaM H.out)));have O0:=hid (ZbO H0.out (Zj.below hb (ZaM H0.out)));clear hb
 cases hG:Za4 d ms with
 | true =>
  have FIN:Hid (EdE w0 d (finM d ms0 ms) (.returned (.tuple #[.slice p1 ms.length c1,.int .i64 0])) w2):=by
   show EdE _ _ _ _ _;rw [finM,hG,if_pos rfl];exact ⟨_,fp,rfl,O2.out,HND.out.1,λa ha=>⟨HND.out.2 a ha,ZaM O2.out a ha⟩,BB.out⟩
  clear hG;go_wp2_with fail;exact bodyPost_ret (v:=.tuple #[.slice p1 ms.length c1,.int .i64 0]) (by simp [results,results33,go_sem]) rfl FIN.out
 | false =>
  have HG:=hid hG;clear hG;go_wp2_with fail;refine (Zcx d w2 (· ∈ fp0) _ ms0 (ZbN O0.out (λa ha=>ha)) (λg hg=>⟨ZaM O0.out g hg,Zbf O0.out g hg⟩) HW0.out).mono ?_;rintro e w3 ⟨u,fq,rfl,ho,hnd,hrg,hb⟩;obtain ⟨pu,cu,rfl,-⟩:=ho.shape
  have FIN:Hid (EdE w0 d (finM d ms0 ms) (.returned (.tuple #[.slice pu ms0.length cu,.int .i64 6])) w3):=by
   show EdE _ _ _ _ _;rw [finM,HG.out,if_neg (by simp)];exact ⟨_,fq,rfl,ho,hnd,λa ha=>⟨by have:=(hrg a ha).1;have:=BB.out.size;omega,(hrg a ha).2⟩,BB.out.trans (hb.mono BB.out.size)⟩
  clear ho hnd hrg hb;go_wp2_with fail;exact bodyPost_ret (v:=.tuple #[.slice pu ms0.length cu,.int .i64 6]) (by simp [results,results33,go_sem]) rfl FIN.out
def lawW:Nat:=2 ^ 20
theorem Zf7:11 * lawW<=16777216:=by decide
theorem ZhP (d:Nat) (w0 w:World) (v0 v:Value) (ms0 ms:List Md) (fp:List Nat) (h0:Rows w All 3 (HMd w All d) v0 ms0) (h:Zg w 63 3 (OMd w d) v ms fp) (hnd:fp.Nodup) (hrg:∀ a ∈ fp,w0.heap.size<=a) (hb0:Bz w0 w)
 (hw0:wtS (wtMd d) ms0<=16777216) (hw:wtS (wtMd d) ms<=16777216) :
 Calls prog 25 #[v0,v] w λe w'=>EdE w0 d (finM d ms0 ms) e w':=by
 have H0:=hid h0;have H:=hid h;have HND:Hid (fp.Nodup/\∀ a ∈ fp,w0.heap.size<=a):=⟨hnd,hrg⟩;have HB0:=hid hb0;have HW0:=hid hw0;have HW:=hid hw;obtain ⟨p0,c0,rfl,-⟩:=h0;obtain ⟨p1,c1,rfl,-⟩:=h.shape;clear h hnd hrg hb0 hw0 hw;go_enter func25,ntmps25;go_wp2_with fail;refine (Zea d w _ ms (ZbN H.out (λ_ _=>trivial)) HW.out).mono ?_;rintro e w2 ⟨rfl,hb⟩;have BB:=hid (HB0.out.trans (hb.mono HB0.out.size));have O2:=hid (ZbO H.out (Zj.below hb (ZaM H.out)));have O0:=hid (H0.out.mono (sqO hb) sqj (λ_ _ _ h=>h.mono (sqO hb) sqj));clear hb
 cases hG:Za4 d ms with
 | true =>
  have FIN:Hid (EdE w0 d (finM d ms0 ms) (.returned (.tuple #[.slice p1 ms.length c1,.int .i64 0])) w2):=by
   show EdE _ _ _ _ _;rw [finM,hG,if_pos rfl];exact ⟨_,fp,rfl,O2.out,HND.out.1,λa ha=>⟨HND.out.2 a ha,ZaM O2.out a ha⟩,BB.out⟩
  clear hG;go_wp2_with fail;exact bodyPost_ret (v:=.tuple #[.slice p1 ms.length c1,.int .i64 0]) (by simp [results,results25,go_sem]) rfl FIN.out
 | false =>
  have HG:=hid hG;clear hG;go_wp2_with fail;refine (ZeN d w2 _ ms0 O0.out HW0.out).mono ?_;rintro e w3 ⟨u,fq,rfl,ho,hnd,hrg,hb⟩;obtain ⟨pu,cu,rfl,-⟩:=ho.shape
  have FIN:Hid (EdE w0 d (finM d ms0 ms) (.returned (.tuple #[.slice pu ms0.length cu,.int .i64 6])) w3):=by
   show EdE _ _ _ _ _;rw [finM,HG.out,if_neg (by simp)];exact ⟨_,fq,rfl,ho,hnd,λa ha=>⟨by have:=(hrg a ha).1;have:=BB.out.size;omega,(hrg a ha).2⟩,BB.out.trans (hb.mono BB.out.size)⟩
  clear ho hnd hrg hb;go_wp2_with fail;exact bodyPost_ret (v:=.tuple #[.slice pu ms0.length cu,.int .i64 6]) (by simp [results,results25,go_sem]) rfl FIN.out
end
end Go.Proofs.YtdhlonogmnkemaaGreatDoor
