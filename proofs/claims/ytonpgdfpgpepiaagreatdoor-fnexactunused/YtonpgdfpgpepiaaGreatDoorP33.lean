/-
  CheckImplG
-/
import Derived.Test.YtonpgdfpgpepiaaGreatDoorP32
set_option maxHeartbeats 16000000
set_option linter.unusedVariables false
set_option maxRecDepth 100000
namespace Go.Proofs.YtonpgdfpgpepiaaGreatDoor
open Go.ChangeShapes Go.WideShapes Go.ChangeAt Go.RowKit
section
open Go.Proofs.Tryz
theorem exportProblems_any (d:Nat) (w:World) (cs:List Value) (m:Md) (h:HMd w All d cs m) (hw:m.exports.length<=1048576) :
 Calls prog 63 #[.agg cs.toArray] w λe w'=>∃ u,e=.returned u/\OwnP w' w.heap.size u (m.exports.flatMap (exportP m))/\Bz w w':=by
 have HMM:Hid (∀ w',Bz w w'->HMd w' All d cs m):=λw' hw=>h.mono (sqO hw) sqj;obtain ⟨ev,fv,rfl,hms,he,hf⟩:=h;have HFS:Hid (∀ w',Bz w w'->Rows w' All 3 (HFn w' All d) fv m.funs):=λw' hw=>hf.mono (sqO hw) sqj (λ_ _ _ h=>h.mono (sqO hw) sqj);obtain ⟨pf,cf,rfl,-⟩:=hf;obtain ⟨pe,ce,rfl,hce,hcme,hxe⟩:=he;have HXE:=hid hxe
 have HLL:Hid ((m.exports.flatMap (exportP m)).length<=1048576):=by
  have h1:=flat_lenG (exportP m) (λ_=>1) m.exports (λr _=>by
   unfold exportP
   split
   . exact Nat.zero_le _
   . exact Nat.le_refl _)
  have h3:∀ l:List Rf,(l.map λ_=>1).sum=l.length:=λl=>by
   induction l with
   | nil=>rfl
   | cons y l ih=>simp only [List.map_cons,List.sum_cons,List.length_cons,ih];omega
  rw [h3] at h1;exact Nat.le_trans h1 hw
 have hne:m.exports.length<=9223372036854775807:=(by omega);have HMSN:=hid hms;generalize hn1:m.exports.length=ne at *;have HN1:=hid hn1;generalize m.funs.length=nf at *;obtain ⟨W1,hW1⟩:∃ W1,W1=w.alloc (.cells #[.string m.name,.slice pe ne ce,.slice pf nf cf] 42):=⟨_,rfl⟩;have b1:Blk W1 w.heap.size #[.string m.name,.slice pe ne ce,.slice pf nf cf] 42:=(by rw [hW1];exact Blk.new);have hs1:W1.heap.size=w.heap.size+1:=(by rw [hW1,alloc_hs]);have hb1:Bz w W1:=(by rw [hW1];exact (sqN _ _));have hal:Bz W1 (W1.alloc (.cells #[] 98)):=(sqN _ _);have B2:=hid (hb1.trans (hal.mono hb1.size));have b2:=hid (b1.next hal)
 have O2:Hid (OwnP (W1.alloc (.cells #[] 98)) w.heap.size (.slice (some ⟨w.heap.size+1,0,none⟩) 0 0) []):=by
  have:=(OwnG.fresh (w:=W1) (e:=98) (c:=4) (R:=HPb)).base (B':=w.heap.size) (by omega);rw [hs1] at this;exact this
 have HW1:=hid hW1;clear hxe hn1 b1 hb1 hal hs1 hms hce hcme hw hW1;go_enter func63,ntmps63;go_wp2_with fail;rw [<-HW1.out]
 go_loopw [3,10] (λov iv wx=>∃ k:Nat,k<=ne/\iv=.int .i64 k/\Hid (OwnP wx w.heap.size ov ((m.exports.take k).flatMap (exportP m)))/\Hid (Bz w wx)/\Hid (Blk wx w.heap.size #[.string m.name,.slice pe ne ce,.slice pf nf cf] 42)) (λ_ iv _=>ne - (intOf iv).toNat)
 case atStart=>exact ⟨0,Nat.zero_le _,rfl,by show OwnP _ _ _ _;simpa using O2.out,B2,b2⟩
 case round =>
  obtain ⟨k,hk,rfl,ho,hb,bb⟩:=hrel;clear O2 B2 b2;by_cases hlk:k<ne
  . obtain ⟨r,hrk⟩:∃ r,m.exports[k]?=some r:=⟨m.exports[k]'(by rw [HN1.out];exact hlk),List.getElem?_eq_getElem _⟩
    obtain ⟨g6,o6,rfl,-,hgl6,hat6⟩:=HXE.out (sqE hrk);obtain ⟨cs6,hcsl6,hcs6,rfl,hrs,hri⟩:=hat6 k r hrk;obtain ⟨a0,a1⟩:=sqC2 hcs6 (by omega);rw [<-hb.out.cell (p:=⟨g6,_,none⟩) hgl6] at a0 a1;simp at a0 a1;have hki6:(k:Int)<(ne:Int):=(by omega);have hk06:=sqI k;obtain ⟨HJ,HL⟩:=flat_takeG (exportP m) m.exports k r hrk;have HJ6:=hid HJ;have HL6:=hid (Nat.le_trans HL HLL.out);have HEP:Hid (exportP m r=if hasF m r.name r.arity then [] else [⟨m.name,r.name,r.arity,cExport⟩]):=rfl;have HHF:Hid (hasF m r.name r.arity=m.funs.any (sameR ⟨r.name,r.arity⟩)):=rfl;obtain ⟨rs,rn⟩:=r;simp only at *;have HPB:Hid (HPb [.string m.name,.string rs,.int .i64 rn,.string ⟨#[101,120,112,111,114,116]⟩] ⟨m.name,rs,rn,cExport⟩):=⟨rfl,HMSN.out,hrs,hri,okS_export⟩;obtain ⟨W6,hW6⟩:∃ W6,W6=wr.alloc (.cells #[.string rs,.int .i64 rn] 57):=⟨_,rfl⟩;obtain ⟨br,hbr⟩:∃ br,br=wr.heap.size:=⟨_,rfl⟩;have hbl:Bz wr W6:=(by rw [hW6];exact (sqN _ _));have br6:Hid (Blk W6 br #[.string rs,.int .i64 rn] 57):=(by show Blk _ _ _ _;rw [hW6,hbr];exact Blk.new);have bm6:=hid (bb.out.next hbl);have HB6:=hid (hb.out.trans (hbl.mono hb.out.size));have HO6:=hid (ho.out.next hbl);have HW6:=hid hW6;have HBR:=hid hbr.symm;have y2:=bm6.out.cell 2 _ rfl;rw [hW6] at y2;generalize hJ0:(m.exports.take k).flatMap (exportP m)=J at *;clear hcs6 hcsl6 hat6 HJ HL hW6 hbr hbl hJ0 hrk hrs hri ho hb bb;go_wp2_with fail;rw [<-HW6.out];clear y2 a0 a1;refine (hasFun_any d _ _ m.funs ⟨rs,rn⟩ (HFS.out _ HB6.out)).mono ?_;rintro e w7 ⟨rfl,hb7⟩;rw [<-HHF.out];have br7:=hid (br6.out.next hb7);have bm7:=hid (bm6.out.next hb7);have HB7:=hid (HB6.out.trans (hb7.mono HB6.out.size));have HO7:=hid (HO6.out.next hb7);clear hb7;rw [HBR.out];obtain ⟨y0,y1,y2⟩:=sqB3 bm7.out;obtain ⟨r0,r1⟩:=sqB2 br7.out
    cases hF:hasF m rs rn with
    | true =>
     have HO9:Hid (OwnP w7 w.heap.size u3 ((m.exports.take (k+1)).flatMap (exportP m))):=(by show OwnP _ _ _ _;rw [HJ6.out,HEP.out,hF];simpa using HO7.out);go_wp2_with fail;exact ⟨⟨k+1,by omega,by go_num,HO9,HB7,bm7⟩,by simp [intOf];omega⟩
    | false =>
     have HE2:Hid (exportP m ⟨rs,rn⟩ = [⟨m.name,rs,rn,cExport⟩]):=(by show _=_;rw [HEP.out,hF];rfl);go_wp2_with fail;refine (problemOf_any _ m.name (some ⟨g6,o6,none⟩) pf ne ce nf cf rs rn ⟨#[101,120,112,111,114,116]⟩).mono ?_;rintro e w8 ⟨rfl,hb8⟩;have bm8:=hid (bm7.out.next hb8);have HB8:=hid (HB7.out.trans (hb8.mono HB7.out.size));have HO8:=hid (HO7.out.next hb8);clear hb8 y0 y1 y2 r0 r1;go_wp2_with (at_builtin;refine wpList_append_one rfl _ _ 66 rfl _ 56 underlying66 info_pb rfl (by decide) HO8.out #[.string m.name,.string rs,.int .i64 rn,.string ⟨#[101,120,112,111,114,116]⟩] ⟨m.name,rs,rn,cExport⟩ HPB.out rfl (pb_oneCell _ _ HPB.out) rfl rfl (by have:=HL6.out;rw [HE2.out] at this;exact this) (by decide) ?_;intro v9 w9 ho9 hb9 hap9);have HO9:Hid (OwnP w9 w.heap.size v9 ((m.exports.take (k+1)).flatMap (exportP m))):=(by show OwnP _ _ _ _;rw [HJ6.out,HE2.out];exact ho9);have HB9:=hid (HB8.out.trans hb9);have b9:=hid (hap9.blk bm8.out (by decide));clear ho9 hb9 hap9;go_wp2_with fail;exact ⟨⟨k+1,by omega,by go_num,HO9,HB9,b9⟩,by simp [intOf];omega⟩
  . have HR:Hid (OwnP wr w.heap.size u3 (m.exports.flatMap (exportP m))):=by
     have:=ho.out
     rwa [show m.exports.take k=m.exports from List.take_of_length_le (by rw [HN1.out];omega)] at this
    clear ho;go_wp2;go_ret;exact ⟨_,rfl,HR.out,hb.out⟩
end
end Go.Proofs.YtonpgdfpgpepiaaGreatDoor
