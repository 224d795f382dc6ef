/-
  RenImpl RenSpec RenSpec2
-/
import Derived.Test.YtbdhpganbbandaaGreatDoorP09
import Derived.Test.YtbdhpganbbandaaGreatDoorP46
import Derived.Test.YtbdhpganbbandaaGreatDoorP14
import Derived.Test.YtbdhpganbbandaaGreatDoorP33
set_option maxHeartbeats 16000000
set_option linter.unusedVariables false
set_option maxRecDepth 100000
namespace Go.Proofs.YtbdhpganbbandaaGreatDoor
open Go.ChangeShapes Go.WideShapes Go.ChangeAt Go.RowKit
def finM (d:Nat) (ms0 ms:List Md):List Md × Int:=if goodB d ms=true then (ms,0) else (ms0,6)
def renVar (d:Nat) (ms:List Md) (q:Pl) (sf st:ByteArray):List Md × Int :=
  if renCode d ms q sf st=0 then finM d ms (setAt ms q (mapC (fT (ftV sf st)) d)) else (ms,renCode d ms q sf st)
def EdE (w:World) (d:Nat) (r:List Md × Int) (e:Ending) (w':World):Prop :=
  ∃ u fp,e=.returned (.tuple #[u,.int .i64 r.2])∧ORows w' 61 3 (OMd w' d) u r.1 fp∧fp.Nodup∧(∀ a ∈ fp,w.heap.size≤a∧a<w'.heap.size)∧Below w.heap.size w w'
theorem checked_any (d:Nat) (w:World) (p:Option Addr) (n c:Nat) (ms:List Md) (hT:Tabs w) (hE:ErrsAt w) (h:Rows w All 3 (HMd w All d) (.slice p n c) ms) (hw:wtS (wtMd d) ms≤16777216) :
    Calls Tryz.prog 63 #[.slice p n c] w fun e w'=>Below w.heap.size w w'∧((goodB d ms=true∧e=.returned (.tuple #[.slice p n c,.nilIface]))∨(goodB d ms=false∧∃ f,w'.cell? ⟨0,0,none⟩=some (errV f)∧e=.returned (.tuple #[.slice none 0 0,errV f]))):=by
  have HG:Hid (Calls Tryz.prog 53 #[.slice p n c] w fun e w'=>e=.returned (.bool (goodB d ms))∧Below w.heap.size w w'):=implGood_any d w _ ms hT h hw
  have HE:Hid (ErrsAt w):=hE
  clear hT h hw hE
  cases hG:goodB d ms with
  | true =>
    rw [hG] at HG
    clear hG
    go_enter Tryz.func63,Tryz.ntmps63
    go_wp2_with fail
    refine HG.out.mono ?_
    rintro e w2 ⟨rfl,hb⟩
    have B2:Hid (Below w.heap.size w w2):=hb
    clear hb
    go_wp2_with fail
    exact bodyPost_ret (v:=.tuple #[.slice p n c,.nilIface]) (by simp [results,Tryz.results63,go_sem]) rfl ⟨B2.out,.inl ⟨trivial,rfl⟩⟩
  | false =>
    rw [hG] at HG
    clear hG
    go_enter Tryz.func63,Tryz.ntmps63
    go_wp2_with fail
    refine HG.out.mono ?_
    rintro e w2 ⟨rfl,hb⟩
    have B2:Hid (Below w.heap.size w w2):=hb
    obtain ⟨f,hf,-⟩:=HE.out.below hb
    have cf:=hf.1
    have CF:Hid (∀ k,(w2.drewN k).cell? ⟨0,0,none⟩=some (errV f)):=fun k=>hf.1
    clear hb hf
    go_wp2_with fail
    go_quiet (fail)
    go_wp2_with fail
    exact bodyPost_ret (v:=.tuple #[.slice none 0 0,errV f]) (by simp [results,Tryz.results63,go_sem]) rfl ⟨B2.out.trans ⟨rfl,rfl,rfl,Nat.le_refl _,fun _ _=>rfl⟩,.inr ⟨trivial,f,CF.out _,rfl⟩⟩
theorem finished_any (d:Nat) (w0 w:World) (v0 v:Value) (ms0 ms:List Md) (fp0 fp:List Nat) (hT:Tabs w) (hE:ErrsAt w) (h0:ORows w 61 3 (OMd w d) v0 ms0 fp0) (h:ORows w 61 3 (OMd w d) v ms fp) (hnd:fp.Nodup) (hrg:∀ a ∈ fp,w0.heap.size≤a) (hb0:Below w0.heap.size w0 w)
    (hw0:wtS (wtMd d) ms0≤16777216) (hw:wtS (wtMd d) ms≤16777216) :
    Calls Tryz.prog 30 #[v0,v] w fun e w'=>EdE w0 d (finM d ms0 ms) e w':=by
  have HE:Hid (ErrsAt w):=hE
  have H0:Hid (ORows w 61 3 (OMd w d) v0 ms0 fp0):=h0
  have H:Hid (ORows w 61 3 (OMd w d) v ms fp):=h
  have HND:Hid (fp.Nodup∧∀ a ∈ fp,w0.heap.size≤a):=⟨hnd,hrg⟩
  have HB0:Hid (Below w0.heap.size w0 w):=hb0
  have HW0:Hid (wtS (wtMd d) ms0≤16777216):=hw0
  obtain ⟨p0,c0,rfl,-⟩:=h0.shape
  obtain ⟨p1,c1,rfl,-⟩:=h.shape
  have CK:Hid (Calls Tryz.prog 63 #[.slice p1 ms.length c1] w fun e w'=>Below w.heap.size w w'∧((goodB d ms=true∧e=.returned (.tuple #[.slice p1 ms.length c1,.nilIface]))∨(goodB d ms=false∧∃ f,w'.cell? ⟨0,0,none⟩=some (errV f)∧e=.returned (.tuple #[.slice none 0 0,errV f])))):=checked_any d w _ _ _ ms hT hE (mods_tree h (fun _ _=>trivial)) hw
  generalize hFM:finM d ms0 ms=FM
  have HFM:Hid (finM d ms0 ms=FM):=hFM
  clear hT hE h0 h hnd hrg hb0 hw0 hw hFM
  generalize ms.length=n1 at *
  generalize hn0:ms0.length=n0 at *
  go_enter Tryz.func30,Tryz.ntmps30
  go_wp2_with fail
  refine CK.out.mono ?_
  rintro e w2 ⟨hb,hq⟩
  have BB:Hid (Below w0.heap.size w0 w2):=HB0.out.trans (hb.mono HB0.out.size)
  have O2:Hid (ORows w2 61 3 (OMd w2 d) (.slice p1 n1 c1) ms fp):=mods_keep H.out (KeepOn.below hb (mods_lt H.out))
  have O0:Hid (ORows w2 61 3 (OMd w2 d) (.slice p0 n0 c0) ms0 fp0):=mods_keep H0.out (KeepOn.below hb (mods_lt H0.out))
  have E2:Hid (ErrsAt w2):=HE.out.below hb
  have BN:Hid (Below w.heap.size w w2):=hb
  clear hb
  rcases hq with ⟨hG,rfl⟩ | ⟨hG,f,hf,rfl⟩
  · have FIN:Hid (∀ w3,Below w2.heap.size w2 w3→EdE w0 d FM (.returned (.tuple #[.slice p1 n1 c1,.int .i64 0])) w3):=fun w3 hb3=>by
      rw [← HFM.out,finM,if_pos hG]
      have o3:=mods_keep O2.out (KeepOn.below hb3 (mods_lt O2.out))
      exact ⟨_,fp,rfl,o3,HND.out.1,fun a ha=>⟨HND.out.2 a ha,mods_lt o3 a ha⟩,BB.out.trans (hb3.mono BB.out.size)⟩
    have CN:Hid (Calls Tryz.prog 96 #[.nilIface] w2 fun e w'=>e=.returned (.int .i64 0)∧Below w2.heap.size w2 w'):=codeOf_nil w2 E2.out
    have AN:Hid (Calls Tryz.prog 64 #[.slice p0 n0 c0,.slice p1 n1 c1,.nilIface] w2 fun e w'=>e=.returned (.tuple #[.slice p1 n1 c1,.int .i64 0])∧Below w2.heap.size w2 w'):=by
      show Calls _ _ _ _ _
      clear FIN HFM E2 O0 O2 BB BN HE H0 H HND HB0 HW0 CK hG hn0
      go_enter Tryz.func64,Tryz.ntmps64
      go_wp2_with fail
      refine CN.out.mono ?_
      rintro e w3 ⟨rfl,hb⟩
      have B3:Hid (Below w2.heap.size w2 w3):=hb
      clear hb
      go_wp2_with fail
      exact bodyPost_ret (v:=.tuple #[.slice p1 n1 c1,.int .i64 0]) (by simp [results,Tryz.results64,go_sem]) rfl ⟨rfl,B3.out⟩
    clear hG CN
    go_wp2_with fail
    refine AN.out.mono ?_
    rintro e w3 ⟨rfl,hb⟩
    have F3:Hid (EdE w0 d FM (.returned (.tuple #[.slice p1 n1 c1,.int .i64 0])) w3):=FIN.out w3 hb
    clear hb
    go_wp2_with fail
    exact bodyPost_ret (v:=.tuple #[.slice p1 n1 c1,.int .i64 0]) (by simp [results,Tryz.results30,go_sem]) rfl F3.out
  · have CN:Hid (Calls Tryz.prog 96 #[errV f] w2 fun e w'=>e=.returned (.int .i64 6)∧Below w2.heap.size w2 w'):=codeOf_full w2 E2.out f hf
    have HG:Hid (finM d ms0 ms=(ms0,6)):=by show _=_;rw [finM,hG];rfl
    have CP:Hid (∀ w3,Below w2.heap.size w2 w3→Calls Tryz.prog 25 #[.slice p0 n0 c0] w3 fun e w'=>∃ pu cu,e=.returned (.slice pu n0 cu)∧EdE w0 d FM (.returned (.tuple #[.slice pu n0 cu,.int .i64 6])) w'):=by
      intro w3 hb3
      have o3:=mods_keep O0.out (KeepOn.below hb3 (mods_lt O0.out))
      have b3:=BB.out.trans (hb3.mono BB.out.size)
      refine (copyProgram_any d w3 (· ∈ fp0) _ ms0 (mods_tree o3 (fun a ha=>ha)) (fun g hg=>⟨mods_lt o3 g hg,mods_plain o3 g hg⟩) HW0.out).mono ?_
      rintro e w4 ⟨u,fq,rfl,ho,hnd,hrg,hb⟩
      obtain ⟨pu,cu,rfl,-⟩:=id ho.shape
      refine ⟨pu,cu,by rw [hn0],?_⟩
      rw [← HFM.out,HG.out,← hn0]
      exact ⟨_,fq,rfl,ho,hnd,fun a ha=>⟨by have:=(hrg a ha).1;have:=b3.size;omega,(hrg a ha).2⟩,b3.trans (hb.mono b3.size)⟩
    have AN:Hid (Calls Tryz.prog 64 #[.slice p0 n0 c0,.slice none 0 0,errV f] w2 fun e w'=>∃ pu cu,e=.returned (.tuple #[.slice pu n0 cu,.int .i64 6])∧EdE w0 d FM (.returned (.tuple #[.slice pu n0 cu,.int .i64 6])) w'):=by
      show Calls _ _ _ _ _
      clear HFM E2 O0 O2 BB BN HE H0 H HND HB0 HW0 CK hG hn0 HG hf
      go_enter Tryz.func64,Tryz.ntmps64
      go_wp2_with fail
      refine CN.out.mono ?_
      rintro e w3 ⟨rfl,hb⟩
      have B3:Hid (Below w2.heap.size w2 w3):=hb
      clear hb
      go_wp2_with fail
      refine (CP.out w3 B3.out).mono ?_
      rintro e w4 ⟨pu,cu,rfl,hz⟩
      have HZ:Hid (EdE w0 d FM (.returned (.tuple #[.slice pu n0 cu,.int .i64 6])) w4):=hz
      clear hz
      go_wp2_with fail
      exact bodyPost_ret (v:=.tuple #[.slice pu n0 cu,.int .i64 6]) (by simp [results,Tryz.results64,go_sem]) rfl ⟨pu,cu,rfl,HZ.out⟩
    clear hG CN CP HG hf
    go_wp2_with fail
    refine AN.out.mono ?_
    rintro e w3 ⟨pu,cu,rfl,hz⟩
    have F3:Hid (EdE w0 d FM (.returned (.tuple #[.slice pu n0 cu,.int .i64 6])) w3):=hz
    clear hz
    go_wp2_with fail
    exact bodyPost_ret (v:=.tuple #[.slice pu n0 cu,.int .i64 6]) (by simp [results,Tryz.results30,go_sem]) rfl F3.out
theorem clp_rows {d:Nat} {ms:List Md} {q:Pl} {v:Value} {w:World} {gc o:Nat} {c:Cl} {S:Nat→Prop} (hP:ClP d ms q v w gc o c) (hr:Rows w S 3 (HMd w S d) v ms):∃ p1 n1 c1 p2 n2 c2,w.cell? ⟨gc,o,none⟩=some (.slice p1 n1 c1)∧w.cell? ⟨gc,o+1,none⟩=some (.slice p2 n2 c2)∧HCl w S (HEx w S d) [.slice p1 n1 c1,.slice p2 n2 c2] c:=by
  obtain ⟨gf,og,k,j,m,f,hF,i,oc,cc,hci,hck,hgc,hcell,rfl,-⟩:=hP
  obtain ⟨g0,off0,cap0,of,cf,rfl,hcl0,rfl⟩:=hF.lies
  obtain ⟨p,cap,hv,-,-,hx⟩:=hr
  obtain ⟨g,off,hp,-,-,hat⟩:=hx (by intro e;have:=hF.at_k;rw [e] at this;simp at this)
  simp only [Value.slice.injEq] at hv
  rw [hp] at hv
  simp only [Option.some.injEq,Addr.mk.injEq] at hv
  obtain ⟨⟨rfl,rfl,-⟩,-⟩:=hv
  obtain ⟨cs,-,hcs,ev,fv,rfl,-,-,hfs⟩:=hat k m hF.at_k
  have e1:=hcs 2 (by omega)
  rw [hcl0] at e1
  simp only [List.getElem?_cons_succ,List.getElem?_cons_zero,Option.some.injEq] at e1
  subst e1
  obtain ⟨p',cap',hv',-,-,hx'⟩:=hfs
  obtain ⟨g',off',hp',-,-,hat'⟩:=hx' (by intro e;have:=hF.at_j;rw [e] at this;simp at this)
  simp only [Value.slice.injEq] at hv'
  rw [hp'] at hv'
  simp only [Option.some.injEq,Addr.mk.injEq] at hv'
  obtain ⟨⟨rfl,rfl,-⟩,-⟩:=hv'
  obtain ⟨cs2,-,hcs2,cv,rfl,-,-,hcv⟩:=hat' j f hF.at_j
  have e2:=hcs2 2 (by omega)
  rw [hcell] at e2
  simp only [List.getElem?_cons_succ,List.getElem?_cons_zero,Option.some.injEq] at e2
  subst e2
  obtain ⟨p3,cap3,hv3,-,-,hx3⟩:=hcv
  obtain ⟨g3,off3,hp3,-,-,hat3⟩:=hx3 (by intro e;rw [e] at hck;simp at hck)
  simp only [Value.slice.injEq] at hv3
  rw [hp3] at hv3
  simp only [Option.some.injEq,Addr.mk.injEq] at hv3
  obtain ⟨⟨rfl,rfl,-⟩,-⟩:=hv3
  obtain ⟨cs3,-,hcs3,hcl⟩:=hat3 i c hck
  have hcl2:=hcl
  obtain ⟨pv,bv,rfl,⟨pa,ca,rfl,-⟩,⟨pb,cb,rfl,-⟩⟩:=hcl2
  have a0:=hcs3 0 (by omega)
  have a1:=hcs3 1 (by omega)
  clear hcs3
  exact ⟨_,_,_,_,_,_,by simpa using a0,by simpa using a1,hcl⟩
theorem ClP.later {d:Nat} {ms:List Md} {q:Pl} {v:Value} {w w':World} {gc o:Nat} {c:Cl} (hP:ClP d ms q v w gc o c) (hb:Below w.heap.size w w'):ClP d ms q v w' gc o c:=by
  obtain ⟨gf,og,k,j,m,f,hF,i,oc,cc,hci,hck,hgc,hcell,rfl,cs,l1,l2,l3⟩:=hP
  exact ⟨gf,og,k,j,m,f,hF.next hb,i,oc,cc,hci,hck,Nat.lt_of_lt_of_le hgc hb.size,cell_next hb hcell,rfl,cs,l1,fun i' hi'=>(hb.cell (p:=⟨gc,_,none⟩) hgc).trans (l2 i' hi'),l3.mono (SameOn.of_below hb) (fun _ h=>h) (fun _ _ h=>h.mono (SameOn.of_below hb) (fun _ h=>h))⟩
theorem renCode_ok {d:Nat} {ms:List Md} {q:Pl} {sf st:ByteArray} (h:renCode d ms q sf st=0):goodB d ms=true∧pgOk d ms=true∧varB st=true∧∃ c,clauseOf ms q=some c:=by
  unfold renCode at h
  split at h
  · cases h
  · rename_i hg
    have hg':goodB d ms=true:=by simpa using hg
    have hp:pgOk d ms=true:=by unfold goodB at hg';simp only [Bool.and_eq_true] at hg';exact hg'.1
    split at h
    · cases h
    · rename_i hs
      split at h
      · cases h
      · rename_i hv
        refine ⟨hg',hp,by simpa using hv,?_⟩
        unfold varsAt at hs
        rw [if_pos hp] at hs
        cases hc:clauseOf ms q with
        | none=>rw [hc] at hs;simp [hasT] at hs
        | some c=>exact ⟨c,rfl⟩
theorem one_first {d:Nat} {ms:List Md} (h:pgOk d ms=true) (s:ByteArray):∀ k m,ms[k]?=some m→named s m=true→(ms.take k).any (named s)=false:=by
  intro k m hk hn
  rw [List.any_eq_false]
  intro y hy hq
  obtain ⟨j,hj⟩:=List.mem_iff_getElem?.1 hy
  rw [List.getElem?_take] at hj
  split at hj
  · rename_i hjk
    have h1:=pgOk_less h hjk hj hk
    have e1:y.name.toList=s.toList:=by simpa [named] using hq
    have e2:m.name.toList=s.toList:=by simpa [named] using hn
    rw [e1,e2,less_self] at h1
    cases h1
  · cases hj
theorem varB_size {s:ByteArray} (h:varB s=true):s.size≤10:=by
  unfold varB nameB at h
  simp only [Bool.and_eq_true,decide_eq_true_eq] at h
  omega
def lawW:Nat:=2 ^ 20
theorem lawW_le:11 * lawW≤16777216:=by decide
theorem clp_first {d:Nat} {ms:List Md} {q:Pl} {v:Value} {w:World} {gc o:Nat} {c:Cl} (hP:ClP d ms q v w gc o c) (hone:∀ k m,ms[k]?=some m→named q.mod m=true→(ms.take k).any (named q.mod)=false):∃ k j i m f,FirstAt ms q k j i m f c:=by
  obtain ⟨gf,og,k,j,m,f,hF,i,oc,cc,hci,hck,hgc,hcell,rfl,-⟩:=hP
  exact ⟨k,j,i,m,f,hF.at_k,hF.nm,hone k m hF.at_k hF.nm,hF.at_j,by
    have:=List.find?_some hF.first
    exact this,hF.before,hck,hci⟩
theorem renClause_at (d:Nat) (w w6 w7:World) (v:Value) (ms:List Md) (q:Pl) (sf st:ByteArray) (fp1:List Nat) (gc o:Nat) (c:Cl) (pa pb:Option Addr) (na ca nb cb:Nat)
    (hO:ORows w6 61 3 (OMd w6 d) v ms fp1) (hnd:fp1.Nodup) (hr:∀ a ∈ fp1,w.heap.size+3≤a∧a<w6.heap.size) (hP:ClP d ms q v w6 gc o c) (hpg:pgOk d ms=true) (hs:varB st=true) (hW:11 * wtS (wtMd d) ms≤16777216)
    (hcl:HCl w6 (· ∈ fp1) (HEx w6 (· ∈ fp1) d) [.slice pa na ca,.slice pb nb cb] c) (hf:Blk w6 (w.heap.size+1) #[.string sf] 9) (ht:Blk w6 (w.heap.size+2) #[.string st] 9) (a0:w6.cell? ⟨gc,o,none⟩=some (.slice pa na ca)) (a1:w6.cell? ⟨gc,o+1,none⟩=some (.slice pb nb cb))
    (hb:Below w6.heap.size w6 w7) (hm:MapSt w7 (w6.heap.size+1) #[]) (hs7:w7.heap.size=w6.heap.size+2) (hB:Below w.heap.size w w6) :
    Calls Tryz.prog 29 #[.agg #[.func (.func 28) #[] #[.pointer (some ⟨w.heap.size+1,0,none⟩),.pointer (some ⟨w.heap.size+2,0,none⟩)],.map (some (w6.heap.size+1))],.agg #[.slice pa na ca,.slice pb nb cb]] w7 fun e w8 =>
      ∃ p1 n1 q1 p2 n2 q2,e=.returned (.agg #[.slice p1 n1 q1,.slice p2 n2 q2])∧w8.cell? ⟨gc,o,none⟩=some (.slice pa na ca)∧w8.cell? ⟨gc,o+1,none⟩=some (.slice pb nb cb)∧w8.frozen? ⟨gc,o,none⟩=false∧w8.frozen? ⟨gc,o+1,none⟩=false ∧
        Hid (∃ fp',ORows ((w8.setCell ⟨gc,o,none⟩ (.slice p1 n1 q1)).setCell ⟨gc,o+1,none⟩ (.slice p2 n2 q2)) 61 3 (OMd ((w8.setCell ⟨gc,o,none⟩ (.slice p1 n1 q1)).setCell ⟨gc,o+1,none⟩ (.slice p2 n2 q2)) d) v (setAt ms q (mapC (fT (ftV sf st)) d)) fp'∧fp'.Nodup∧(∀ a ∈ fp',w.heap.size≤a)∧wtS (wtMd d) (setAt ms q (mapC (fT (ftV sf st)) d))≤16777216 ∧
          Below w.heap.size w ((w8.setCell ⟨gc,o,none⟩ (.slice p1 n1 q1)).setCell ⟨gc,o+1,none⟩ (.slice p2 n2 q2))):=by
  have hst:okS st:=by have:=varB_size hs;unfold okS maxLen;omega
  have hwt:wtCl (wtEx d) c≤16777216:=by
    obtain ⟨k,j,i,m,f,hF⟩:=clp_first hP (one_first hpg q.mod)
    have:=hF.clause (d:=d);omega
  have CLS:=RemG.clause (chgV (w6.heap.size+2) (w6.heap.size+1) (w.heap.size+1) (w.heap.size+2) sf st) (fun k t m n h=>ftV_ok hst h) d
  unfold RemG.ClR RemG.RV at CLS
  have hsm:SameOn (· ∈ fp1) w6 w7:=SameOn.of_below hb
  have hcl7:HCl w7 (· ∈ fp1) (HEx w7 (· ∈ fp1) d) [.slice pa na ca,.slice pb nb cb] c:=hcl.mono hsm (fun _ h=>h) (fun _ _ h=>h.mono hsm (fun _ h=>h))
  have hwl:=ht.lt
  have hctx:Ctx (CapV (w6.heap.size+2) (w6.heap.size+1) (w.heap.size+1) (w.heap.size+2) sf st) w7 (w6.heap.size+2) (w6.heap.size+1) (· ∈ fp1) #[] (SizeOf.sizeOf c):=by
    refine ⟨fun g hg=>?_,hm,KeysIn.none _ _ _,by omega,by omega,hf.next hb,ht.next hb,by omega,by omega,by omega,by omega⟩
    have h1:=hr g hg
    obtain ⟨cs,t,h2⟩:=mods_plain hO g hg
    exact ⟨by omega,by omega,cs,t,(hb.block g h1.2).trans h2⟩
  refine (CLS w7 (w6.heap.size+2) (w6.heap.size+1) (· ∈ fp1) #[] (SizeOf.sizeOf c) _ c (capV _ _ _ _ _ _) hctx hcl7 (Nat.le_refl _) hwt).mono ?_
  rintro e w8 ⟨u,fq,rfl,⟨cs',rfl,hx⟩,hqn,hqr,hof,-⟩
  obtain ⟨p1,n1,q1,p2,n2,q2,rfl⟩:=OCls.shape hx
  have hb8:Below w6.heap.size w6 w8:=hb.trans (hof.below hb.size (by omega))
  have hO8:=mods_keep hO (KeepOn.below hb8 (mods_lt hO))
  have hP8:=hP.later hb8
  have hdis:∀ a ∈ fq,a ∉ fp1:=fun a ha hm=>by have:=(hqr a ha).1;have:=(hr a hm).2;omega
  obtain ⟨hgc,k,j,i,m,f,hF,fp',ho,hn',hsub⟩:=prog_set hO8 hnd hP8 (pgOk_one hpg) (one_first hpg q.mod) hx hqn hdis
  have hg:=hr gc hgc
  have hset:=hF.set (mapC (fT (ftV sf st)) d)
  obtain ⟨cs0,t0,h0⟩:=mods_plain hO8 gc hgc
  have hB8:Below w.heap.size w w8:=hB.trans (hb8.mono hB.size)
  refine ⟨p1,n1,q1,p2,n2,q2,rfl,(hb8.cell (p:=⟨gc,o,none⟩) hg.2).trans a0,(hb8.cell (p:=⟨gc,o+1,none⟩) hg.2).trans a1,Blk.frozen (cs:=cs0) (t:=t0) h0 _,Blk.frozen (cs:=cs0) (t:=t0) h0 _,fp',by rw [hset];exact ho,hn',fun a ha=>?_,by rw [hset];have:=ren_wt (d:=d) hF sf st (varB_size hs);omega,(hB8.setCell (p:=⟨gc,o,none⟩) (by show _≤gc;omega) _).setCell (p:=⟨gc,o+1,none⟩) (by show _≤gc;omega) _⟩
  rcases hsub a ha with h | h
  · have:=(hr a h).1;omega
  · have:=(hqr a h).1;omega
theorem implRenameVar_any (d:Nat) (w:World) (v:Value) (ms:List Md) (q:Pl) (sf st:ByteArray) (fp0:List Nat) (hT:Tabs w) (hE:ErrsAt w) (h:ORows w 61 3 (OMd w d) v ms fp0) (hw:wtS (wtMd d) ms≤lawW) (hst:st.size≤maxLen) :
    Calls Tryz.prog 9 #[v,.agg #[.string q.mod,.string q.name,.int .i64 q.arity,.int .i64 q.clause],.string sf,.string st] w fun e w'=>EdE w d (renVar d ms q sf st) e w':=by
  have HTAB:Hid (Tabs w):=hT
  have HEE:Hid (ErrsAt w):=hE
  have H0:Hid (∀ w',Below w.heap.size w w'→ORows w' 61 3 (OMd w' d) v ms fp0):=fun w' hb=>mods_keep h (KeepOn.below hb (mods_lt h))
  have HW:Hid (wtS (wtMd d) ms≤16777216):=Nat.le_trans hw (Nat.le_trans (by unfold lawW;decide) lawW_le)
  have HW2:Hid (11 * wtS (wtMd d) ms≤16777216):=Nat.le_trans (Nat.mul_le_mul_left _ hw) lawW_le
  have HST:Hid (st.size≤maxLen):=hst
  obtain ⟨p0,c0,rfl,-⟩:=h.shape
  obtain ⟨W3,hW3⟩:∃ W3,W3=((w.alloc (.cells #[.string q.mod,.string q.name,.int .i64 q.arity,.int .i64 q.clause] 31)).alloc (.cells #[.string sf] 9)).alloc (.cells #[.string st] 9):=⟨_,rfl⟩
  have HW3:Hid (W3=((w.alloc (.cells #[.string q.mod,.string q.name,.int .i64 q.arity,.int .i64 q.clause] 31)).alloc (.cells #[.string sf] 9)).alloc (.cells #[.string st] 9)):=hW3
  have B3:Hid (Below w.heap.size w W3):=by show Below _ _ _;rw [hW3];exact (((Below.refl _ _).alloc (Nat.le_refl _) _).alloc (by simp) _).alloc (by simp only [alloc_hs];omega) _
  have S3:Hid (W3.heap.size=w.heap.size+3):=by show _=_;rw [hW3,alloc_hs,alloc_hs,alloc_hs]
  have q3:Hid (Blk W3 w.heap.size #[.string q.mod,.string q.name,.int .i64 q.arity,.int .i64 q.clause] 31):=by show Blk _ _ _ _;rw [hW3];exact Blk.new.alloc.alloc
  have f3:Hid (Blk W3 (w.heap.size+1) #[.string sf] 9):=by
    have:=Blk.new (w:=w.alloc (.cells #[.string q.mod,.string q.name,.int .i64 q.arity,.int .i64 q.clause] 31)) (cs:=#[.string sf]) (t:=9)
    rw [alloc_hs] at this
    show Blk _ _ _ _;rw [hW3];exact this.alloc
  have t3:Hid (Blk W3 (w.heap.size+2) #[.string st] 9):=by
    have:=Blk.new (w:=(w.alloc (.cells #[.string q.mod,.string q.name,.int .i64 q.arity,.int .i64 q.clause] 31)).alloc (.cells #[.string sf] 9)) (cs:=#[.string st]) (t:=9)
    rw [alloc_hs,alloc_hs] at this
    show Blk _ _ _ _;rw [hW3];exact this
  have CC:Hid (Calls Tryz.prog 24 #[.slice p0 ms.length c0,.agg #[.string q.mod,.string q.name,.int .i64 q.arity,.int .i64 q.clause],.string sf,.string st] W3 fun e w'=>e=.returned (.int .i64 (renCode d ms q sf st))∧Below W3.heap.size W3 w'):=renameVarCode_any d W3 _ ms q sf st (HTAB.out.below B3.out) (mods_tree (H0.out _ B3.out) (fun _ _=>trivial)) HW.out HST.out
  have HRV:Hid (renVar d ms q sf st=if renCode d ms q sf st=0 then finM d ms (setAt ms q (mapC (fT (ftV sf st)) d)) else (ms,renCode d ms q sf st)):=rfl
  have HRC:Hid (renCode d ms q sf st=0→goodB d ms=true∧pgOk d ms=true∧varB st=true∧∃ c,clauseOf ms q=some c):=renCode_ok
  have y0:=q3.out.cell 0 _ rfl
  have y1:=q3.out.cell 1 _ rfl
  have y2:=q3.out.cell 2 _ rfl
  have y3:=q3.out.cell 3 _ rfl
  have x0:=f3.out.cell 0 _ rfl
  have z0:=t3.out.cell 0 _ rfl
  clear hW3 hT h hw hst
  generalize hRR:renVar d ms q sf st=RR at *
  clear hRR
  go_enter Tryz.func9,Tryz.ntmps9
  go_wp2_with fail
  rw [← HW3.out]
  refine CC.out.mono ?_
  rintro e w4 ⟨rfl,hb⟩
  have K4:Hid (Below W3.heap.size W3 w4):=hb
  have B4:Hid (Below w.heap.size w w4):=B3.out.trans (hb.mono B3.out.size)
  have q4:Hid (Blk w4 w.heap.size #[.string q.mod,.string q.name,.int .i64 q.arity,.int .i64 q.clause] 31):=q3.out.next hb
  have f4:Hid (Blk w4 (w.heap.size+1) #[.string sf] 9):=f3.out.next hb
  have t4:Hid (Blk w4 (w.heap.size+2) #[.string st] 9):=t3.out.next hb
  have CP:Hid (Calls Tryz.prog 25 #[.slice p0 ms.length c0] w4 fun e w'=>∃ u fp,e=.returned u∧ORows w' 61 3 (OMd w' d) u ms fp∧fp.Nodup∧(∀ a ∈ fp,w4.heap.size≤a∧a<w'.heap.size)∧Below w4.heap.size w4 w'):=copyProgram_any d w4 (· ∈ fp0) _ ms (mods_tree (H0.out _ B4.out) (fun a ha=>ha)) (fun g hg=>⟨mods_lt (H0.out _ B4.out) g hg,mods_plain (H0.out _ B4.out) g hg⟩) HW.out
  clear hb y0 y1 y2 y3 x0 z0 CC
  by_cases hz:renCode d ms q sf st=0
  · obtain ⟨hg,hp,hvb,c,hc⟩:=HRC.out hz
    have HX:Hid (RR=finM d ms (setAt ms q (mapC (fT (ftV sf st)) d))):=by show _=_;rw [HRV.out,if_pos hz]
    have HPG:Hid (pgOk d ms=true):=hp
    have HVB:Hid (varB st=true):=hvb
    have HCL:Hid (clauseOf ms q=some c):=hc
    rw [hz]
    clear hg hp hvb hc hz HRC HRV
    go_wp2_with fail
    refine CP.out.mono ?_
    rintro e w5 ⟨u5,fp1,rfl,ho5,hnd5,hrg5,hb5⟩
    obtain ⟨p1,c1,hu5,-⟩:=ho5.shape
    subst hu5
    have O5:Hid (ORows w5 61 3 (OMd w5 d) (.slice p1 ms.length c1) ms fp1):=ho5
    have ND5:Hid (fp1.Nodup∧∀ a ∈ fp1,w4.heap.size≤a∧a<w5.heap.size):=⟨hnd5,hrg5⟩
    have B5:Hid (Below w.heap.size w w5):=B4.out.trans (hb5.mono B4.out.size)
    have q5:Hid (Blk w5 w.heap.size #[.string q.mod,.string q.name,.int .i64 q.arity,.int .i64 q.clause] 31):=q4.out.next hb5
    have f5:Hid (Blk w5 (w.heap.size+1) #[.string sf] 9):=f4.out.next hb5
    have t5:Hid (Blk w5 (w.heap.size+2) #[.string st] 9):=t4.out.next hb5
    have S45:Hid (w4.heap.size≤w5.heap.size):=hb5.size
    have y0:=q5.out.cell 0 _ rfl
    have y1:=q5.out.cell 1 _ rfl
    have y2:=q5.out.cell 2 _ rfl
    have y3:=q5.out.cell 3 _ rfl
    clear ho5 hnd5 hrg5 hb5
    go_wp2_with fail
    refine (clauseAt_any d w5 _ ms q (mods_tree O5.out (fun _ _=>trivial)) (pgOk_one HPG.out)).mono ?_
    rintro e w6 ⟨hq6,hb6⟩
    have K6:Hid (Below w5.heap.size w5 w6):=hb6
    have B6:Hid (Below w.heap.size w w6):=B5.out.trans (hb6.mono B5.out.size)
    have O6:Hid (ORows w6 61 3 (OMd w6 d) (.slice p1 ms.length c1) ms fp1):=mods_keep O5.out (KeepOn.below hb6 (mods_lt O5.out))
    have f6:Hid (Blk w6 (w.heap.size+1) #[.string sf] 9):=f5.out.next hb6
    have t6:Hid (Blk w6 (w.heap.size+2) #[.string st] 9):=t5.out.next hb6
    clear hb6 y0 y1 y2 y3
    rcases hq6 with ⟨rfl,hno⟩ | ⟨gc,o,c',rfl,hc',hP6⟩
    · rw [HCL.out] at hno
      cases hno
    have ec:c'=c:=Option.some.inj (hc'.symm.trans HCL.out)
    subst ec
    have P6:Hid (ClP d ms q (.slice p1 ms.length c1) w6 gc o c'):=hP6
    obtain ⟨pa,na,ca,pb,nb,cb,a0,a1,hcl6⟩:=clp_rows hP6 (mods_tree O6.out (S:=(· ∈ fp1)) (fun a ha=>ha))
    have A0:Hid (w6.cell? ⟨gc,o,none⟩=some (.slice pa na ca)∧w6.cell? ⟨gc,o+1,none⟩=some (.slice pb nb cb)):=⟨a0,a1⟩
    have HC6:Hid (HCl w6 (· ∈ fp1) (HEx w6 (· ∈ fp1) d) [.slice pa na ca,.slice pb nb cb] c'):=hcl6
    have CL:Hid (∀ w7,Below w6.heap.size w6 w7→MapSt w7 (w6.heap.size+1) #[]→w7.heap.size=w6.heap.size+2→Calls Tryz.prog 29 #[.agg #[.func (.func 28) #[] #[.pointer (some ⟨w.heap.size+1,0,none⟩),.pointer (some ⟨w.heap.size+2,0,none⟩)],.map (some (w6.heap.size+1))],.agg #[.slice pa na ca,.slice pb nb cb]] w7 fun e w8 =>
      ∃ p2 n2 q2 p3 n3 q3,e=.returned (.agg #[.slice p2 n2 q2,.slice p3 n3 q3])∧w8.cell? ⟨gc,o,none⟩=some (.slice pa na ca)∧w8.cell? ⟨gc,o+1,none⟩=some (.slice pb nb cb)∧w8.frozen? ⟨gc,o,none⟩=false∧w8.frozen? ⟨gc,o+1,none⟩=false ∧
        Hid (∃ fp',ORows ((w8.setCell ⟨gc,o,none⟩ (.slice p2 n2 q2)).setCell ⟨gc,o+1,none⟩ (.slice p3 n3 q3)) 61 3 (OMd ((w8.setCell ⟨gc,o,none⟩ (.slice p2 n2 q2)).setCell ⟨gc,o+1,none⟩ (.slice p3 n3 q3)) d) (.slice p1 ms.length c1) (setAt ms q (mapC (fT (ftV sf st)) d)) fp'∧fp'.Nodup∧(∀ a ∈ fp',w.heap.size≤a)∧wtS (wtMd d) (setAt ms q (mapC (fT (ftV sf st)) d))≤16777216 ∧
          Below w.heap.size w ((w8.setCell ⟨gc,o,none⟩ (.slice p2 n2 q2)).setCell ⟨gc,o+1,none⟩ (.slice p3 n3 q3)))):=fun w7 hb hm hs=>renClause_at d w w6 w7 _ ms q sf st fp1 gc o c' pa pb na ca nb cb O6.out ND5.out.1 (fun a ha=>⟨by have:=(ND5.out.2 a ha).1;have:=S3.out;have:=K4.out.size;omega,by have:=(ND5.out.2 a ha).2;have:=K6.out.size;omega⟩) P6.out HPG.out HVB.out HW2.out HC6.out f6.out t6.out A0.out.1 A0.out.2 hb hm hs B6.out
    clear hc' hP6 a0 a1 hcl6
    go_wp2_with fail
    have a0:=A0.out.1
    have a1:=A0.out.2
    go_region_law
      (first
        | (go_simp;go_at_call 27;refine (remake_any _ _ _ _).mono ?_;rintro e w7 ⟨rfl,hm7,hb,hs7⟩;have M7:Hid (MapSt w7 (w6.heap.size+1) #[]):=hm7;have K7:Hid (Below w6.heap.size w6 w7):=(by first | exact hb | exact ⟨hb.os,hb.tape,hb.output,hb.size,hb.block⟩);have S7:Hid (w7.heap.size=w6.heap.size+2):=hs7;have e0:=cell_next K7.out a0;have e1:=cell_next K7.out a1;clear hm7 hs7 hb;dsimp only)
        | (go_simp;go_at_call 29;refine (CL.out w7 K7.out M7.out S7.out).mono ?_;rintro e w8 ⟨p2,n2,q2,p3,n3,q3,rfl,i0,i1,j0,j1,h9⟩;dsimp only))
    all_goals
      obtain ⟨fp9,o9,nd9,rg9,wt9,b9⟩:=h9.out
      have FIN:=finished_any d w _ (.slice p0 ms.length c0) (.slice p1 ms.length c1) ms (setAt ms q (mapC (fT (ftV sf st)) d)) fp0 fp9 (HTAB.out.below b9) (HEE.out.below b9) (H0.out _ b9) o9 nd9 rg9 b9 HW.out wt9
      rw [← HX.out] at FIN
      have HFIN:Hid (Calls Tryz.prog 30 #[.slice p0 ms.length c0,.slice p1 ms.length c1] ((w8.setCell ⟨gc,o,none⟩ (.slice p2 n2 q2)).setCell ⟨gc,o+1,none⟩ (.slice p3 n3 q3)) fun e w'=>EdE w d RR e w'):=FIN
      clear o9 nd9 rg9 wt9 b9 FIN h9 a0 a1 e0 e1 i0 i1 j0 j1
      go_wp2_with fail
      refine HFIN.out.mono ?_
      rintro e w10 ⟨u,fpz,rfl,hz⟩
      have HZ:Hid (EdE w d RR (.returned (.tuple #[u,.int .i64 RR.2])) w10):=⟨u,fpz,rfl,hz⟩
      obtain ⟨pz,cz,hpz,-⟩:=hz.1.shape
      subst hpz
      clear hz
      go_wp2_with fail
      exact bodyPost_ret (v:=.tuple #[_,.int .i64 RR.2]) (by simp [results,Tryz.results9,go_sem]) rfl HZ.out
  · have HX:Hid (RR=(ms,renCode d ms q sf st)):=by show _=_;rw [HRV.out,if_neg hz]
    generalize renCode d ms q sf st=rc at *
    go_wp2_with fail
    refine CP.out.mono ?_
    rintro e w5 ⟨u,fp,rfl,ho,hnd,hrg,hb⟩
    obtain ⟨pu,cu,rfl,-⟩:=ho.shape
    have FIN:Hid (EdE w d RR (.returned (.tuple #[.slice pu ms.length cu,.int .i64 rc])) w5):=by
      show EdE _ _ _ _ _
      rw [HX.out]
      exact ⟨_,fp,rfl,ho,hnd,fun a ha=>⟨by have:=(hrg a ha).1;have:=B4.out.size;omega,(hrg a ha).2⟩,B4.out.trans (hb.mono B4.out.size)⟩
    clear ho hnd hrg hb
    go_wp2_with fail
    exact bodyPost_ret (v:=.tuple #[.slice pu ms.length cu,.int .i64 rc]) (by simp [results,Tryz.results9,go_sem]) rfl FIN.out
section
open Go.Proofs.Tryz
theorem prog_at {w:World} {d:Nat} {ms:List Md} {q:Pl} {v:Value} {fp:List Nat} {k j i:Nat} {m:Md} {f:Fn'} {c:Cl} (h:ORows w 61 3 (OMd w d) v ms fp) (hnd:fp.Nodup) (hF:FirstAt ms q k j i m f c) (hff:m.funs.find? (sameR ⟨q.name,q.arity⟩)=some f) :
 ∃ g0 c0 gf cf gc cc,v=.slice (some ⟨g0,0,none⟩) ms.length c0/\w.cell? ⟨g0,k * 3+2,none⟩=some (.slice (some ⟨gf,0,none⟩) m.funs.length cf)/\w.cell? ⟨gf,j * 3+2,none⟩=some (.slice (some ⟨gc,0,none⟩) f.clauses.length cc)/\g0 ∈ fp/\gf ∈ fp/\gc ∈ fp/\g0≠gc/\gf≠gc/\ClP d ms q v w gc (i * 2) c:=by
 obtain ⟨g0,c0,cs1,f1,hv,hg0,hs1,hg0f,hnd1,hl1,hcs1,hr1,-⟩:=h.through hnd hF.at_k;obtain ⟨ev,fv,fa,fb,rfl,rfl,ok1,hev,hfv⟩:=hr1;have e1:=hcs1 2 (by omega);simp only [List.getElem?_cons_succ,List.getElem?_cons_zero] at e1;rw [List.nodup_append] at hnd1;obtain ⟨ndA,ndB,disAB⟩:=hnd1;obtain ⟨gf,cf,cs2,f2,hv2,hgf,hs2,hgff,hnd2,hl2,hcs2,hr2,-⟩:=hfv.through ndB hF.at_j;have HFn:HFn w All d cs2 f:=hr2.tree (λ_ _=>trivial);obtain ⟨cv,rfl,ok2,ok3,hcv⟩:=hr2;have e2:=hcs2 2 (by omega);simp only [List.getElem?_cons_succ,List.getElem?_cons_zero] at e2;obtain ⟨gc,cc,cs3,f3,hv3,hgc,hs3,hgcf,hnd3,hl3,hcs3,hr3,-⟩:=hcv.through hnd2 hF.at_i;subst hv2;subst hv3;have m2:gf ∈ fa ++ fb:=List.mem_append_right _ hgf;have m3:gc ∈ fa ++ fb:=List.mem_append_right _ (hs2 gc hgc);have glt:gf<w.heap.size:=mods_lt h gf (hs1 gf m2);have gclt:gc<w.heap.size:=mods_lt h gc (hs1 gc m3);refine ⟨g0,c0,gf,cf,gc,cc,hv,e1,e2,hg0,hs1 gf m2,hs1 gc m3,λe=>hg0f (e ▸ m3),λe=>hgff (e ▸ hgc),gf,j * 3,k,j,m,f,⟨hF.at_k,hF.nm,hF.at_j,hff,hF.bj,glt,⟨g0,0,c0,0,cf,hv,by rw [Nat.zero_add];exact e1,by rw [Nat.zero_add]⟩,⟨_,rfl,λt ht=>hcs2 t ht,HFn⟩⟩,i,0,cc,hF.ci,hF.at_i,gclt,e2,by rw [Nat.zero_add],cs3,hl3,λt ht=>hcs3 t ht,OCls.tree hr3 (λ_ _=>trivial)⟩
theorem renClauseS_at (d:Nat) (w w6 w7:World) (v fv tv:Value) (ms:List Md) (q:Pl) (sf st:ByteArray) (fp1:List Nat) (gc i:Nat) (c:Cl) (pv bv:Value)
 (hO:ORows w6 61 3 (OMd w6 d) v ms fp1) (hnd:fp1.Nodup) (hr:∀ a ∈ fp1,w.heap.size<=a/\a<w6.heap.size) (hP:ClP d ms q v w6 gc (i * 2) c) (hpg:pgOk d ms=true) (hs:varB st=true) (hW:11 * wtS (wtMd d) ms<=16777216)
 (hcl:HCl w7 All (HEx w7 All d) [pv,bv] c) (hcap:CapL w7 fv tv [sf] [st])
 (hb:Bz w6 w7) (hB:Bz w w6) :
 Calls prog 21 #[.agg #[pv,bv],fv,tv] w7 λe w8 =>
  ∃ p1 n1 q1 p2 n2 q2 x0 x1,e=.returned (.agg #[.slice p1 n1 q1,.slice p2 n2 q2])/\w8.cell? ⟨gc,i * 2,none⟩=some x0/\w8.cell? ⟨gc,i * 2+1,none⟩=some x1/\w8.frozen? ⟨gc,i * 2,none⟩=false/\w8.frozen? ⟨gc,i * 2+1,none⟩=false/\Hid (Bz w7 w8) /\
   Hid (∃ fp',ORows ((w8.setCell ⟨gc,i * 2,none⟩ (.slice p1 n1 q1)).setCell ⟨gc,i * 2+1,none⟩ (.slice p2 n2 q2)) 61 3 (OMd ((w8.setCell ⟨gc,i * 2,none⟩ (.slice p1 n1 q1)).setCell ⟨gc,i * 2+1,none⟩ (.slice p2 n2 q2)) d) v (setAt ms q (mapC (fT (ftV sf st)) d)) fp'/\fp'.Nodup/\(∀ a ∈ fp',w.heap.size<=a)/\wtS (wtMd d) (setAt ms q (mapC (fT (ftV sf st)) d))<=16777216 /\
    Bz w ((w8.setCell ⟨gc,i * 2,none⟩ (.slice p1 n1 q1)).setCell ⟨gc,i * 2+1,none⟩ (.slice p2 n2 q2))):=by
 have hwt:wtCl (wtEx d) c<=16777216:=by
  obtain ⟨k,j,i,m,f,hF⟩:=clp_first hP (one_first hpg q.mod);have:=hF.clause (d:=d);omega
 have CL:=CpV.clause (fv:=fv) (tv:=tv) (fs:=[sf]) (ts:=[st]) d w7 [pv,bv] c hcap hcl hwt;rw [ftL_one] at CL;refine CL.mono ?_;rintro e w8 ⟨u,fq,rfl,⟨cs',rfl,hx⟩,hqn,hqr,hb8'⟩;obtain ⟨p1,n1,q1,p2,n2,q2,rfl⟩:=OCls.shape hx;have hb8:Bz w6 w8:=hb.trans (hb8'.mono hb.size);have hO8:=mods_keep hO (KeepOn.below hb8 (mods_lt hO));have hP8:=hP.later hb8
 have hdis:∀ a ∈ fq,a ∉ fp1:=λa ha hm=>by have:=(hqr a ha).1;have:=(hr a hm).2;have:=hb.size;omega
 obtain ⟨hgc,k,j,i',m,f,hF,fp',ho,hn',hsub⟩:=prog_set hO8 hnd hP8 (pgOk_one hpg) (one_first hpg q.mod) hx hqn hdis;have hg:=hr gc hgc;have hset:=hF.set (mapC (fT (ftV sf st)) d);obtain ⟨cs0,t0,h0⟩:=mods_plain hO8 gc hgc;have hB8:Bz w w8:=hB.trans (hb8.mono hB.size);obtain ⟨p1',n1',c1',p2',n2',c2',a0,a1,-⟩:=clp_rows hP8 (mods_tree hO8 (S:=(· ∈ fp1)) (λa ha=>ha));refine ⟨p1,n1,q1,p2,n2,q2,_,_,rfl,a0,a1,Blk.frozen (cs:=cs0) (t:=t0) h0 _,Blk.frozen (cs:=cs0) (t:=t0) h0 _,hb8',fp',by rw [hset];exact ho,hn',λa ha=>?_,by rw [hset];have:=ren_wt (d:=d) hF sf st (varB_size hs);omega,(hB8.setCell (p:=⟨gc,i * 2,none⟩) (by show _<=gc;omega) _).setCell (p:=⟨gc,i * 2+1,none⟩) (by show _<=gc;omega) _⟩
 rcases hsub a ha with h | h
 . exact (hr a h).1
 . have:=(hqr a h).1;have:=hb.size;have:=hB.size;omega
theorem l07Done_any (d:Nat) (w0 w:World) (v0 v:Value) (ms0 ms:List Md) (fp:List Nat) (h0:Rows w All 3 (HMd w All d) v0 ms0) (h:ORows w 61 3 (OMd w d) v ms fp) (hnd:fp.Nodup) (hrg:∀ a ∈ fp,w0.heap.size<=a) (hb0:Bz w0 w)
 (hw0:wtS (wtMd d) ms0<=16777216) (hw:wtS (wtMd d) ms<=16777216) :
 Calls prog 22 #[v0,v] w λe w'=>EdE w0 d (finM d ms0 ms) e w':=by
 have H0:=hid h0;have H:=hid h;have HND:Hid (fp.Nodup/\∀ a ∈ fp,w0.heap.size<=a):=⟨hnd,hrg⟩;have HB0:=hid hb0;have HW0:=hid hw0;have HW:=hid hw;obtain ⟨p0,c0,rfl,-⟩:=h0;obtain ⟨p1,c1,rfl,-⟩:=h.shape;clear h hnd hrg hb0 hw0 hw;go_enter func22,ntmps22;go_wp2_with fail;refine (specGood_any d w _ ms (mods_tree H.out (λ_ _=>trivial)) HW.out).mono ?_;rintro e w2 ⟨rfl,hb⟩;have BB:=hid (HB0.out.trans (hb.mono HB0.out.size));have O2:=hid (mods_keep H.out (KeepOn.below hb (mods_lt H.out)));have O0:=hid (H0.out.mono (sqO hb) sqj (λ_ _ _ h=>h.mono (sqO hb) sqj));clear hb
 cases hG:goodB d ms with
 | true =>
  have FIN:Hid (EdE w0 d (finM d ms0 ms) (.returned (.tuple #[.slice p1 ms.length c1,.int .i64 0])) w2):=by
   show EdE _ _ _ _ _;rw [finM,hG,if_pos rfl];exact ⟨_,fp,rfl,O2.out,HND.out.1,λa ha=>⟨HND.out.2 a ha,mods_lt O2.out a ha⟩,BB.out⟩
  clear hG;go_wp2_with fail;exact bodyPost_ret (v:=.tuple #[.slice p1 ms.length c1,.int .i64 0]) (by simp [results,results22,go_sem]) rfl FIN.out
 | false =>
  have HG:=hid hG;clear hG;go_wp2_with fail;refine (l07Copy_any d w2 _ ms0 O0.out HW0.out).mono ?_;rintro e w3 ⟨u,fq,rfl,ho,hnd,hrg,hb⟩;obtain ⟨pu,cu,rfl,-⟩:=ho.shape
  have FIN:Hid (EdE w0 d (finM d ms0 ms) (.returned (.tuple #[.slice pu ms0.length cu,.int .i64 6])) w3):=by
   show EdE _ _ _ _ _;rw [finM,HG.out,if_neg (by simp)];exact ⟨_,fq,rfl,ho,hnd,λa ha=>⟨by have:=(hrg a ha).1;have:=BB.out.size;omega,(hrg a ha).2⟩,BB.out.trans (hb.mono BB.out.size)⟩
  clear ho hnd hrg hb;go_wp2_with fail;exact bodyPost_ret (v:=.tuple #[.slice pu ms0.length cu,.int .i64 6]) (by simp [results,results22,go_sem]) rfl FIN.out
theorem strR_one {w:World} {g:Nat} {s:ByteArray} (h:Blk w g #[.string s] 9) (hs:okS s):StrR w (.slice (some ⟨g,0,none⟩) 1 1) [s]:=by
 refine ⟨_,1,rfl,Nat.le_refl _,by unfold maxLen;omega,fun _=>⟨g,0,rfl,trivial,h.lt,fun i x hi=>?_⟩⟩
 cases i with
 | succ i=>simp at hi
 | zero =>
  simp at hi;subst hi;refine ⟨[.string s],rfl,fun j hj=>?_,rfl,hs⟩;obtain rfl:j=0:=(by omega);exact h.cell 0 _ rfl
theorem specRenameVar_any (d:Nat) (w:World) (v:Value) (ms:List Md) (q:Pl) (sf st:ByteArray) (h:Rows w All 3 (HMd w All d) v ms) (hw:wtS (wtMd d) ms≤lawW) (hst:okS st) (hsf:okS sf) :
 Calls prog 6 #[v,.agg #[.string q.mod,.string q.name,.int .i64 q.arity,.int .i64 q.clause],.string sf,.string st] w fun e w'=>EdE w d (renVar d ms q sf st) e w':=by
 obtain ⟨qm,qn,qa,qc⟩:=q;simp only at *;have HR:Hid (∀ w',Bz w w'→Rows w' All 3 (HMd w' All d) v ms):=fun w' hw=>h.mono (sqO hw) (fun _ h=>h) (fun _ _ _ h=>h.mono (sqO hw) (fun _ h=>h));have HW:=hid (Nat.le_trans hw (Nat.le_trans (by unfold lawW;decide) lawW_le));have HW2:=hid (Nat.le_trans (Nat.mul_le_mul_left _ hw) lawW_le);have HST:Hid (okS st∧okS sf):=⟨hst,hsf⟩;obtain ⟨W1,hW1⟩:∃ W1,W1=w.alloc (.cells #[.string qm,.string qn,.int .i64 qa,.int .i64 qc] 31):=⟨_,rfl⟩;have bA:Hid (Blk W1 w.heap.size #[.string qm,.string qn,.int .i64 qa,.int .i64 qc] 31):=(by show Blk _ _ _ _;rw [hW1];exact Blk.new);have B1:Hid (Bz w W1):=(by show Below _ _ _;rw [hW1];exact (sqN _ _));have S1:Hid (W1.heap.size=w.heap.size+1):=(by show _=_;rw [hW1,alloc_hs]);have HW1:=hid hW1;have HRV:Hid (renVar d ms ⟨qm,qn,qa,qc⟩ sf st=if renCode d ms ⟨qm,qn,qa,qc⟩ sf st=0 then finM d ms (setAt ms ⟨qm,qn,qa,qc⟩ (mapC (fT (ftV sf st)) d)) else (ms,renCode d ms ⟨qm,qn,qa,qc⟩ sf st)):=rfl;have HRC:Hid (renCode d ms ⟨qm,qn,qa,qc⟩ sf st=if goodB d ms=false then 1 else if hasT (varsAt d ms ⟨qm,qn,qa,qc⟩) sf=false then 2 else if varB st=false then 3 else if hasT (varsAt d ms ⟨qm,qn,qa,qc⟩) st=true then 4 else 0):=rfl
 have HV:Hid (goodB d ms=true→pgOk d ms=true∧varsAt d ms ⟨qm,qn,qa,qc⟩=(match clauseOf ms ⟨qm,qn,qa,qc⟩ with | none=>[] | some c=>sortS (clauseVars d c))):=fun hg=>by
  have hp:pgOk d ms=true:=(by unfold goodB at hg;simp only [Bool.and_eq_true] at hg;exact hg.1);refine ⟨hp,?_⟩;unfold varsAt;rw [if_pos hp];rfl
 have HLV:Hid (∀ s ∈ varsAt d ms ⟨qm,qn,qa,qc⟩,okS s):=varsAt_ok h _;obtain ⟨p,cap,rfl,-⟩:=h;generalize hRR:renVar d ms ⟨qm,qn,qa,qc⟩ sf st=RR at *;clear hRR hW1 hw hst hsf;go_enter func6,ntmps6;go_wp2_with fail;rw [← HW1.out];refine (l07Copy_any d W1 _ ms (HR.out _ B1.out) HW.out).mono ?_;rintro e w2 ⟨u,fpo,rfl,ho,hnd,hrg,hb⟩;obtain ⟨po,co,hu,-⟩:=ho.shape;subst hu;have B2:=hid (B1.out.trans (hb.mono B1.out.size));have b2:=hid (bA.out.next hb);have O2:=hid ho;have NDO:Hid (fpo.Nodup∧∀ a ∈ fpo,w.heap.size+1≤a∧a<w2.heap.size):=⟨hnd,fun a ha=>⟨by have:=(hrg a ha).1;have:=S1.out;omega,(hrg a ha).2⟩⟩;obtain ⟨y0,y1,y2,y3⟩:=sqB4 b2.out;clear ho hnd hrg hb;go_wp2_with fail;refine (l07Clause_any d w2 _ ms ⟨qm,qn,qa,qc⟩ (HR.out _ B2.out)).mono ?_;rintro e w3 ⟨⟨pv,bv,ok,rfl,hr⟩,hb⟩;have HCR:=hid hr;have B3:=hid (B2.out.trans (hb.mono B2.out.size));have b3:=hid (b2.out.next hb);have L3:=hid hb
 have HSH:Hid (∃ p1 n1 c1 p2 n2 c2,pv=.slice p1 n1 c1∧bv=.slice p2 n2 c2):=by
  rcases hr with ⟨_,_,he⟩ | ⟨_,c,_,hc⟩
  · simp at he
    exact ⟨_,_,_,_,_,_,he.1,he.2⟩
  · obtain ⟨p',b',he,⟨p1,c1,h1,-⟩,⟨p2,c2,h2,-⟩⟩:=hc
    simp at he;exact ⟨_,_,_,_,_,_,he.1.trans h1,he.2.trans h2⟩
 obtain ⟨p1,n1,c1,p2,n2,c2,rfl,rfl⟩:=HSH.out;obtain ⟨W4,hW4⟩:∃ W4,W4=w3.alloc (.cells #[.slice p1 n1 c1,.slice p2 n2 c2] 44):=⟨_,rfl⟩;have HW4:=hid hW4;have K4:Hid (Bz w3 W4):=(by show Below _ _ _;rw [hW4];exact (sqN _ _));have B4:=hid (B3.out.trans (K4.out.mono B3.out.size));have bC:Hid (Blk W4 w3.heap.size #[.slice p1 n1 c1,.slice p2 n2 c2] 44):=(by show Blk _ _ _ _;rw [hW4];exact Blk.new);clear hr hb y0 y1 y2 y3 HSH hW4 HW1;go_wp2_with (first | (rw [← HW4.out];go_at_call 16;fail));rw [← HW4.out];refine (specGood_any d W4 _ ms (HR.out _ B4.out) HW.out).mono ?_;rintro e w5 ⟨rfl,hb5⟩;have K5:=hid (L3.out.trans ((K4.out.mono L3.out.size).trans (hb5.mono (Nat.le_trans L3.out.size K4.out.size))));have B5:=hid (B4.out.trans (hb5.mono B4.out.size));have O5:=hid (mods_keep O2.out (KeepOn.below K5.out (mods_lt O2.out)));have c5:=hid (bC.out.next hb5);have b5:Hid (Blk w5 w.heap.size #[.string qm,.string qn,.int .i64 qa,.int .i64 qc] 31):=(b3.out.next K4.out).next hb5;have L5:=hid (K4.out.trans (hb5.mono K4.out.size));clear hb5
 cases hG:goodB d ms with
 | false =>
  have HX:Hid (RR=(ms,1)):=(by show _=_;rw [HRV.out,HRC.out,hG];rfl);clear hG
  have FIN:Hid (EdE w d RR (.returned (.tuple #[.slice po ms.length co,.int .i64 1])) w5):=by
   show EdE _ _ _ _ _;rw [HX.out];exact ⟨_,fpo,rfl,O5.out,NDO.out.1,fun a ha=>⟨by have:=(NDO.out.2 a ha).1;omega,mods_lt O5.out a ha⟩,B5.out⟩
  go_wp2_with fail;exact bodyPost_ret (v:=.tuple #[.slice po ms.length co,.int .i64 1]) (by simp [results,results6,go_sem]) rfl FIN.out
 | true =>
  obtain ⟨hpg,hva⟩:=HV.out hG;have HG:Hid (goodB d ms=true∧pgOk d ms=true):=⟨hG,hpg⟩;have HVA:=hid hva;clear hG hpg hva HV
  rcases HCR.out with ⟨rfl,hno,-⟩ | ⟨rfl,c,hc,hcl⟩
  · have HX:Hid (RR=(ms,2)):=by
     show _=_;have e1:varsAt d ms ⟨qm,qn,qa,qc⟩ = []:=(by rw [HVA.out,hno]);rw [HRV.out,HRC.out,HG.out.1,e1];rfl
    clear hno HCR
    have FIN:Hid (EdE w d RR (.returned (.tuple #[.slice po ms.length co,.int .i64 2])) w5):=by
     show EdE _ _ _ _ _;rw [HX.out];exact ⟨_,fpo,rfl,O5.out,NDO.out.1,fun a ha=>⟨by have:=(NDO.out.2 a ha).1;omega,mods_lt O5.out a ha⟩,B5.out⟩
    go_wp2_with fail;exact bodyPost_ret (v:=.tuple #[.slice po ms.length co,.int .i64 2]) (by simp [results,results6,go_sem]) rfl FIN.out
  · have HC:=hid hc
    have HVS:Hid (varsAt d ms ⟨qm,qn,qa,qc⟩=sortS (clauseVars d c)):=(by show _=_;rw [HVA.out,hc]);have HCL:Hid (∀ w',Bz w3 w'→HCl w' All (HEx w' All d) [.slice p1 n1 c1,.slice p2 n2 c2] c):=fun w' hw=>hcl.mono (sqO hw) (fun _ h=>h) (fun _ _ h=>h.mono (sqO hw) (fun _ h=>h));have HWC:=hid (Nat.le_trans (clauseOf_wt1 hc) HW.out);clear hc hcl HCR;obtain ⟨z0,z1⟩:=sqB2 c5.out;go_wp2_with fail;refine (l07Vars_any d w5 _ c (HCL.out _ L5.out) HWC.out).mono ?_;rintro e w6 ⟨u6,rfl,ho6,hb6⟩;have T6:=hid (ho6.strR (by rw [← HVS.out];exact HLV.out));have CS:=hid (hasS_any w6 u6 _ sf T6.out);have K6:=hid (K5.out.trans (hb6.mono K5.out.size));have B6:=hid (B5.out.trans (hb6.mono B5.out.size));have O6:=hid (mods_keep O2.out (KeepOn.below K6.out (mods_lt O2.out)));have c6:=hid (c5.out.next hb6);have b6:=hid (b5.out.next hb6);have L6:=hid (L5.out.trans (hb6.mono L5.out.size));have CV:=hid (specVarOk_any st w6 HST.out.1);obtain ⟨pu6,cu6,hu6,-⟩:=T6.out;subst hu6;generalize (sortS (clauseVars d c)).length=nv at *
    have HRC2:Hid (renCode d ms ⟨qm,qn,qa,qc⟩ sf st=if hasS (sortS (clauseVars d c)) sf=false then 2 else if varB st=false then 3 else if hasS (sortS (clauseVars d c)) st=true then 4 else 0):=by
     show _=_;rw [HRC.out,HG.out.1,HVS.out,hasT_S,hasT_S];rfl
    clear ho6 hb6 z0 z1 c5 b5 K5 B5 O5 T6;go_wp2_with fail;refine CS.out.mono ?_;rintro e w7 ⟨rfl,rfl⟩
    cases h1:hasS (sortS (clauseVars d c)) sf with
    | false =>
     have HX:Hid (RR=(ms,2)):=(by show _=_;rw [HRV.out,HRC2.out,h1];rfl);clear h1
     have FIN:Hid (EdE w d RR (.returned (.tuple #[.slice po ms.length co,.int .i64 2])) w7):=by
      show EdE _ _ _ _ _;rw [HX.out];exact ⟨_,fpo,rfl,O6.out,NDO.out.1,fun a ha=>⟨by have:=(NDO.out.2 a ha).1;omega,mods_lt O6.out a ha⟩,B6.out⟩
     go_wp2_with fail;exact bodyPost_ret (v:=.tuple #[.slice po ms.length co,.int .i64 2]) (by simp [results,results6,go_sem]) rfl FIN.out
    | true =>
     have H1:=hid h1;clear h1;go_wp2_with fail;refine CV.out.mono ?_;rintro e w8 ⟨rfl,rfl⟩
     cases h2:varB st with
     | false =>
      have HX:Hid (RR=(ms,3)):=(by show _=_;rw [HRV.out,HRC2.out,H1.out,h2];rfl);clear h2
      have FIN:Hid (EdE w d RR (.returned (.tuple #[.slice po ms.length co,.int .i64 3])) w8):=by
       show EdE _ _ _ _ _;rw [HX.out];exact ⟨_,fpo,rfl,O6.out,NDO.out.1,fun a ha=>⟨by have:=(NDO.out.2 a ha).1;omega,mods_lt O6.out a ha⟩,B6.out⟩
      go_wp2_with fail;exact bodyPost_ret (v:=.tuple #[.slice po ms.length co,.int .i64 3]) (by simp [results,results6,go_sem]) rfl FIN.out
     | true =>
      have H2:=hid h2;obtain ⟨z0,z1⟩:=sqB2 c6.out;clear h2;go_wp2_with fail;refine (l07Vars_any d w8 _ c (HCL.out _ L6.out) HWC.out).mono ?_;rintro e w9 ⟨u9,rfl,ho9,hb9⟩;have T9:=hid (ho9.strR (by rw [← HVS.out];exact HLV.out));have CS9:=hid (hasS_any w9 u9 _ st T9.out);have K9:=hid (K6.out.trans (hb9.mono K6.out.size));have B9:=hid (B6.out.trans (hb9.mono B6.out.size));have O9:=hid (mods_keep O2.out (KeepOn.below K9.out (mods_lt O2.out)));have c9:=hid (c6.out.next hb9);have b9:=hid (b6.out.next hb9);have L9:=hid (L6.out.trans (hb9.mono L6.out.size));obtain ⟨pu9,cu9,hu9,-⟩:=T9.out;subst hu9;generalize (sortS (clauseVars d c)).length=nv9 at *;clear ho9 hb9 z0 z1 c6 b6 K6 B6 O6 T9 CS CV;go_wp2_with fail;refine CS9.out.mono ?_;rintro e w10 ⟨rfl,rfl⟩
      cases h3:hasS (sortS (clauseVars d c)) st with
      | true =>
       have HX:Hid (RR=(ms,4)):=(by show _=_;rw [HRV.out,HRC2.out,H1.out,H2.out,h3];rfl);clear h3
       have FIN:Hid (EdE w d RR (.returned (.tuple #[.slice po ms.length co,.int .i64 4])) w10):=by
        show EdE _ _ _ _ _;rw [HX.out];exact ⟨_,fpo,rfl,O9.out,NDO.out.1,fun a ha=>⟨by have:=(NDO.out.2 a ha).1;omega,mods_lt O9.out a ha⟩,B9.out⟩
       go_wp2_with fail;exact bodyPost_ret (v:=.tuple #[.slice po ms.length co,.int .i64 4]) (by simp [results,results6,go_sem]) rfl FIN.out
      | false =>
       have HX:Hid (RR=finM d ms (setAt ms ⟨qm,qn,qa,qc⟩ (mapC (fT (ftV sf st)) d))):=(by show _=_;rw [HRV.out,HRC2.out,H1.out,H2.out,h3];rfl);obtain ⟨y0,y1,y2,y3⟩:=sqB4 b9.out;clear h3 CS9;go_wp2_with fail;refine (l07Find_any d w10 _ ms ⟨qm,qn,qa,qc⟩ (HR.out _ B9.out)).mono ?_;rintro e w11 ⟨⟨a,b,ok,rfl,hfr⟩,hb11⟩;have K11:=hid (K9.out.trans (hb11.mono K9.out.size));have B11:=hid (B9.out.trans (hb11.mono B9.out.size));have O11:=hid (mods_keep O2.out (KeepOn.below K11.out (mods_lt O2.out)));have c11:=hid (c9.out.next hb11);have b11:=hid (b9.out.next hb11);have L11:=hid (L9.out.trans (hb11.mono L9.out.size));clear hb11 y0 y1 y2 y3
       rcases hfr with ⟨rfl,hno⟩ | ⟨rfl,k,j,m,f,rfl,rfl,hk,hkf,hj,hjf,hbk,hbj⟩
       · have h9:=HC.out
         rw [clauseOf_none hno] at h9
         cases h9
       have hfo:fnOf ms ⟨qm,qn,qa,qc⟩=some f:=by
        have h9:(ms.find? (named qm)).bind (fun m=>m.funs.find? (sameR ⟨qn,qa⟩))=some f:=(by rw [hkf];exact hjf);exact h9
       obtain ⟨i,hqi,hci⟩:∃ i:Nat,qc=i∧f.clauses[i]?=some c:=by
        have h9:=HC.out;unfold clauseOf at h9;rw [hfo] at h9;simp only [Option.bind_some] at h9
        split at h9
        · rename_i hin
          refine ⟨qc.toNat,?_,h9⟩;unfold inB at hin;simp only [decide_eq_true_eq] at hin;omega
        · cases h9
       subst hqi;have HFA:Hid (FirstAt ms ⟨qm,qn,qa,(i:Nat)⟩ k j i m f c):=⟨hk,by have:=List.find?_some hkf;exact this,hbk,hj,by have:=List.find?_some hjf;exact this,hbj,hci,rfl⟩;obtain ⟨g0,c0,gf,cf,gc,cc,hv0,e1,e2,m0,m1,m2,d1,d2,hP⟩:=prog_at O11.out NDO.out.1 HFA.out hjf;simp only [Value.slice.injEq] at hv0;obtain ⟨rfl,-,rfl⟩:=hv0;have HP:=hid hP;have hkl:(k:Int)<(ms.length:Int):=(by have:=(List.getElem?_eq_some_iff.1 hk).1;omega);have hjl:(j:Int)<(m.funs.length:Int):=(by have:=(List.getElem?_eq_some_iff.1 hj).1;omega);have hil:(i:Int)<(f.clauses.length:Int):=(by have:=(List.getElem?_eq_some_iff.1 hci).1;omega);have hk0:=sqI k;have hj0:=sqI j;have hi0:=sqI i;have r0:=NDO.out.2 g0 m0;have r1:=NDO.out.2 gf m1;have r2:=NDO.out.2 gc m2;have l3:=L3.out.size;have l11:=L11.out.size;have lc:=c11.out.lt;have lb:=b11.out.lt;have SS0:Hid (∀ w',Bz w11 w'→w'.cell? ⟨g0,k * 3+2,none⟩=some (.slice (some ⟨gf,0,none⟩) m.funs.length cf)∧w'.cell? ⟨gf,j * 3+2,none⟩=some (.slice (some ⟨gc,0,none⟩) f.clauses.length cc)∧w'.cell? ⟨w.heap.size,3,none⟩=some (.int .i64 (i:Nat))∧w'.cell? ⟨w3.heap.size,0,none⟩=some (.slice p1 n1 c1)∧w'.cell? ⟨w3.heap.size,1,none⟩=some (.slice p2 n2 c2)):=fun w' hb=>⟨cell_next hb e1,cell_next hb e2,cell_next hb (b11.out.cell 3 _ rfl),cell_next hb (c11.out.cell 0 _ rfl),cell_next hb (c11.out.cell 1 _ rfl)⟩
       have SSS:Hid (∀ w',Bz w11 w'→∀ a b,((w'.setCell ⟨gc,i * 2,none⟩ a).setCell ⟨gc,i * 2+1,none⟩ b).cell? ⟨g0,k * 3+2,none⟩=some (.slice (some ⟨gf,0,none⟩) m.funs.length cf)∧((w'.setCell ⟨gc,i * 2,none⟩ a).setCell ⟨gc,i * 2+1,none⟩ b).cell? ⟨gf,j * 3+2,none⟩=some (.slice (some ⟨gc,0,none⟩) f.clauses.length cc)∧((w'.setCell ⟨gc,i * 2,none⟩ a).setCell ⟨gc,i * 2+1,none⟩ b).cell? ⟨w.heap.size,3,none⟩=some (.int .i64 (i:Nat))∧((w'.setCell ⟨gc,i * 2,none⟩ a).setCell ⟨gc,i * 2+1,none⟩ b).cell? ⟨w3.heap.size,0,none⟩=some (.slice p1 n1 c1)∧((w'.setCell ⟨gc,i * 2,none⟩ a).setCell ⟨gc,i * 2+1,none⟩ b).cell? ⟨w3.heap.size,1,none⟩=some (.slice p2 n2 c2)):=fun w' hb a b=>by
        obtain ⟨s0,s1,s2,s3,s4⟩:=SS0.out w' hb
        have hh:∀ g,g≠gc→((w'.setCell ⟨gc,i * 2,none⟩ a).setCell ⟨gc,i * 2+1,none⟩ b).heap[g]?=w'.heap[g]?:=fun g hg=>by rw [Below.heap_setCell _ _ _ _ hg,Below.heap_setCell _ _ _ _ hg]
        exact ⟨(sqK (hh g0 d1)).trans s0,(sqK (hh gf d2)).trans s1,(sqK (hh w.heap.size (by omega))).trans s2,(sqK (hh w3.heap.size (by omega))).trans s3,(sqK (hh w3.heap.size (by omega))).trans s4⟩
       have CL:Hid (∀ w7 fv tv,Bz w11 w7→CapL w7 fv tv [sf] [st]→Calls prog 21 #[.agg #[.slice p1 n1 c1,.slice p2 n2 c2],fv,tv] w7 fun e w8=>∃ x1 y1 z1 x2 y2 z2 e0 e1,e=.returned (.agg #[.slice x1 y1 z1,.slice x2 y2 z2])∧w8.cell? ⟨gc,i * 2,none⟩=some e0∧w8.cell? ⟨gc,i * 2+1,none⟩=some e1∧w8.frozen? ⟨gc,i * 2,none⟩=false∧w8.frozen? ⟨gc,i * 2+1,none⟩=false∧Hid (Bz w7 w8) ∧
        Hid (∃ fp',ORows ((w8.setCell ⟨gc,i * 2,none⟩ (.slice x1 y1 z1)).setCell ⟨gc,i * 2+1,none⟩ (.slice x2 y2 z2)) 61 3 (OMd ((w8.setCell ⟨gc,i * 2,none⟩ (.slice x1 y1 z1)).setCell ⟨gc,i * 2+1,none⟩ (.slice x2 y2 z2)) d) (.slice (some ⟨g0,0,none⟩) ms.length co) (setAt ms ⟨qm,qn,qa,(i:Nat)⟩ (mapC (fT (ftV sf st)) d)) fp'∧fp'.Nodup∧(∀ a ∈ fp',w.heap.size≤a)∧wtS (wtMd d) (setAt ms ⟨qm,qn,qa,(i:Nat)⟩ (mapC (fT (ftV sf st)) d))≤16777216 ∧
         Bz w ((w8.setCell ⟨gc,i * 2,none⟩ (.slice x1 y1 z1)).setCell ⟨gc,i * 2+1,none⟩ (.slice x2 y2 z2)))):=fun w7 fv tv hb hcap=>renClauseS_at d w w11 w7 _ fv tv ms ⟨qm,qn,qa,(i:Nat)⟩ sf st fpo gc i c _ _ O11.out NDO.out.1 (fun a ha=>by have:=NDO.out.2 a ha;have:=K11.out.size;omega) HP.out HG.out.2 H2.out HW2.out (HCL.out _ (L11.out.trans (hb.mono L11.out.size))) hcap hb B11.out
       obtain ⟨X1,hX1⟩:∃ X1,X1=(w11.alloc (.cells #[.string sf] 9)).drew:=⟨_,rfl⟩;obtain ⟨X2,hX2⟩:∃ X2,X2=((w11.alloc (.cells #[.string sf] 9)).alloc (.cells #[.string st] 9)).drew:=⟨_,rfl⟩;obtain ⟨Y1,hY1⟩:∃ Y1,Y1=(w11.alloc (.cells #[.string st] 9)).drew:=⟨_,rfl⟩;obtain ⟨Y2,hY2⟩:∃ Y2,Y2=((w11.alloc (.cells #[.string st] 9)).alloc (.cells #[.string sf] 9)).drew:=⟨_,rfl⟩;have HX1:=hid hX1;have HX2:=hid hX2;have HY1:=hid hY1;have HY2:=hid hY2;have KX1:Hid (Bz w11 X1):=(by show Below _ _ _;rw [hX1];exact ((sqN _ _)).drew);have KX2:Hid (Bz w11 X2):=(by show Below _ _ _;rw [hX2];exact (((sqN _ _)).alloc (by simp) _).drew);have KY1:Hid (Bz w11 Y1):=(by show Below _ _ _;rw [hY1];exact ((sqN _ _)).drew);have KY2:Hid (Bz w11 Y2):=(by show Below _ _ _;rw [hY2];exact (((sqN _ _)).alloc (by simp) _).drew)
       have CX:Hid (CapL X2 (.slice (some ⟨w11.heap.size,0,none⟩) 1 1) (.slice (some ⟨w11.heap.size+1,0,none⟩) 1 1) [sf] [st]):=by
        have h1:Blk X2 w11.heap.size #[.string sf] 9:=by rw [hX2];exact (Blk.new (w:=w11)).alloc
        have h2:Blk X2 (w11.heap.size+1) #[.string st] 9:=by
         have:=Blk.new (w:=w11.alloc (.cells #[.string sf] 9)) (cs:=#[.string st]) (t:=9);rw [alloc_hs] at this;rw [hX2];exact this
        exact ⟨strR_one h1 HST.out.2,strR_one h2 HST.out.1,Nat.le_refl _⟩
       have CY:Hid (CapL Y2 (.slice (some ⟨w11.heap.size+1,0,none⟩) 1 1) (.slice (some ⟨w11.heap.size,0,none⟩) 1 1) [sf] [st]):=by
        have h1:Blk Y2 w11.heap.size #[.string st] 9:=by rw [hY2];exact (Blk.new (w:=w11)).alloc
        have h2:Blk Y2 (w11.heap.size+1) #[.string sf] 9:=by
         have:=Blk.new (w:=w11.alloc (.cells #[.string st] 9)) (cs:=#[.string sf]) (t:=9);rw [alloc_hs] at this;rw [hY2];exact this
        exact ⟨strR_one h2 HST.out.2,strR_one h1 HST.out.1,Nat.le_refl _⟩
       obtain ⟨s0,s1,s2,s3,s4⟩:=SS0.out w11 (Below.refl _ _);clear hX1 hX2 hY1 hY2 hk hkf hj hjf hbk hbj hfo hci e1 e2 m0 m1 m2 d1 d2 hP r0 r1 r2 l3 l11 lc lb;go_wp2_with fail
       go_region_held3 (fun w'=>w'.cell? ⟨g0,k * 3+2,none⟩=some (.slice (some ⟨gf,0,none⟩) m.funs.length cf)∧w'.cell? ⟨gf,j * 3+2,none⟩=some (.slice (some ⟨gc,0,none⟩) f.clauses.length cc)∧w'.cell? ⟨w.heap.size,3,none⟩=some (.int .i64 (i:Nat))∧w'.cell? ⟨w3.heap.size,0,none⟩=some (.slice p1 n1 c1)∧w'.cell? ⟨w3.heap.size,1,none⟩=some (.slice p2 n2 c2))
        (first
         | with_reducible exact SSS.out _ K12.out _ _
         | with_reducible exact SS0.out _ K12.out
         | (rw [← HX2.out];exact SS0.out _ KX2.out)
         | (rw [← HY2.out];exact SS0.out _ KY2.out)
         | (rw [← HX1.out];exact SS0.out _ KX1.out)
         | (rw [← HY1.out];exact SS0.out _ KY1.out)
         | with_reducible exact SS0.out _ (Below.refl _ _).drew)
        (first
         | (go_at_call 21;rw [← HX2.out];refine (CL.out X2 _ _ KX2.out CX.out).mono ?_;rintro e w12 ⟨x1,y1,z1,x2,y2,z2,e0,e1,rfl,t0,t1,t2,t3,hb12,h13⟩;have K12:=hid (KX2.out.trans (hb12.out.mono KX2.out.size)))
         | (go_at_call 21;rw [← HY2.out];refine (CL.out Y2 _ _ KY2.out CY.out).mono ?_;rintro e w12 ⟨x1,y1,z1,x2,y2,z2,e0,e1,rfl,t0,t1,t2,t3,hb12,h13⟩;have K12:=hid (KY2.out.trans (hb12.out.mono KY2.out.size))))
       all_goals
        obtain ⟨fp9,o9,nd9,rg9,wt9,b9'⟩:=h13.out;have FIN:=l07Done_any d w _ (.slice p ms.length cap) (.slice (some ⟨g0,0,none⟩) ms.length co) ms (setAt ms ⟨qm,qn,qa,(i:Nat)⟩ (mapC (fT (ftV sf st)) d)) fp9 (HR.out _ b9') o9 nd9 rg9 b9' HW.out wt9;rw [← HX.out] at FIN;have HFIN:=hid FIN;clear o9 nd9 rg9 wt9 b9' FIN h13 s0 s1 s2 s3 s4 t0 t1 t2 t3;go_split_ands;go_wp2_with fail;refine HFIN.out.mono ?_;rintro e w13 ⟨u,fpz,rfl,hz⟩;have HZ:Hid (EdE w d RR (.returned (.tuple #[u,.int .i64 RR.2])) w13):=⟨u,fpz,rfl,hz⟩;obtain ⟨pz,cz,hpz,-⟩:=hz.1.shape;subst hpz;clear hz;go_wp2_with fail;exact bodyPost_ret (v:=.tuple #[_,.int .i64 RR.2]) (by simp [results,results6,go_sem]) rfl HZ.out
end
end Go.Proofs.YtbdhpganbbandaaGreatDoor
