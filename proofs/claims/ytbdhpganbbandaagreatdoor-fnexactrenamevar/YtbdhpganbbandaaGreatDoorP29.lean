/-
  NameImplA EachRem
-/
import Derived.Test.YtbdhpganbbandaaGreatDoorP15
import Derived.Test.YtbdhpganbbandaaGreatDoorP18
set_option maxHeartbeats 16000000
set_option linter.unusedVariables false
set_option maxRecDepth 100000
namespace Go.Proofs.YtbdhpganbbandaaGreatDoor
open Go.ChangeShapes Go.WideShapes Go.ChangeAt Go.RowKit
section
open Go.Maps Go.WideMaps Go.Proofs.Tryz
theorem mkMap (w:World):Sem.run prog (Instr.makeMap 162 none) w=.ok (.map (some w.heap.size)) (w.alloc (.map #[] 0)):=by kernel_rfl
theorem lawS:Keyed prog 9:=string_keyed underlying9
def setR (_:Value):Option (DataW Unit × List MemPlace):=some (.agg [],[])
def setD (K:List (List UInt8)):DataW Unit:=K.foldl (λD x=>D.put (.string x) (.agg [])) (.map [])
theorem setD_snoc (K:List (List UInt8)) (x:List UInt8):setD (K ++ [x])=(setD K).put (.string x) (.agg []):=by simp [setD,List.foldl_append]
def MapAt (w:World) (mb:Nat) (K:List (List UInt8)):Prop:=w.ownsMap prog 9 setR mb K.length (setD K)
theorem MapAt.keep {w w':World} {mb:Nat} {K:List (List UInt8)} (h:MapAt w mb K) (he:w'.heap[mb]?=w.heap[mb]?):MapAt w' mb K:=by
 obtain ⟨es,clock,h1,h2⟩:=h;exact ⟨es,clock,he.trans h1,h2⟩
theorem MapAt.lt {w:World} {mb:Nat} {K:List (List UInt8)} (h:MapAt w mb K):mb<w.heap.size:=by
 obtain ⟨es,clock,h1,h2⟩:=h;exact (Array.getElem?_eq_some_iff.1 h1).1
theorem add_any (w:World) (mb:Nat) (K:List (List UInt8)) (s:ByteArray) (h:MapAt w mb K) (hs:okS s) (hK:K.length<maxLen) :
 Calls prog 149 #[.map (some mb),.string s] w λe w'=>e=.returned (.tuple #[])/\MapAt w' mb (K ++ [s.data.toList])/\Off [mb] w w':=by
 have H:=hid h;have hk:keyOf prog 9 (.string s)=some (.string s.data.toList):=keyOf_string_mk underlying9 hs;clear h;go_enter func149,ntmps149;go_wp2_with (at_mapUpdate;refine wpList_mapUpdate_own _ rfl _ _ _ 162 rfl 9 _ lawS underlying162 setR mb K.length (setD K) rfl H.out hK _ _ _ rfl rfl hk (.agg []) [] rfl ?_;intro w1 hm1 hg1);go_end0;refine ⟨rfl,?_,Off.of_grown hg1 (by simp)⟩;unfold MapAt;rw [setD_snoc,List.length_append];exact hm1
structure Ev (w:World) (mb tb:Nat) (K:List (List UInt8)):Prop where
 m:MapAt w mb K
 b:Blk w tb #[.func (.func 149) #[.map (some mb)] #[]] 196
 ne:tb≠mb
theorem Ev.next {w w':World} {mb tb:Nat} {K:List (List UInt8)} (h:Ev w mb tb K) (hb:Bz w w'):Ev w' mb tb K :=
 ⟨h.m.keep (hb.block mb h.m.lt),h.b.next hb,h.ne⟩
theorem HEx.offN {w w':World} {mb d:Nat} {cs:List Value} {x:Ex} (h:HEx w (λg=>g≠mb) d cs x) (ho:Off [mb] w w'):HEx w' (λg=>g≠mb) d cs x :=
 h.mono ⟨ho.size,λg hg hl=>ho.block g hl (by simpa using hg)⟩ sqj
abbrev FV (tb:Nat):Value:=.func (.func 178) #[] #[.pointer (some ⟨tb,0,none⟩)]
theorem cbk_any (w:World) (mb tb d:Nat) (cs:List Value) (x:Ex) (K:List (List UInt8)) (h:HEx w (λg=>g≠mb) (d+1) cs x) (hv:Ev w mb tb K) (hK:K.length<67108864) (A:List (List UInt8)) (hA:(if x.kind=2 then [keyS x.text] else [])=A) :
 Calls prog 178 #[.agg cs.toArray,.pointer (some ⟨tb,0,none⟩)] w λe w'=>e=.returned (.tuple #[])/\Ev w' mb tb (K ++ A)/\Off [mb] w w':=by
 obtain ⟨kv,cv,rfl,-,-,hts,-,f0,f1⟩:=h;obtain ⟨p,cap,rfl,-⟩:=f0;obtain ⟨pc,capc,rfl,-⟩:=f1;have BA:Bz w (w.alloc (.cells #[.int .i64 x.kind,.int .i64 x.n,.string x.text,.string x.mod,.slice p x.kids.length cap,.slice pc x.clauses.length capc] 74)):=(sqN _ _);have HV:=hid (hv.next BA);have HBA:=hid BA;have ct:=HV.out.b.cell 0 _ rfl;by_cases hk:x.kind=2
 . rw [if_pos hk] at hA
   subst hA;clear hv BA;rw [hk] at HV HBA ct ⊢;go_enter func178,ntmps178;go_wp2_with fail;refine (add_any _ mb K x.text HV.out.m hts (by unfold maxLen;omega)).mono ?_;rintro e w1 ⟨rfl,hm1,ho1⟩;have h1:Ev w1 mb tb (K ++ [keyS x.text]):=⟨by unfold keyS;rw [ByteArray.toList_eq];exact hm1,(ho1.block tb HV.out.b.lt (by simpa using HV.out.ne)).trans HV.out.b,HV.out.ne⟩;go_wp2;go_end0;exact ⟨rfl,h1,(Off.of_below HBA.out).trans ho1⟩
 . rw [if_neg hk] at hA
   subst hA;rw [List.append_nil];have hkb:(x.kind == 2)=false:=(by simpa using hk);clear hv BA;go_enter func178,ntmps178;go_wp2;go_end0;exact ⟨rfl,HV.out,Off.of_below HBA.out⟩
theorem HEx.shapeN {w:World} {S:Nat->Prop} {d:Nat} {cs:List Value} {x:Ex} (h:HEx w S d cs x):∃ sk sn st se p1 n1 q1 p2 n2 q2,cs = [.int .i64 sk,.int .i64 sn,.string st,.string se,.slice p1 n1 q1,.slice p2 n2 q2]:=by
 cases d with
 | zero=>exact h.elim
 | succ d =>
  obtain ⟨kv,cv,rfl,_,_,_,_,⟨p1,c1,rfl,_⟩,⟨p2,c2,rfl,_⟩⟩:=h;exact ⟨_,_,_,_,_,_,_,_,_,_,rfl⟩
def EeC (d:Nat):Prop:=∀ (w:World) (mb tb:Nat) (cs:List Value) (x:Ex) (K:List (List UInt8)),HEx w (λg=>g≠mb) d cs x->Ev w mb tb K->K.length+(varL d x).length<=33554432 ->
 Calls prog 177 #[.agg cs.toArray,FV tb] w λe w'=>e=.returned (.tuple #[])/\Ev w' mb tb (K ++ varL d x)/\Off [mb] w w'
def EoC (d:Nat):Prop:=∀ (w:World) (mb tb:Nat) (v:Value) (es:List Ex) (K:List (List UInt8)),Rows w (λg=>g≠mb) 6 (HEx w (λg=>g≠mb) d) v es->Ev w mb tb K->K.length+(es.flatMap (varL d)).length<=33554432 ->
 Calls prog 171 #[v,FV tb] w λe w'=>e=.returned (.tuple #[])/\Ev w' mb tb (K ++ es.flatMap (varL d))/\Off [mb] w w'
theorem eachOf_of {d:Nat} (hE:EeC d):EoC d:=by
 intro w mb tb v es K hr hv hK;obtain ⟨p,cap,rfl,hcl,hcm,hx⟩:=hr;have hnb:=sqM hcl hcm;have HX:=hid hx;have HV:=hid hv;have HK:=hid hK;generalize hn:es.length=n at *;have HN:=hid hn;clear hx hv hK hn;go_enter func171,ntmps171;go_wp2_with fail
 go_loopw [8] (λiv wr=>∃ k:Nat,k<=n/\iv=.int .i64 k/\Hid (Ev wr mb tb (K ++ (es.take k).flatMap (varL d)))/\Hid (Off [mb] w wr)) (λiv _=>n - (intOf iv).toNat)
 case atStart=>exact ⟨0,Nat.zero_le _,rfl,by show Ev _ _ _ _;simpa using HV.out,Off.refl _ _⟩
 case round =>
  obtain ⟨k,hk,rfl,HVk,HOk⟩:=hrel;by_cases hlt:k<n
  . obtain ⟨x,hxk⟩:=sqA (l:=es) (k:=k) HN.out hlt
    obtain ⟨g,off,rfl,hgm,hgl,hat⟩:=HX.out (sqE hxk);obtain ⟨cs,hcsl,hcs,r1⟩:=hat k x hxk;have E1:=hid (r1.offN HOk.out);obtain ⟨c0,c1,c2,c3,c4,c5,rfl⟩:=len6 hcsl;have hge:wr.heap[g]?=w.heap[g]?:=HOk.out.block g hgl (by simpa using hgm);have a0:=(sqK (a:=⟨g,off+k * 6+0,none⟩) hge).trans (hcs 0 (by omega));have a1:=(sqK (a:=⟨g,off+k * 6+1,none⟩) hge).trans (hcs 1 (by omega));have a2:=(sqK (a:=⟨g,off+k * 6+2,none⟩) hge).trans (hcs 2 (by omega));have a3:=(sqK (a:=⟨g,off+k * 6+3,none⟩) hge).trans (hcs 3 (by omega));have a4:=(sqK (a:=⟨g,off+k * 6+4,none⟩) hge).trans (hcs 4 (by omega));have a5:=(sqK (a:=⟨g,off+k * 6+5,none⟩) hge).trans (hcs 5 (by omega));simp at a0 a1 a2 a3 a4 a5
    have HJ:Hid (K ++ (es.take (k+1)).flatMap (varL d)=K ++ (es.take k).flatMap (varL d) ++ varL d x):=by
     show _=_;rw [List.take_add_one,hxk];simp
    have HKk:Hid ((K ++ (es.take k).flatMap (varL d)).length+(varL d x).length<=33554432):=by
     have h1:=HK.out
     have h2:(es.flatMap (varL d))=(es.take k).flatMap (varL d) ++ (varL d x ++ (es.drop (k+1)).flatMap (varL d)):=by
      have h3:es=es.take k ++ x :: es.drop (k+1):=by
       have h4:=List.take_append_drop k es;rw [List.drop_eq_getElem_cons (by rw [HN.out];exact hlt)] at h4;have h5:es[k]'(by rw [HN.out];exact hlt)=x:=(List.getElem?_eq_some_iff.1 hxk).2;rw [h5] at h4;exact h4.symm
      conv=>lhs;rw [h3]
      simp
     rw [h2] at h1;show _<=_;simp only [List.length_append] at h1 ⊢;omega
    generalize K ++ (es.take k).flatMap (varL d)=Kk at *;have hki:(k:Int)<(n:Int):=(by omega);have hk0:=sqI k;clear hat hcs hcsl r1 hge;obtain ⟨sk,sn,st,se,p1,n1,q1,p2,n2,q2,hsh⟩:=HEx.shapeN E1.out;simp only [List.cons.injEq,and_true] at hsh;obtain ⟨rfl,rfl,rfl,rfl,rfl,rfl⟩:=hsh;have HBA:Hid (Bz wr (wr.alloc (.cells #[.int .i64 sk,.int .i64 sn,.string st,.string se,.slice p1 n1 q1,.slice p2 n2 q2] 74))):=(sqN _ _);go_wp2_with fail;refine (hE _ mb tb _ x Kk (E1.out.offN (Off.of_below HBA.out)) (HVk.out.next HBA.out) HKk.out).mono ?_;rintro e w1 ⟨rfl,hv1,ho1⟩;go_wp2_with fail;exact ⟨⟨k+1,by omega,by go_num,by show Ev _ _ _ _;rw [HJ.out];exact hv1,(HOk.out.trans (Off.of_below HBA.out)).trans ho1⟩,by simp [intOf];omega⟩
  . have HS:Hid (Ev wr mb tb (K ++ es.flatMap (varL d))):=by
     have:=HVk.out
     rwa [List.take_of_length_le (by rw [HN.out];omega)] at this
    go_wp2;go_end0;exact ⟨rfl,HS.out,HOk.out⟩
theorem eachExp_of {d:Nat} (hO:EoC d):EeC (d+1):=by
 intro w mb tb cs x K h hv hK;have HEX:=hid h;obtain ⟨kv,cv,rfl,-,-,hts,-,f0,f1⟩:=h;obtain ⟨kx,nx,tx,mx,ks,cl⟩:=x;simp only [Ex.kind,Ex.n,Ex.text,Ex.mod,Ex.kids,Ex.clauses] at *;have hvl:varL (d+1) (.mk kx nx tx mx ks cl)=(if kx=2 then [keyS tx] else []) ++ (ks.flatMap (varL d) ++ cl.flatMap λc=>c.1.flatMap (varL d) ++ c.2.flatMap (varL d)):=rfl;rw [hvl] at hK ⊢;generalize hA:(if kx=2 then [keyS tx] else ([]:List (List UInt8)))=A at hK ⊢;have HA:=hid hA;simp only [List.length_append] at hK;have F0:=hid f0;obtain ⟨p,cap,rfl,-⟩:=id f0;obtain ⟨pc,capc,rfl,hcl',hcm',hxc⟩:=f1;have hnc:=sqM hcl' hcm';have HXC:=hid hxc;have HKK:=hid hK;generalize hm:cl.length=nc at *;have HNC:=hid hm;have HBA:Hid (Bz w (w.alloc (.cells #[.int .i64 kx,.int .i64 nx,.string tx,.string mx,.slice p ks.length cap,.slice pc nc capc] 74))):=(sqN _ _);have HV:=hid (hv.next HBA.out);have bA:Hid (Blk (w.alloc (.cells #[.int .i64 kx,.int .i64 nx,.string tx,.string mx,.slice p ks.length cap,.slice pc nc capc] 74)) w.heap.size #[.int .i64 kx,.int .i64 nx,.string tx,.string mx,.slice p ks.length cap,.slice pc nc capc] 74):=Blk.new;have hmb:mb≠w.heap.size:=(by have:=hv.m.lt;omega);clear f0 hxc hA hm hvl hv hK;go_enter func177,ntmps177;go_wp2_with fail;refine (cbk_any _ mb tb d _ _ K (HEX.out.offN (Off.of_below HBA.out)) HV.out (by have:=HKK.out;omega) A HA.out).mono ?_;rintro e w1 ⟨rfl,hv1,ho1⟩;have HV1:=hid hv1;have HO1:Hid (Off [mb] w w1):=(Off.of_below HBA.out).trans ho1;have b1:Hid (Blk w1 w.heap.size #[.int .i64 kx,.int .i64 nx,.string tx,.string mx,.slice p ks.length cap,.slice pc nc capc] 74):=(ho1.block w.heap.size bA.out.lt (by simpa using λe=>hmb e.symm)).trans bA.out;have x4:=b1.out.cell 4 _ rfl;clear hv1 ho1 HV bA;go_wp2_with fail;refine (hO _ mb tb _ ks (K ++ A) (Rows.mono F0.out ⟨HO1.out.size,λg hg hl=>HO1.out.block g hl (by simpa using hg)⟩ sqj (λ_ _ _ h=>HEx.offN h HO1.out)) HV1.out (by have:=HKK.out;simp only [List.length_append];omega)).mono ?_;rintro e w2 ⟨rfl,hv2,ho2⟩;have HV2:=hid hv2;have HO2:=hid (HO1.out.trans ho2);have b2:Hid (Blk w2 w.heap.size #[.int .i64 kx,.int .i64 nx,.string tx,.string mx,.slice p ks.length cap,.slice pc nc capc] 74):=(ho2.block w.heap.size b1.out.lt (by simpa using λe=>hmb e.symm)).trans b1.out;have x5:=b2.out.cell 5 _ rfl;clear hv2 ho2 x4 b1 HV1 HO1;go_wp2_with fail
 go_loopw [16] (λiv wr=>∃ k:Nat,k<=nc/\iv=.int .i64 k/\Hid (Ev wr mb tb (K ++ A ++ ks.flatMap (varL d) ++ (cl.take k).flatMap λc=>c.1.flatMap (varL d) ++ c.2.flatMap (varL d)))/\Hid (Off [mb] w wr)) (λiv _=>nc - (intOf iv).toNat)
 case atStart=>exact ⟨0,Nat.zero_le _,rfl,by show Ev _ _ _ _;simpa using HV2.out,HO2.out⟩
 case round =>
  obtain ⟨k,hk,rfl,HVk,HOk⟩:=hrel;clear x5 HV2 HO2 b2;by_cases hlt:k<nc
  . obtain ⟨c,hck⟩:∃ c,cl[k]?=some c:=⟨cl[k]'(by rw [HNC.out];exact hlt),List.getElem?_eq_getElem _⟩
    obtain ⟨g,off,rfl,hgm,hgl,hat⟩:=HXC.out (sqE hck);obtain ⟨cs,hcsl,hcs,pv,bv,rfl,rp,rb⟩:=hat k c hck;have SK:Hid (SameOn (λg=>g≠mb) w wr):=⟨HOk.out.size,λg hg hl=>HOk.out.block g hl (by simpa using hg)⟩;have RP:=hid (Rows.mono rp SK.out sqj (λ_ _ _ h=>HEx.offN h HOk.out));have RB:=hid (Rows.mono rb SK.out sqj (λ_ _ _ h=>HEx.offN h HOk.out));obtain ⟨pp,capp,rfl,-⟩:=rp;obtain ⟨pb,capb,rfl,-⟩:=rb;have hge:wr.heap[g]?=w.heap[g]?:=HOk.out.block g hgl (by simpa using hgm);have a0:=(sqK (a:=⟨g,off+k * 2+0,none⟩) hge).trans (hcs 0 (by omega));have a1:=(sqK (a:=⟨g,off+k * 2+1,none⟩) hge).trans (hcs 1 (by omega));simp at a0 a1
    have HJ:Hid ((K ++ A ++ ks.flatMap (varL d) ++ (cl.take (k+1)).flatMap λc=>c.1.flatMap (varL d) ++ c.2.flatMap (varL d))=(K ++ A ++ ks.flatMap (varL d) ++ (cl.take k).flatMap λc=>c.1.flatMap (varL d) ++ c.2.flatMap (varL d)) ++ c.1.flatMap (varL d) ++ c.2.flatMap (varL d)):=by
     show _=_;rw [List.take_add_one,hck];simp
    have HKk:Hid ((K ++ A ++ ks.flatMap (varL d) ++ (cl.take k).flatMap λc=>c.1.flatMap (varL d) ++ c.2.flatMap (varL d)).length+(c.1.flatMap (varL d)).length+(c.2.flatMap (varL d)).length<=33554432):=by
     have h1:=HKK.out
     have h2:(cl.flatMap λc=>c.1.flatMap (varL d) ++ c.2.flatMap (varL d))=((cl.take k).flatMap λc=>c.1.flatMap (varL d) ++ c.2.flatMap (varL d)) ++ ((c.1.flatMap (varL d) ++ c.2.flatMap (varL d)) ++ (cl.drop (k+1)).flatMap λc=>c.1.flatMap (varL d) ++ c.2.flatMap (varL d)):=by
      have h3:cl=cl.take k ++ c :: cl.drop (k+1):=by
       have h4:=List.take_append_drop k cl;rw [List.drop_eq_getElem_cons (by rw [HNC.out];exact hlt)] at h4;have h5:cl[k]'(by rw [HNC.out];exact hlt)=c:=(List.getElem?_eq_some_iff.1 hck).2;rw [h5] at h4;exact h4.symm
      conv=>lhs;rw [h3]
      simp
     rw [h2] at h1;show _<=_;simp only [List.length_append] at h1 ⊢;omega
    generalize (K ++ A ++ ks.flatMap (varL d) ++ (cl.take k).flatMap λc=>c.1.flatMap (varL d) ++ c.2.flatMap (varL d))=Kk at *;have hki:(k:Int)<(nc:Int):=(by omega);have hk0:=sqI k;have hmw:mb≠wr.heap.size:=(by have:=HVk.out.m.lt;omega);have HBC:Hid (Bz wr (wr.alloc (.cells #[.slice pp c.1.length capp,.slice pb c.2.length capb] 44))):=(sqN _ _);have bC:Hid (Blk (wr.alloc (.cells #[.slice pp c.1.length capp,.slice pb c.2.length capb] 44)) wr.heap.size #[.slice pp c.1.length capp,.slice pb c.2.length capb] 44):=Blk.new;clear hat hcs hcsl hge;go_wp2_with fail;refine (hO _ mb tb _ c.1 Kk (Rows.mono RP.out ⟨HBC.out.size,λg _ hl=>HBC.out.block g hl⟩ sqj (λ_ _ _ h=>HEx.offN h (Off.of_below HBC.out))) (HVk.out.next HBC.out) (by have:=HKk.out;omega)).mono ?_;rintro e w3 ⟨rfl,hv3,ho3⟩;have HV3:=hid hv3;have HO3:Hid (Off [mb] wr w3):=(Off.of_below HBC.out).trans ho3;have b3:Blk w3 wr.heap.size #[.slice pp c.1.length capp,.slice pb c.2.length capb] 44:=(ho3.block wr.heap.size bC.out.lt (by simpa using λe=>hmw e.symm)).trans bC.out;have y1:=b3.cell 1 _ rfl;clear hv3 ho3 bC b3 a0 a1;go_wp2_with fail;refine (hO _ mb tb _ c.2 (Kk ++ c.1.flatMap (varL d)) (Rows.mono RB.out ⟨HO3.out.size,λg hg hl=>HO3.out.block g hl (by simpa using hg)⟩ sqj (λ_ _ _ h=>HEx.offN h HO3.out)) HV3.out (by have:=HKk.out;simp only [List.length_append];omega)).mono ?_;rintro e w4 ⟨rfl,hv4,ho4⟩;go_wp2_with fail;exact ⟨⟨k+1,by omega,by go_num,by show Ev _ _ _ _;rw [HJ.out];exact hv4,(HOk.out.trans HO3.out).trans ho4⟩,by simp [intOf];omega⟩
  . have HS:Hid (Ev wr mb tb (K ++ (A ++ (ks.flatMap (varL d) ++ cl.flatMap λc=>c.1.flatMap (varL d) ++ c.2.flatMap (varL d))))):=by
     have:=HVk.out;rw [List.take_of_length_le (by rw [HNC.out];omega)] at this;show Ev _ _ _ _
     simpa only [List.append_assoc] using this
    go_wp2;go_end0;exact ⟨rfl,HS.out,HOk.out⟩
theorem eachExp_all:∀ d,EeC d
 | 0=>λw mb tb cs x K h _ _=>h.elim
 | d+1=>eachExp_of (eachOf_of (eachExp_all d))
theorem eachVar_any (w:World) (mb d:Nat) (cs:List Value) (x:Ex) (K:List (List UInt8)) (h:HEx w (λg=>g≠mb) d cs x) (hm:MapAt w mb K) (hK:K.length+(varL d x).length<=33554432) :
 Calls prog 148 #[.agg cs.toArray,.func (.func 149) #[.map (some mb)] #[]] w λe w'=>e=.returned (.tuple #[])/\MapAt w' mb (K ++ varL d x)/\Off [mb] w w':=by
 obtain ⟨sk,sn,st,se,p1,n1,q1,p2,n2,q2,rfl⟩:=HEx.shapeN h;have HH:=hid h;have HM:=hid hm;have hlt:=hm.lt;clear h hm;go_enter func148,ntmps148;go_wp2_with fail;have hB:Bz w ((w.alloc (.cells #[.int .i64 sk,.int .i64 sn,.string st,.string se,.slice p1 n1 q1,.slice p2 n2 q2] 74)).alloc (.cells #[.func (.func 149) #[.map (some mb)] #[]] 196)):=((sqN _ _)).alloc (by simp) _
 have hE:Ev ((w.alloc (.cells #[.int .i64 sk,.int .i64 sn,.string st,.string se,.slice p1 n1 q1,.slice p2 n2 q2] 74)).alloc (.cells #[.func (.func 149) #[.map (some mb)] #[]] 196)) mb (w.heap.size+1) K:=⟨HM.out.keep (hB.block mb hlt),by
  have:=Blk.new (w:=w.alloc (.cells #[.int .i64 sk,.int .i64 sn,.string st,.string se,.slice p1 n1 q1,.slice p2 n2 q2] 74)) (cs:=#[.func (.func 149) #[.map (some mb)] #[]]) (t:=196)
  rwa [alloc_hs] at this,by omega⟩
 refine (eachExp_all d _ mb (w.heap.size+1) _ x K (HH.out.offN (Off.of_below hB)) hE hK).mono ?_;rintro e w1 ⟨rfl,hv1,ho1⟩;go_wp2;go_end0;exact ⟨rfl,hv1.m,(Off.of_below hB).trans ho1⟩
end
section
open Go.Maps Go.WideMaps Go.Proofs.Tryz
variable {n0:Nat} {S0:List UInt8->Prop}
def RemAt (n0:Nat) (S0:List UInt8->Prop) (w:World) (mb:Nat) (K:List (List UInt8)):Prop:=SetAt w mb n0 (λz=>S0 z/\z ∉ K)
theorem RemAt.keep {w w':World} {mb:Nat} {K:List (List UInt8)} (h:RemAt n0 S0 w mb K) (he:w'.heap[mb]?=w.heap[mb]?):RemAt n0 S0 w' mb K:=SetAt.keep h he
theorem RemAt.lt {w:World} {mb:Nat} {K:List (List UInt8)} (h:RemAt n0 S0 w mb K):mb<w.heap.size:=SetAt.lt h
theorem rem_any (w:World) (mb:Nat) (K:List (List UInt8)) (s:ByteArray) (h:RemAt n0 S0 w mb K) (hs:okS s) (hK:K.length<maxLen) :
 Calls prog 189 #[.map (some mb),.string s] w λe w'=>e=.returned (.tuple #[])/\RemAt n0 S0 w' mb (K ++ [s.data.toList])/\Off [mb] w w':=by
 refine (removeN_any w mb n0 _ s h hs).mono ?_;rintro e w' ⟨rfl,h1,ho⟩;refine ⟨rfl,h1.iff (λz=>?_),ho⟩;simp only [List.mem_append,List.mem_singleton,not_or,and_assoc]
structure EvR (n0:Nat) (S0:List UInt8->Prop) (w:World) (mb tb:Nat) (K:List (List UInt8)):Prop where
 m:RemAt n0 S0 w mb K
 b:Blk w tb #[.func (.func 189) #[.map (some mb)] #[]] 196
 ne:tb≠mb
theorem EvR.next {w w':World} {mb tb:Nat} {K:List (List UInt8)} (h:EvR n0 S0 w mb tb K) (hb:Bz w w'):EvR n0 S0 w' mb tb K :=
 ⟨h.m.keep (hb.block mb h.m.lt),h.b.next hb,h.ne⟩
theorem cbkR_any (w:World) (mb tb d:Nat) (cs:List Value) (x:Ex) (K:List (List UInt8)) (h:HEx w (λg=>g≠mb) (d+1) cs x) (hv:EvR n0 S0 w mb tb K) (hK:K.length<67108864) (A:List (List UInt8)) (hA:(if x.kind=2 then [keyS x.text] else [])=A) :
 Calls prog 178 #[.agg cs.toArray,.pointer (some ⟨tb,0,none⟩)] w λe w'=>e=.returned (.tuple #[])/\EvR n0 S0 w' mb tb (K ++ A)/\Off [mb] w w':=by
 obtain ⟨kv,cv,rfl,-,-,hts,-,f0,f1⟩:=h;obtain ⟨p,cap,rfl,-⟩:=f0;obtain ⟨pc,capc,rfl,-⟩:=f1;have BA:Bz w (w.alloc (.cells #[.int .i64 x.kind,.int .i64 x.n,.string x.text,.string x.mod,.slice p x.kids.length cap,.slice pc x.clauses.length capc] 74)):=(sqN _ _);have HV:=hid (hv.next BA);have HBA:=hid BA;have ct:=HV.out.b.cell 0 _ rfl;by_cases hk:x.kind=2
 . rw [if_pos hk] at hA
   subst hA;clear hv BA;rw [hk] at HV HBA ct ⊢;go_enter func178,ntmps178;go_wp2_with fail;refine (rem_any _ mb K x.text HV.out.m hts (by unfold maxLen;omega)).mono ?_;rintro e w1 ⟨rfl,hm1,ho1⟩;have h1:EvR n0 S0 w1 mb tb (K ++ [keyS x.text]):=⟨by unfold keyS;rw [ByteArray.toList_eq];exact hm1,(ho1.block tb HV.out.b.lt (by simpa using HV.out.ne)).trans HV.out.b,HV.out.ne⟩;go_wp2;go_end0;exact ⟨rfl,h1,(Off.of_below HBA.out).trans ho1⟩
 . rw [if_neg hk] at hA
   subst hA;rw [List.append_nil];have hkb:(x.kind == 2)=false:=(by simpa using hk);clear hv BA;go_enter func178,ntmps178;go_wp2;go_end0;exact ⟨rfl,HV.out,Off.of_below HBA.out⟩
def EeR (n0:Nat) (S0:List UInt8->Prop) (d:Nat):Prop:=∀ (w:World) (mb tb:Nat) (cs:List Value) (x:Ex) (K:List (List UInt8)),HEx w (λg=>g≠mb) d cs x->EvR n0 S0 w mb tb K->K.length+(varL d x).length<=33554432 ->
 Calls prog 177 #[.agg cs.toArray,FV tb] w λe w'=>e=.returned (.tuple #[])/\EvR n0 S0 w' mb tb (K ++ varL d x)/\Off [mb] w w'
def EoR (n0:Nat) (S0:List UInt8->Prop) (d:Nat):Prop:=∀ (w:World) (mb tb:Nat) (v:Value) (es:List Ex) (K:List (List UInt8)),Rows w (λg=>g≠mb) 6 (HEx w (λg=>g≠mb) d) v es->EvR n0 S0 w mb tb K->K.length+(es.flatMap (varL d)).length<=33554432 ->
 Calls prog 171 #[v,FV tb] w λe w'=>e=.returned (.tuple #[])/\EvR n0 S0 w' mb tb (K ++ es.flatMap (varL d))/\Off [mb] w w'
theorem eachOfR_of {d:Nat} (hE:EeR n0 S0 d):EoR n0 S0 d:=by
 intro w mb tb v es K hr hv hK;obtain ⟨p,cap,rfl,hcl,hcm,hx⟩:=hr;have hnb:=sqM hcl hcm;have HX:=hid hx;have HV:=hid hv;have HK:=hid hK;generalize hn:es.length=n at *;have HN:=hid hn;clear hx hv hK hn;go_enter func171,ntmps171;go_wp2_with fail
 go_loopw [8] (λiv wr=>∃ k:Nat,k<=n/\iv=.int .i64 k/\Hid (EvR n0 S0 wr mb tb (K ++ (es.take k).flatMap (varL d)))/\Hid (Off [mb] w wr)) (λiv _=>n - (intOf iv).toNat)
 case atStart=>exact ⟨0,Nat.zero_le _,rfl,by show EvR n0 S0 _ _ _ _;simpa using HV.out,Off.refl _ _⟩
 case round =>
  obtain ⟨k,hk,rfl,HVk,HOk⟩:=hrel;by_cases hlt:k<n
  . obtain ⟨x,hxk⟩:=sqA (l:=es) (k:=k) HN.out hlt
    obtain ⟨g,off,rfl,hgm,hgl,hat⟩:=HX.out (sqE hxk);obtain ⟨cs,hcsl,hcs,r1⟩:=hat k x hxk;have E1:=hid (r1.offN HOk.out);obtain ⟨c0,c1,c2,c3,c4,c5,rfl⟩:=len6 hcsl;have hge:wr.heap[g]?=w.heap[g]?:=HOk.out.block g hgl (by simpa using hgm);have a0:=(sqK (a:=⟨g,off+k * 6+0,none⟩) hge).trans (hcs 0 (by omega));have a1:=(sqK (a:=⟨g,off+k * 6+1,none⟩) hge).trans (hcs 1 (by omega));have a2:=(sqK (a:=⟨g,off+k * 6+2,none⟩) hge).trans (hcs 2 (by omega));have a3:=(sqK (a:=⟨g,off+k * 6+3,none⟩) hge).trans (hcs 3 (by omega));have a4:=(sqK (a:=⟨g,off+k * 6+4,none⟩) hge).trans (hcs 4 (by omega));have a5:=(sqK (a:=⟨g,off+k * 6+5,none⟩) hge).trans (hcs 5 (by omega));simp at a0 a1 a2 a3 a4 a5
    have HJ:Hid (K ++ (es.take (k+1)).flatMap (varL d)=K ++ (es.take k).flatMap (varL d) ++ varL d x):=by
     show _=_;rw [List.take_add_one,hxk];simp
    have HKk:Hid ((K ++ (es.take k).flatMap (varL d)).length+(varL d x).length<=33554432):=by
     have h1:=HK.out
     have h2:(es.flatMap (varL d))=(es.take k).flatMap (varL d) ++ (varL d x ++ (es.drop (k+1)).flatMap (varL d)):=by
      have h3:es=es.take k ++ x :: es.drop (k+1):=by
       have h4:=List.take_append_drop k es;rw [List.drop_eq_getElem_cons (by rw [HN.out];exact hlt)] at h4;have h5:es[k]'(by rw [HN.out];exact hlt)=x:=(List.getElem?_eq_some_iff.1 hxk).2;rw [h5] at h4;exact h4.symm
      conv=>lhs;rw [h3]
      simp
     rw [h2] at h1;show _<=_;simp only [List.length_append] at h1 ⊢;omega
    generalize K ++ (es.take k).flatMap (varL d)=Kk at *;have hki:(k:Int)<(n:Int):=(by omega);have hk0:=sqI k;clear hat hcs hcsl r1 hge;obtain ⟨sk,sn,st,se,p1,n1,q1,p2,n2,q2,hsh⟩:=HEx.shapeN E1.out;simp only [List.cons.injEq,and_true] at hsh;obtain ⟨rfl,rfl,rfl,rfl,rfl,rfl⟩:=hsh;have HBA:Hid (Bz wr (wr.alloc (.cells #[.int .i64 sk,.int .i64 sn,.string st,.string se,.slice p1 n1 q1,.slice p2 n2 q2] 74))):=(sqN _ _);go_wp2_with fail;refine (hE _ mb tb _ x Kk (E1.out.offN (Off.of_below HBA.out)) (HVk.out.next HBA.out) HKk.out).mono ?_;rintro e w1 ⟨rfl,hv1,ho1⟩;go_wp2_with fail;exact ⟨⟨k+1,by omega,by go_num,by show EvR n0 S0 _ _ _ _;rw [HJ.out];exact hv1,(HOk.out.trans (Off.of_below HBA.out)).trans ho1⟩,by simp [intOf];omega⟩
  . have HS:Hid (EvR n0 S0 wr mb tb (K ++ es.flatMap (varL d))):=by
     have:=HVk.out
     rwa [List.take_of_length_le (by rw [HN.out];omega)] at this
    go_wp2;go_end0;exact ⟨rfl,HS.out,HOk.out⟩
theorem eachExpR_of {d:Nat} (hO:EoR n0 S0 d):EeR n0 S0 (d+1):=by
 intro w mb tb cs x K h hv hK;have HEX:=hid h;obtain ⟨kv,cv,rfl,-,-,hts,-,f0,f1⟩:=h;obtain ⟨kx,nx,tx,mx,ks,cl⟩:=x;simp only [Ex.kind,Ex.n,Ex.text,Ex.mod,Ex.kids,Ex.clauses] at *;have hvl:varL (d+1) (.mk kx nx tx mx ks cl)=(if kx=2 then [keyS tx] else []) ++ (ks.flatMap (varL d) ++ cl.flatMap λc=>c.1.flatMap (varL d) ++ c.2.flatMap (varL d)):=rfl;rw [hvl] at hK ⊢;generalize hA:(if kx=2 then [keyS tx] else ([]:List (List UInt8)))=A at hK ⊢;have HA:=hid hA;simp only [List.length_append] at hK;have F0:=hid f0;obtain ⟨p,cap,rfl,-⟩:=id f0;obtain ⟨pc,capc,rfl,hcl',hcm',hxc⟩:=f1;have hnc:=sqM hcl' hcm';have HXC:=hid hxc;have HKK:=hid hK;generalize hm:cl.length=nc at *;have HNC:=hid hm;have HBA:Hid (Bz w (w.alloc (.cells #[.int .i64 kx,.int .i64 nx,.string tx,.string mx,.slice p ks.length cap,.slice pc nc capc] 74))):=(sqN _ _);have HV:=hid (hv.next HBA.out);have bA:Hid (Blk (w.alloc (.cells #[.int .i64 kx,.int .i64 nx,.string tx,.string mx,.slice p ks.length cap,.slice pc nc capc] 74)) w.heap.size #[.int .i64 kx,.int .i64 nx,.string tx,.string mx,.slice p ks.length cap,.slice pc nc capc] 74):=Blk.new;have hmb:mb≠w.heap.size:=(by have:=hv.m.lt;omega);clear f0 hxc hA hm hvl hv hK;go_enter func177,ntmps177;go_wp2_with fail;refine (cbkR_any _ mb tb d _ _ K (HEX.out.offN (Off.of_below HBA.out)) HV.out (by have:=HKK.out;omega) A HA.out).mono ?_;rintro e w1 ⟨rfl,hv1,ho1⟩;have HV1:=hid hv1;have HO1:Hid (Off [mb] w w1):=(Off.of_below HBA.out).trans ho1;have b1:Hid (Blk w1 w.heap.size #[.int .i64 kx,.int .i64 nx,.string tx,.string mx,.slice p ks.length cap,.slice pc nc capc] 74):=(ho1.block w.heap.size bA.out.lt (by simpa using λe=>hmb e.symm)).trans bA.out;have x4:=b1.out.cell 4 _ rfl;clear hv1 ho1 HV bA;go_wp2_with fail;refine (hO _ mb tb _ ks (K ++ A) (Rows.mono F0.out ⟨HO1.out.size,λg hg hl=>HO1.out.block g hl (by simpa using hg)⟩ sqj (λ_ _ _ h=>HEx.offN h HO1.out)) HV1.out (by have:=HKK.out;simp only [List.length_append];omega)).mono ?_;rintro e w2 ⟨rfl,hv2,ho2⟩;have HV2:=hid hv2;have HO2:=hid (HO1.out.trans ho2);have b2:Hid (Blk w2 w.heap.size #[.int .i64 kx,.int .i64 nx,.string tx,.string mx,.slice p ks.length cap,.slice pc nc capc] 74):=(ho2.block w.heap.size b1.out.lt (by simpa using λe=>hmb e.symm)).trans b1.out;have x5:=b2.out.cell 5 _ rfl;clear hv2 ho2 x4 b1 HV1 HO1;go_wp2_with fail
 go_loopw [16] (λiv wr=>∃ k:Nat,k<=nc/\iv=.int .i64 k/\Hid (EvR n0 S0 wr mb tb (K ++ A ++ ks.flatMap (varL d) ++ (cl.take k).flatMap λc=>c.1.flatMap (varL d) ++ c.2.flatMap (varL d)))/\Hid (Off [mb] w wr)) (λiv _=>nc - (intOf iv).toNat)
 case atStart=>exact ⟨0,Nat.zero_le _,rfl,by show EvR n0 S0 _ _ _ _;simpa using HV2.out,HO2.out⟩
 case round =>
  obtain ⟨k,hk,rfl,HVk,HOk⟩:=hrel;clear x5 HV2 HO2 b2;by_cases hlt:k<nc
  . obtain ⟨c,hck⟩:∃ c,cl[k]?=some c:=⟨cl[k]'(by rw [HNC.out];exact hlt),List.getElem?_eq_getElem _⟩
    obtain ⟨g,off,rfl,hgm,hgl,hat⟩:=HXC.out (sqE hck);obtain ⟨cs,hcsl,hcs,pv,bv,rfl,rp,rb⟩:=hat k c hck;have SK:Hid (SameOn (λg=>g≠mb) w wr):=⟨HOk.out.size,λg hg hl=>HOk.out.block g hl (by simpa using hg)⟩;have RP:=hid (Rows.mono rp SK.out sqj (λ_ _ _ h=>HEx.offN h HOk.out));have RB:=hid (Rows.mono rb SK.out sqj (λ_ _ _ h=>HEx.offN h HOk.out));obtain ⟨pp,capp,rfl,-⟩:=rp;obtain ⟨pb,capb,rfl,-⟩:=rb;have hge:wr.heap[g]?=w.heap[g]?:=HOk.out.block g hgl (by simpa using hgm);have a0:=(sqK (a:=⟨g,off+k * 2+0,none⟩) hge).trans (hcs 0 (by omega));have a1:=(sqK (a:=⟨g,off+k * 2+1,none⟩) hge).trans (hcs 1 (by omega));simp at a0 a1
    have HJ:Hid ((K ++ A ++ ks.flatMap (varL d) ++ (cl.take (k+1)).flatMap λc=>c.1.flatMap (varL d) ++ c.2.flatMap (varL d))=(K ++ A ++ ks.flatMap (varL d) ++ (cl.take k).flatMap λc=>c.1.flatMap (varL d) ++ c.2.flatMap (varL d)) ++ c.1.flatMap (varL d) ++ c.2.flatMap (varL d)):=by
     show _=_;rw [List.take_add_one,hck];simp
    have HKk:Hid ((K ++ A ++ ks.flatMap (varL d) ++ (cl.take k).flatMap λc=>c.1.flatMap (varL d) ++ c.2.flatMap (varL d)).length+(c.1.flatMap (varL d)).length+(c.2.flatMap (varL d)).length<=33554432):=by
     have h1:=HKK.out
     have h2:(cl.flatMap λc=>c.1.flatMap (varL d) ++ c.2.flatMap (varL d))=((cl.take k).flatMap λc=>c.1.flatMap (varL d) ++ c.2.flatMap (varL d)) ++ ((c.1.flatMap (varL d) ++ c.2.flatMap (varL d)) ++ (cl.drop (k+1)).flatMap λc=>c.1.flatMap (varL d) ++ c.2.flatMap (varL d)):=by
      have h3:cl=cl.take k ++ c :: cl.drop (k+1):=by
       have h4:=List.take_append_drop k cl;rw [List.drop_eq_getElem_cons (by rw [HNC.out];exact hlt)] at h4;have h5:cl[k]'(by rw [HNC.out];exact hlt)=c:=(List.getElem?_eq_some_iff.1 hck).2;rw [h5] at h4;exact h4.symm
      conv=>lhs;rw [h3]
      simp
     rw [h2] at h1;show _<=_;simp only [List.length_append] at h1 ⊢;omega
    generalize (K ++ A ++ ks.flatMap (varL d) ++ (cl.take k).flatMap λc=>c.1.flatMap (varL d) ++ c.2.flatMap (varL d))=Kk at *;have hki:(k:Int)<(nc:Int):=(by omega);have hk0:=sqI k;have hmw:mb≠wr.heap.size:=(by have:=HVk.out.m.lt;omega);have HBC:Hid (Bz wr (wr.alloc (.cells #[.slice pp c.1.length capp,.slice pb c.2.length capb] 44))):=(sqN _ _);have bC:Hid (Blk (wr.alloc (.cells #[.slice pp c.1.length capp,.slice pb c.2.length capb] 44)) wr.heap.size #[.slice pp c.1.length capp,.slice pb c.2.length capb] 44):=Blk.new;clear hat hcs hcsl hge;go_wp2_with fail;refine (hO _ mb tb _ c.1 Kk (Rows.mono RP.out ⟨HBC.out.size,λg _ hl=>HBC.out.block g hl⟩ sqj (λ_ _ _ h=>HEx.offN h (Off.of_below HBC.out))) (HVk.out.next HBC.out) (by have:=HKk.out;omega)).mono ?_;rintro e w3 ⟨rfl,hv3,ho3⟩;have HV3:=hid hv3;have HO3:Hid (Off [mb] wr w3):=(Off.of_below HBC.out).trans ho3;have b3:Blk w3 wr.heap.size #[.slice pp c.1.length capp,.slice pb c.2.length capb] 44:=(ho3.block wr.heap.size bC.out.lt (by simpa using λe=>hmw e.symm)).trans bC.out;have y1:=b3.cell 1 _ rfl;clear hv3 ho3 bC b3 a0 a1;go_wp2_with fail;refine (hO _ mb tb _ c.2 (Kk ++ c.1.flatMap (varL d)) (Rows.mono RB.out ⟨HO3.out.size,λg hg hl=>HO3.out.block g hl (by simpa using hg)⟩ sqj (λ_ _ _ h=>HEx.offN h HO3.out)) HV3.out (by have:=HKk.out;simp only [List.length_append];omega)).mono ?_;rintro e w4 ⟨rfl,hv4,ho4⟩;go_wp2_with fail;exact ⟨⟨k+1,by omega,by go_num,by show EvR n0 S0 _ _ _ _;rw [HJ.out];exact hv4,(HOk.out.trans HO3.out).trans ho4⟩,by simp [intOf];omega⟩
  . have HS:Hid (EvR n0 S0 wr mb tb (K ++ (A ++ (ks.flatMap (varL d) ++ cl.flatMap λc=>c.1.flatMap (varL d) ++ c.2.flatMap (varL d))))):=by
     have:=HVk.out;rw [List.take_of_length_le (by rw [HNC.out];omega)] at this;show EvR n0 S0 _ _ _ _
     simpa only [List.append_assoc] using this
    go_wp2;go_end0;exact ⟨rfl,HS.out,HOk.out⟩
theorem eachExpR_all:∀ d,EeR n0 S0 d
 | 0=>λw mb tb cs x K h _ _=>h.elim
 | d+1=>eachExpR_of (eachOfR_of (eachExpR_all d))
theorem eachVarR_any (w:World) (mb d:Nat) (cs:List Value) (x:Ex) (K:List (List UInt8)) (h:HEx w (λg=>g≠mb) d cs x) (hm:RemAt n0 S0 w mb K) (hK:K.length+(varL d x).length<=33554432) :
 Calls prog 148 #[.agg cs.toArray,.func (.func 189) #[.map (some mb)] #[]] w λe w'=>e=.returned (.tuple #[])/\RemAt n0 S0 w' mb (K ++ varL d x)/\Off [mb] w w':=by
 obtain ⟨sk,sn,st,se,p1,n1,q1,p2,n2,q2,rfl⟩:=HEx.shapeN h;have HH:=hid h;have HM:=hid hm;have hlt:=hm.lt;clear h hm;go_enter func148,ntmps148;go_wp2_with fail;have hB:Bz w ((w.alloc (.cells #[.int .i64 sk,.int .i64 sn,.string st,.string se,.slice p1 n1 q1,.slice p2 n2 q2] 74)).alloc (.cells #[.func (.func 189) #[.map (some mb)] #[]] 196)):=((sqN _ _)).alloc (by simp) _
 have hE:EvR n0 S0 ((w.alloc (.cells #[.int .i64 sk,.int .i64 sn,.string st,.string se,.slice p1 n1 q1,.slice p2 n2 q2] 74)).alloc (.cells #[.func (.func 189) #[.map (some mb)] #[]] 196)) mb (w.heap.size+1) K:=⟨HM.out.keep (hB.block mb hlt),by
  have:=Blk.new (w:=w.alloc (.cells #[.int .i64 sk,.int .i64 sn,.string st,.string se,.slice p1 n1 q1,.slice p2 n2 q2] 74)) (cs:=#[.func (.func 189) #[.map (some mb)] #[]]) (t:=196)
  rwa [alloc_hs] at this,by omega⟩
 refine (eachExpR_all d _ mb (w.heap.size+1) _ x K (HH.out.offN (Off.of_below hB)) hE hK).mono ?_;rintro e w1 ⟨rfl,hv1,ho1⟩;go_wp2;go_end0;exact ⟨rfl,hv1.m,(Off.of_below hB).trans ho1⟩
end
end Go.Proofs.YtbdhpganbbandaaGreatDoor
