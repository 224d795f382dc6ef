/-
  AtImplC
-/
import Derived.Test.YtbdhpganbbandaaGreatDoorP36
import Derived.Test.YtbdhpganbbandaaGreatDoorP28
import Derived.Test.YtbdhpganbbandaaGreatDoorP43
set_option maxHeartbeats 16000000
set_option linter.unusedVariables false
set_option maxRecDepth 100000
namespace Go.Proofs.YtbdhpganbbandaaGreatDoor
open Go.ChangeShapes Go.WideShapes Go.ChangeAt Go.RowKit
section
open Go.Maps Go.WideMaps Go.Sort Go.Proofs.Tryz
theorem rows_apart {α:Type} {w:World} {S:Nat->Prop} {c mb:Nat} (hc0:0<c) {R R':List Value->α->Prop} {v:Value} {xs:List α} (h:Rows w S c R v xs) (hm:∀ o,w.cell? ⟨mb,o,none⟩=none) (hR:∀ cs x,R cs x->R' cs x):Rows w (λg=>g≠mb) c R' v xs:=by
 obtain ⟨p,cap,hv,h1,h2,h3⟩:=h;refine ⟨p,cap,hv,h1,h2,λhne=>?_⟩;obtain ⟨g,off,hp,hg,hlt,hx⟩:=h3 hne;refine ⟨g,off,hp,?_,hlt,λi x hi=>?_⟩
 . rintro rfl
   obtain ⟨y,hy⟩:∃ y,xs[0]?=some y:=by
    cases xs with
    | nil=>exact absurd rfl hne
    | cons y ys=>exact ⟨y,rfl⟩
   obtain ⟨cs,hl,hc,-⟩:=hx 0 y hy;have:=hc 0 hc0;rw [hm,List.getElem?_eq_getElem (by omega)] at this
   cases this
 . obtain ⟨cs,hl,hc,hr⟩:=hx i x hi
   exact ⟨cs,hl,hc,hR cs x hr⟩
theorem HEx.apart {w:World} {S:Nat->Prop} {mb:Nat} (hm:∀ o,w.cell? ⟨mb,o,none⟩=none):∀ {d:Nat} {cs:List Value} {x:Ex},HEx w S d cs x->HEx w (λg=>g≠mb) d cs x
 | 0,_,_,h=>h.elim
 | d+1,cs,x,h=>by
  obtain ⟨kv,cv,rfl,h1,h2,h3,h4,hk,hc⟩:=h;refine ⟨kv,cv,rfl,h1,h2,h3,h4,rows_apart (by decide) hk hm (λ_ _ h=>h.apart hm),rows_apart (by decide) hc hm (λ_ _ h=>?_)⟩;obtain ⟨p,b,rfl,g1,g2⟩:=h;exact ⟨p,b,rfl,rows_apart (by decide) g1 hm (λ_ _ h=>h.apart hm),rows_apart (by decide) g2 hm (λ_ _ h=>h.apart hm)⟩
theorem MapAt.nocell {w:World} {mb:Nat} {K:List (List UInt8)} (h:MapAt w mb K) (o:Nat):w.cell? ⟨mb,o,none⟩=none:=by
 obtain ⟨es,clock,h1,-⟩:=h;unfold World.cell?;simp [h1]
theorem ownG_low {α:Type} {e:TypeId} {c:Nat} {R:List Value->α->Prop} {w:World} {B:Nat} {v:Value} {l:List α} (h:OwnG e c R w B v l):Rows w (λg=>B<=g) c R v l:=by
 obtain ⟨⟨cells,g1,g2⟩,-⟩:=h;obtain ⟨p,cap,rfl,h1,h2,h3⟩:=CellsR.rows g1 g2 rfl;refine ⟨p,cap,rfl,h1,h2,λhne=>?_⟩;obtain ⟨g,off,rfl,-,hlt,hx⟩:=h3 hne;refine ⟨g,off,rfl,?_,hlt,hx⟩
 rcases g1.2 with ⟨hv,-⟩ | ⟨g',cap',cur,hv,hB,-⟩
 . cases hv
 . simp only [Value.slice.injEq,Option.some.injEq,Addr.mk.injEq] at hv
   rw [hv.1.1];exact hB
def clauseL (d:Nat) (c:Cl):List (List UInt8):=(c.1 ++ c.2).flatMap (varL d)
theorem clauseL_ex (d:Nat) (c:Cl):varL (d+1) (.mk 10 0 ByteArray.empty ByteArray.empty [] [c])=clauseL d c:=by
 show (if (10:Int)=2 then [keyS ByteArray.empty] else []) ++ (([]:List Ex).flatMap (varL d) ++ [c].flatMap λc=>c.1.flatMap (varL d) ++ c.2.flatMap (varL d))=_;simp [clauseL]
theorem clauseL_len (d:Nat) (c:Cl) (h:1+wtCl (wtEx d) c<=16777216) (k:Nat):(((c.1 ++ c.2).take k).flatMap (varL d)).length<=16777216:=by
 have h1:=flat_len (varL d) (wtEx d) ((c.1 ++ c.2).take k) (λy _=>varL_len d y)
 have h2:wtS (wtEx d) ((c.1 ++ c.2).take k)<=wtS (wtEx d) (c.1 ++ c.2):=by
  have:=sum_take_le (wtEx d) (c.1 ++ c.2) k;unfold wtS;rw [List.length_take];omega
 have h3:wtS (wtEx d) (c.1 ++ c.2)=wtCl (wtEx d) c:=by
  show _=wtS (wtEx d) c.1+wtS (wtEx d) c.2;simp [wtS];omega
 omega
theorem clauseL_all (d:Nat) (c:Cl) (z:List UInt8):z ∈ (clauseVars d c).map keyS ↔ z ∈ clauseL d c:=by
 rw [<-clauseL_ex,clauseVars_ex];refine ⟨λhz=>?_,allV_all _ _ z⟩;obtain ⟨s,hs,rfl⟩:=List.mem_map.1 hz;exact allV_sub _ _ s hs
theorem clauseVars_nd (d:Nat) (c:Cl):NdK (clauseVars d c):=by rw [clauseVars_ex];exact allV_nd _ _
theorem rows_other {w w':World} {d mb:Nat} {v:Value} {es:List Ex} (h:Rows w (λg=>g<w.heap.size) 6 (HEx w (λg=>g<w.heap.size) d) v es) (hb:Bz w w') (hm:w.heap.size<=mb):Rows w' (λg=>g≠mb) 6 (HEx w' (λg=>g≠mb) d) v es :=
 h.mono (sqO hb) (λg (hg:g<w.heap.size)=>by show g≠mb;omega) (λ_ _ _ h=>h.mono (sqO hb) (λg (hg:g<w.heap.size)=>by show g≠mb;omega))
theorem varsOf_any (d:Nat) (w:World) (p:Option Addr) (n cap:Nat) (es:List Ex) (hn:es.length=n) (h:Rows w (λg=>g<w.heap.size) 6 (HEx w (λg=>g<w.heap.size) d) (.slice p n cap) es) (hl:∀ k,((es.take k).flatMap (varL d)).length<=16777216) :
 Calls prog 117 #[.slice p n cap] w λe w'=>e=.returned (.map (some w.heap.size))/\MapAt w' w.heap.size (es.flatMap (varL d))/\Bz w w':=by
 have hm:=@mkMap;obtain ⟨W1,hW1⟩:∃ W1,W1=w.alloc (.map #[] 0):=⟨_,rfl⟩;have B1:Hid (Bz w W1):=(by show Below _ _ _;rw [hW1];exact (sqN _ _));have M1:Hid (MapAt W1 w.heap.size []):=(by show MapAt _ _ _;rw [hW1];exact MapAt.made w);have S1:w.heap.size<W1.heap.size:=M1.out.lt;have HW1:=hid hW1;have HR1:=hid (rows_other h B1.out (sqR _));have HNL:=hid hl;have HNE:=hid hn;obtain ⟨p',cap',hpu,hcl5,hcm5,hx5⟩:=HR1.out;simp only [Value.slice.injEq] at hpu;obtain ⟨rfl,-,rfl⟩:=hpu;have hnb:n<=9223372036854775807:=(by unfold maxLen at hcm5;omega);have HX5:=hid hx5;clear hW1 h hl hn hx5 hcl5 hcm5 HR1;go_enter func117,ntmps117;go_wp2_with (rw [<-HW1.out])
 go_loopw [9] (λiv wr=>∃ k:Nat,k<=n/\iv=.int .i64 k/\Hid (MapAt wr w.heap.size ((es.take k).flatMap (varL d)))/\Hid (Off [w.heap.size] W1 wr)) (λiv _=>n - (intOf iv).toNat)
 case atStart=>exact ⟨0,Nat.zero_le _,rfl,by show MapAt _ _ _;simpa using M1.out,Off.refl _ _⟩
 case round =>
  clear hm HW1;obtain ⟨k,hk,rfl,hmk,hof⟩:=hrel;by_cases hlt:k<n
  . obtain ⟨x,hxk⟩:∃ x,es[k]?=some x:=⟨es[k]'(by rw [HNE.out];exact hlt),List.getElem?_eq_getElem _⟩
    obtain ⟨g,off,rfl,hgm,hgl,hat⟩:=HX5.out (sqE hxk);obtain ⟨xcs,hxl,hxcs,hxe⟩:=hat k x hxk;have hgk:wr.heap[g]?=W1.heap[g]?:=hof.out.block g hgl (by simpa using hgm);have HEX:=hid (hxe.offN hof.out);obtain ⟨sk,sn,st,se,p3,n3,q3,p4,n4,q4,rfl⟩:=HEx.shapeN hxe;have c0:=hxcs 0 (by omega);have c1:=hxcs 1 (by omega);have c2:=hxcs 2 (by omega);have c3:=hxcs 3 (by omega);have c4:=hxcs 4 (by omega);have c5:=hxcs 5 (by omega);clear hxcs hat;rw [<-sqK (w:=W1) (w':=wr) (a:=⟨g,_,none⟩) hgk] at c0 c1 c2 c3 c4 c5;simp at c0 c1 c2 c3 c4 c5;have hki:(k:Int)<(n:Int):=(by omega);have hk0:=sqI k
    have HKS:Hid ((es.take (k+1)).flatMap (varL d)=(es.take k).flatMap (varL d) ++ varL d x):=by
     show _=_;rw [List.take_add_one,hxk];simp
    have HKL:Hid (((es.take k).flatMap (varL d)).length+(varL d x).length<=33554432):=by
     show _<=_;have h1:=HNL.out (k+1);rw [HKS.out,List.length_append] at h1;omega
    have K6:Hid (Bz wr (wr.alloc (.cells #[.int .i64 sk,.int .i64 sn,.string st,.string se,.slice p3 n3 q3,.slice p4 n4 q4] 74))):=(sqN _ _);clear hxl hxe hgk;go_wp2_with fail;refine (eachVar_any _ w.heap.size d _ x ((es.take k).flatMap (varL d)) (HEX.out.offN (Off.of_below K6.out)) (hmk.out.keep (K6.out.block _ hmk.out.lt)) HKL.out).mono ?_;rintro e w7 ⟨rfl,hm7,ho7⟩;have M7:Hid (MapAt w7 w.heap.size ((es.take (k+1)).flatMap (varL d))):=(by show MapAt _ _ _;rw [HKS.out];exact hm7);have O7:=hid (hof.out.trans ((Off.of_below K6.out).trans ho7));clear hm7 ho7 c0 c1 c2 c3 c4 c5 K6;go_wp2_with fail;exact ⟨⟨k+1,by omega,by go_num,M7.out,O7.out⟩,by simp [intOf];omega⟩
  . have hek:es.take k=es:=List.take_of_length_le (by rw [HNE.out];omega)
    rw [hek] at hmk;have B8:=hid (B1.out.trans (hof.out.below (by simp) B1.out.size));clear hek;go_wp2;go_ret;exact ⟨rfl,hmk.out,B8.out⟩
theorem clauseVars_any (d:Nat) (w:World) (p1 p2:Option Addr) (c1 c2 n1 n2:Nat) (c:Cl) (hn1:c.1.length=n1) (hn2:c.2.length=n2) (hp:Rows w All 6 (HEx w All d) (.slice p1 n1 c1) c.1) (hb:Rows w All 6 (HEx w All d) (.slice p2 n2 c2) c.2) (hw:1+wtCl (wtEx d) c<=16777216) :
 Calls prog 81 #[.agg #[.slice p1 n1 c1,.slice p2 n2 c2]] w λe w'=>∃ u,e=.returned u/\OwnS w' w.heap.size u (sortS (clauseVars d c))/\Bz w w':=by
 have HLL:Hid (c.1.length+c.2.length<=16777216):=by
  have h1:wtCl (wtEx d) c=wtS (wtEx d) c.1+wtS (wtEx d) c.2:=rfl;show _<=_;unfold wtS at h1;omega
 have HWC:=hid hw;obtain ⟨W1,hW1⟩:∃ W1,W1=w.alloc (.cells #[.slice p1 n1 c1,.slice p2 n2 c2] 44):=⟨_,rfl⟩;have b1:Bz w W1:=(by rw [hW1];exact (sqN _ _));have HC1:Hid (Blk W1 w.heap.size #[.slice p1 n1 c1,.slice p2 n2 c2] 44):=(by show Blk _ _ _ _;rw [hW1];exact Blk.new);obtain ⟨W2,hW2⟩:∃ W2,W2=W1.alloc (.cells #[.slice p1 n1 c1,.slice p2 n2 c2] 42):=⟨_,rfl⟩;have b2:Bz W1 W2:=(by rw [hW2];exact (sqN _ _));have B2:=hid (b1.trans (b2.mono b1.size));have BK2:Blk W2 W1.heap.size #[.slice p1 n1 c1,.slice p2 n2 c2] 42:=(by rw [hW2];exact Blk.new);have HW1:=hid hW1;have HW2:=hid hW2;have RP:Rows W2 All 6 (HEx w (λg=>g<w.heap.size) d) (.slice p1 n1 c1) c.1:=hp.mono (sqO B2.out) sqj (λ_ _ _ h=>h.tight);have RB:Rows W2 All 6 (HEx w (λg=>g<w.heap.size) d) (.slice p2 n2 c2) c.2:=hb.mono (sqO B2.out) sqj (λ_ _ _ h=>h.tight)
 have CC:Hid (Calls prog 118 #[.slice (some ⟨W1.heap.size,0,none⟩) 2 2] W2 λe w'=>∃ u,e=.returned u/\OwnG 74 6 (HEx w (λg=>g<w.heap.size) d) w' W2.heap.size u (c.1 ++ c.2)/\Bz W2 w'):=by
  subst hn1;subst hn2;exact concatEx_any (HEx w (λg=>g<w.heap.size) d) exc_oneCell W2 W1.heap.size p1 p2 c1 c2 c.1 c.2 BK2 RP RB HLL.out
 have a0:W1.cell? ⟨w.heap.size,0,none⟩=some (.slice p1 n1 c1):=HC1.out.cell 0 _ rfl;have a1:W1.cell? ⟨w.heap.size,1,none⟩=some (.slice p2 n2 c2):=HC1.out.cell 1 _ rfl;clear hp hb hw hW1 hW2 b1 b2 BK2 RP RB hn1 hn2;go_enter func81,ntmps81;go_wp2_with (first | rw [<-HW1.out] | rw [<-HW2.out]);refine CC.out.mono ?_;rintro e w5 ⟨u,rfl,ho,hb⟩;obtain ⟨pu,cu,hu,-⟩:=ho.slice;obtain ⟨ne,hne⟩:∃ ne,(c.1 ++ c.2).length=ne:=⟨_,rfl⟩;rw [hne] at hu;subst hu;have B5:=hid (B2.out.trans (hb.mono B2.out.size))
 have HR5:Rows w5 (λg=>g<w5.heap.size) 6 (HEx w5 (λg=>g<w5.heap.size) d) (.slice pu ne cu) (c.1 ++ c.2) :=
  (ownG_low ho).tight (λ_ _ h=>h.mono (sqO B5.out) (λg (hg:g<w.heap.size)=>Nat.lt_of_lt_of_le hg B5.out.size))
 have CV:=hid (varsOf_any d w5 pu _ cu _ hne HR5 (clauseL_len d c HWC.out));clear ho hb HR5 a0 a1 hne;go_wp2_with fail;refine CV.out.mono ?_;rintro e w7 ⟨rfl,hm7,hb7⟩;have B7:=hid (B5.out.trans (hb7.mono B5.out.size));have M7:=hid hm7
 have HLE:Hid (((c.1 ++ c.2).flatMap (varL d)).length<=67108864):=by
  have h:=clauseL_len d c HWC.out (c.1 ++ c.2).length;rw [List.take_of_length_le (sqR _)] at h;show _<=_;omega
 have CL:=hid (list_any w7 w5.heap.size _ (clauseVars d c) M7.out HLE.out (clauseVars_nd d c) (λx=>clauseL_all d c x));clear hm7 hb7 CV;go_wp2_with fail;refine CL.out.mono ?_;rintro e w9 ⟨u,rfl,ho,hb⟩;have HO:=hid (ho.base B7.out.size);have B9:=hid (B7.out.trans (hb.mono B7.out.size));clear ho hb;go_wp2;go_ret;exact ⟨u,rfl,HO.out,B9.out⟩
theorem implVarsAt_any (d:Nat) (w:World) (v:Value) (ms:List Md) (q:Pl) (hT:Tabs w) (h:Rows w All 3 (HMd w All d) v ms) (hw:wtS (wtMd d) ms<=16777216) :
 Calls prog 54 #[v,.agg #[.string q.mod,.string q.name,.int .i64 q.arity,.int .i64 q.clause]] w λe w'=>∃ u,e=.returned u/\OwnS w' w.heap.size u (varsAt d ms q)/\Bz w w':=by
 have HTAB:=hid hT;have HR:Hid (∀ w',Bz w w'->Rows w' All 3 (HMd w' All d) v ms):=λw' hw=>h.mono (sqO hw) sqj (λ_ _ _ h=>h.mono (sqO hw) sqj);obtain ⟨W1,hW1⟩:∃ W1,W1=w.alloc (.cells #[.string q.mod,.string q.name,.int .i64 q.arity,.int .i64 q.clause] 31):=⟨_,rfl⟩;have bA:Hid (Blk W1 w.heap.size #[.string q.mod,.string q.name,.int .i64 q.arity,.int .i64 q.clause] 31):=(by show Blk _ _ _ _;rw [hW1];exact Blk.new);have B1:Hid (Bz w W1):=(by show Below _ _ _;rw [hW1];exact (sqN _ _));have HW1:=hid hW1;have CP:=hid (implProgramOk_any d W1 v ms (HTAB.out.below B1.out) (HR.out _ B1.out))
 have HV:Hid (varsAt d ms q=if pgOk d ms then (match clauseOf ms q with
  | none=>[]
  | some c=>sortS (clauseVars d c)) else []):=rfl
 have HWT:Hid (∀ c,clauseOf ms q=some c->1+wtCl (wtEx d) c<=16777216):=λc hc=>Nat.le_trans (clauseOf_wt1 hc) hw;have HPG:Hid (pgOk d ms=true->OneName ms):=pgOk_one;obtain ⟨p,cap,rfl,-⟩:=h;have CC:Hid (∀ w',Bz w w'->OneName ms->Calls prog 26 #[.slice p ms.length cap,.agg #[.string q.mod,.string q.name,.int .i64 q.arity,.int .i64 q.clause]] w' λe w''=>ClQ d ms q (.slice p ms.length cap) w'' e/\Below w'.heap.size w' w''):=λw' hb hu=>clauseAt_any d w' _ ms q (HR.out _ hb) hu;clear hW1 hw hT;generalize ms.length=n at *;generalize hX:varsAt d ms q=X at *;clear hX;generalize hP:pgOk d ms=P at *;clear hP;go_enter func54,ntmps54;go_wp2_with (rw [<-HW1.out]);refine CP.out.mono ?_;rintro e w2 ⟨rfl,hb⟩;have B2:=hid (B1.out.trans (hb.mono B1.out.size));have bA2:=hid (bA.out.next hb);clear hb B1 CP HW1 bA
 cases P with
 | false =>
  have HX:Hid (X = []):=by
   show X = [];rw [HV.out];rfl
  go_wp2;go_ret;exact ⟨_,rfl,by rw [HX.out];exact OwnS.fresh.base B2.out.size,B2.out.trans (((sqN _ _)).mono B2.out.size)⟩
 | true =>
  obtain ⟨y0,y1,y2,y3⟩:=sqB4 bA2.out;go_wp2_with fail;refine (CC.out _ B2.out (HPG.out (by first | rfl | trivial))).mono ?_;rintro e w3 ⟨hq,hb⟩;have B3:=hid (B2.out.trans (hb.mono B2.out.size));clear hb y0 y1 y2 y3 B2 bA2 CC
  rcases hq with ⟨rfl,hno⟩ | ⟨gc,o,c,rfl,hc,hP⟩
  . have HX:Hid (X = []):=by
     show X = [];rw [HV.out,hno];rfl
    clear hno;go_wp2;go_ret;exact ⟨_,rfl,by rw [HX.out];exact OwnS.fresh.base B3.out.size,B3.out.trans (((sqN _ _)).mono B3.out.size)⟩
  . have HX:Hid (X=sortS (clauseVars d c)):=by
     show X=_;rw [HV.out,hc];rfl
    have hwc:=HWT.out c hc;obtain ⟨_,_,_,_,_,_,-,_,_,_,-,-,hgc,-,-,cs,hcl,hcs,pv,bv,rfl,hp,hb⟩:=hP;obtain ⟨p1,c1,rfl,-⟩:=id hp;obtain ⟨p2,c2,rfl,-⟩:=id hb;have CV:=hid (clauseVars_any d w3 p1 p2 c1 c2 _ _ c rfl rfl hp hb hwc);obtain ⟨a0,a1⟩:=sqC2 hcs (by omega);have A0:w3.cell? ⟨gc,o,none⟩=some (.slice p1 c.1.length c1):=a0;have A1:w3.cell? ⟨gc,o+1,none⟩=some (.slice p2 c.2.length c2):=a1;clear hcs hcl hc HWT a0 a1 hp hb hwc;go_wp2_with fail;refine CV.out.mono ?_;rintro e w9 ⟨u,rfl,ho,hb⟩;have HO:=hid (ho.base B3.out.size);have B9:=hid (B3.out.trans (hb.mono B3.out.size));clear ho hb;go_wp2;go_ret;exact ⟨u,rfl,by rw [HX.out];exact HO.out,B9.out⟩
end
end Go.Proofs.YtbdhpganbbandaaGreatDoor
