/-
  AtImplC
-/
import Derived.Test.YtdhlonogmnkemaaGreatDoorP03
import Derived.Test.YtdhlonogmnkemaaGreatDoorP23
import Derived.Test.YtdhlonogmnkemaaGreatDoorP16
import Derived.Test.YtdhlonogmnkemaaGreatDoorP28
set_option maxHeartbeats 16000000
namespace Go.Proofs.YtdhlonogmnkemaaGreatDoor
open Go.ChangeShapes Go.WideShapes Go.ChangeAt Go.RowKit Go.Maps Go.WideMaps Go.Sort Go.Proofs.Tryz
set_option linter.unusedVariables false
set_option maxRecDepth 100000
theorem rows_apart {α:Type} {w:World} {S:Nat→Prop} {c mb:Nat} (hc0:0<c) {R R':List Value→α→Prop} {v:Value} {xs:List α} (h:Rows w S c R v xs) (hm:∀ o,w.cell? ⟨mb,o,none⟩=none) (hR:∀ cs x,R cs x→R' cs x):Rows w (fun g=>g≠mb) c R' v xs:=by
 obtain ⟨p,cap,hv,h1,h2,h3⟩:=h;refine ⟨p,cap,hv,h1,h2,fun hne=>?_⟩;obtain ⟨g,off,hp,hg,hlt,hx⟩:=h3 hne;refine ⟨g,off,hp,?_,hlt,fun i x hi=>?_⟩
 · rintro rfl
   obtain ⟨y,hy⟩:∃ y,xs[0]?=some y:=by
    cases xs with
    | nil=>exact absurd rfl hne
    | cons y ys=>exact ⟨y,rfl⟩
   obtain ⟨cs,hl,hc,-⟩:=hx 0 y hy;have:=hc 0 hc0;rw [hm,List.getElem?_eq_getElem (by omega)] at this
   cases this
 · obtain ⟨cs,hl,hc,hr⟩:=hx i x hi
   exact ⟨cs,hl,hc,hR cs x hr⟩
theorem HEx.apart {w:World} {S:Nat→Prop} {mb:Nat} (hm:∀ o,w.cell? ⟨mb,o,none⟩=none):∀ {d:Nat} {cs:List Value} {x:Ex},HEx w S d cs x→HEx w (fun g=>g≠mb) d cs x
 | 0,_,_,h=>h.elim
 | d+1,cs,x,h=>by
  obtain ⟨kv,cv,rfl,h1,h2,h3,h4,hk,hc⟩:=h;refine ⟨kv,cv,rfl,h1,h2,h3,h4,rows_apart (by decide) hk hm (fun _ _ h=>h.apart hm),rows_apart (by decide) hc hm (fun _ _ h=>?_)⟩;obtain ⟨p,b,rfl,g1,g2⟩:=h;exact ⟨p,b,rfl,rows_apart (by decide) g1 hm (fun _ _ h=>h.apart hm),rows_apart (by decide) g2 hm (fun _ _ h=>h.apart hm)⟩
theorem MapAt.nocell {w:World} {mb:Nat} {K:List (List UInt8)} (h:MapAt w mb K) (o:Nat):w.cell? ⟨mb,o,none⟩=none:=by
 obtain ⟨es,clock,h1,-⟩:=h;unfold World.cell?;simp [h1]
theorem ownG_low {α:Type} {e:TypeId} {c:Nat} {R:List Value→α→Prop} {w:World} {B:Nat} {v:Value} {l:List α} (h:OwnG e c R w B v l):Rows w (fun g=>B≤g) c R v l:=by
 obtain ⟨⟨cells,g1,g2⟩,-⟩:=h;obtain ⟨p,cap,rfl,h1,h2,h3⟩:=CellsR.rows g1 g2 rfl;refine ⟨p,cap,rfl,h1,h2,fun hne=>?_⟩;obtain ⟨g,off,rfl,-,hlt,hx⟩:=h3 hne;refine ⟨g,off,rfl,?_,hlt,hx⟩
 rcases g1.2 with ⟨hv,-⟩ | ⟨g',cap',cur,hv,hB,-⟩
 · cases hv
 · simp only [Value.slice.injEq,Option.some.injEq,Addr.mk.injEq] at hv
   rw [hv.1.1];exact hB
def clauseL (d:Nat) (c:Cl):List (List UInt8):=(c.1 ++ c.2).flatMap (varL d)
theorem clauseL_ex (d:Nat) (c:Cl):varL (d+1) (.mk 10 0 ByteArray.empty ByteArray.empty [] [c])=clauseL d c:=by
 show (if (10:Int)=2 then [keyS ByteArray.empty] else []) ++ (([]:List Ex).flatMap (varL d) ++ [c].flatMap fun c=>c.1.flatMap (varL d) ++ c.2.flatMap (varL d))=_;simp [clauseL]
theorem clauseL_len (d:Nat) (c:Cl) (h:1+wtCl (wtEx d) c≤16777216) (k:Nat):(((c.1 ++ c.2).take k).flatMap (varL d)).length≤16777216:=by
 have h1:=flat_len (varL d) (wtEx d) ((c.1 ++ c.2).take k) (fun y _=>varL_len d y)
 have h2:wtS (wtEx d) ((c.1 ++ c.2).take k)≤wtS (wtEx d) (c.1 ++ c.2):=by
  have:=sum_take_le (wtEx d) (c.1 ++ c.2) k;unfold wtS;rw [List.length_take];omega
 have h3:wtS (wtEx d) (c.1 ++ c.2)=wtCl (wtEx d) c:=by
  show _=wtS (wtEx d) c.1+wtS (wtEx d) c.2;simp [wtS];omega
 omega
theorem clauseL_all (d:Nat) (c:Cl) (z:List UInt8):z ∈ (clauseVars d c).map keyS ↔ z ∈ clauseL d c:=by
 rw [← clauseL_ex,clauseVars_ex];refine ⟨fun hz=>?_,allV_all _ _ z⟩;obtain ⟨s,hs,rfl⟩:=List.mem_map.1 hz;exact allV_sub _ _ s hs
theorem clauseVars_nd (d:Nat) (c:Cl):NdK (clauseVars d c):=by rw [clauseVars_ex];exact allV_nd _ _
theorem implVarsAt_any (d:Nat) (w:World) (v:Value) (ms:List Md) (q:Pl) (hT:Tabs w) (h:Rows w All 3 (HMd w All d) v ms) (hw:wtS (wtMd d) ms≤16777216) :
 Calls prog 69 #[v,.agg #[.string q.mod,.string q.name,.int .i64 q.arity,.int .i64 q.clause]] w fun e w'=>∃ u,e=.returned u∧OwnS w' w.heap.size u (varsAt d ms q)∧Bz w w':=by
 have HTAB:=hid hT;have HR:Hid (∀ w',Bz w w'→Rows w' All 3 (HMd w' All d) v ms):=fun w' hw=>h.mono (sqO hw) (fun _ h=>h) (fun _ _ _ h=>h.mono (sqO hw) (fun _ h=>h));have hm:=@mkMap;obtain ⟨W1,hW1⟩:∃ W1,W1=(w.alloc (.cells #[.string q.mod,.string q.name,.int .i64 q.arity,.int .i64 q.clause] 31)).alloc (.map #[] 0):=⟨_,rfl⟩;have bA:Hid (Blk W1 w.heap.size #[.string q.mod,.string q.name,.int .i64 q.arity,.int .i64 q.clause] 31):=(by show Blk _ _ _ _;rw [hW1];exact Blk.new.alloc);have B1:Hid (Bz w W1):=(by show Below _ _ _;rw [hW1];exact ((sqN _ _)).alloc (by simp) _)
 have M1:Hid (MapAt W1 (w.heap.size+1) []):=by
  have:=MapAt.made (w.alloc (.cells #[.string q.mod,.string q.name,.int .i64 q.arity,.int .i64 q.clause] 31));rw [alloc_hs] at this;show MapAt _ _ _;rw [hW1];exact this
 have HW1:=hid hW1;have CP:=hid (implProgramOk_any d W1 v ms (HTAB.out.below B1.out) (HR.out _ B1.out))
 have HV:Hid (varsAt d ms q=if pgOk d ms then (match clauseOf ms q with
  | none=>[]
  | some c=>sortS (clauseVars d c)) else []):=rfl
 have HWT:Hid (∀ c,clauseOf ms q=some c→1+wtCl (wtEx d) c≤16777216):=fun c hc=>Nat.le_trans (clauseOf_wt1 hc) hw;have HPG:Hid (pgOk d ms=true→OneName ms):=pgOk_one;obtain ⟨p,cap,rfl,-⟩:=h;have CC:Hid (∀ w',Bz w w'→OneName ms→Calls prog 29 #[.slice p ms.length cap,.agg #[.string q.mod,.string q.name,.int .i64 q.arity,.int .i64 q.clause]] w' fun e w''=>ClQ d ms q (.slice p ms.length cap) w'' e∧Below w'.heap.size w' w''):=fun w' hb hu=>clauseAt_any d w' _ ms q (HR.out _ hb) hu;clear hW1 hw hT;generalize ms.length=n at *;generalize hX:varsAt d ms q=X at *;clear hX;generalize hP:pgOk d ms=P at *;clear hP;go_enter func69,ntmps69;go_wp2_with fail;rw [← HW1.out];refine CP.out.mono ?_;rintro e w2 ⟨rfl,hb⟩;have B2:=hid (B1.out.trans (hb.mono B1.out.size));have M2:=hid (M1.out.keep (hb.block _ M1.out.lt));have bA2:=hid (bA.out.next hb);clear hb M1 B1 CP HW1 bA hm
 cases P with
 | false =>
  have HX:Hid (X = []):=by
   show X = [];rw [HV.out];rfl
  go_wp2_with fail;refine (list_any w2 (w.heap.size+1) [] [] M2.out (by simp) (by simp [NdK]) (by simp)).mono ?_;rintro e w3 ⟨u,rfl,ho,hb⟩;have HO:=hid (ho.base B2.out.size);have B3:=hid (B2.out.trans (hb.mono B2.out.size));clear ho hb;go_wp2_with fail;go_ret;exact ⟨u,rfl,by rw [HX.out];exact HO.out,B3.out⟩
 | true =>
  obtain ⟨y0,y1,y2,y3⟩:=sqB4 bA2.out;go_wp2_with fail;refine (CC.out _ B2.out (HPG.out (by first | rfl | trivial))).mono ?_;rintro e w3 ⟨hq,hb⟩;have B3:=hid (B2.out.trans (hb.mono B2.out.size));have M3:=hid (M2.out.keep (hb.block _ M2.out.lt));clear hb y0 y1 y2 y3 M2 B2 bA2 CC
  rcases hq with ⟨rfl,hno⟩ | ⟨gc,o,c,rfl,hc,hP⟩
  · have HX:Hid (X = []):=by
     show X = [];rw [HV.out,hno];rfl
    clear hno;go_wp2_with fail;refine (list_any w3 (w.heap.size+1) [] [] M3.out (by simp) (by simp [NdK]) (by simp)).mono ?_;rintro e w4 ⟨u,rfl,ho,hb⟩;have HO:=hid (ho.base B3.out.size);have B4:=hid (B3.out.trans (hb.mono B3.out.size));clear ho hb;go_wp2_with fail;go_ret;exact ⟨u,rfl,by rw [HX.out];exact HO.out,B4.out⟩
  · have HX:Hid (X=sortS (clauseVars d c)):=by
     show X=_;rw [HV.out,hc];rfl
    have HWC:=hid (HWT.out c hc);obtain ⟨_,_,_,_,_,_,-,_,_,_,-,-,hgc,-,-,cs,hcl,hcs,pv,bv,rfl,hp,hb⟩:=hP;have RP:=hid (hp.mono ⟨Nat.le_refl _,fun _ _ _=>rfl⟩ (fun _ _=>trivial) (fun _ _ _ h=>h.apart M3.out.nocell));have RB:=hid (hb.mono ⟨Nat.le_refl _,fun _ _ _=>rfl⟩ (fun _ _=>trivial) (fun _ _ _ h=>h.apart M3.out.nocell));obtain ⟨p1,c1,rfl,-⟩:=hp;obtain ⟨p2,c2,rfl,-⟩:=hb;obtain ⟨a0,a1⟩:=sqC2 hcs (by omega);clear hcs;have A0:Hid (w3.cell? ⟨gc,o,none⟩=some (.slice p1 c.1.length c1)):=(by show _=_;simpa using a0);have A1:Hid (w3.cell? ⟨gc,o+1,none⟩=some (.slice p2 c.2.length c2)):=(by show _=_;simpa using a1)
    have HLL:Hid (c.1.length+c.2.length≤16777216):=by
     have h1:wtCl (wtEx d) c=wtS (wtEx d) c.1+wtS (wtEx d) c.2:=rfl;have h2:=HWC.out;show _≤_;unfold wtS at h1;omega
    clear hcl hc HWT a0 a1;have K4:Hid (Bz w3 (w3.alloc (.cells #[.slice p1 c.1.length c1,.slice p2 c.2.length c2] 44)).drew):=((sqN _ _)).drew;have BK4:Hid (Blk (w3.alloc (.cells #[.slice p1 c.1.length c1,.slice p2 c.2.length c2] 44)).drew w3.heap.size #[.slice p1 c.1.length c1,.slice p2 c.2.length c2] 44):=Blk.new;have RP4:=hid (RP.out.mono (sqO K4.out) (fun _ h=>h) (fun _ _ _ h=>h));have RB4:=hid (RB.out.mono (sqO K4.out) (fun _ h=>h) (fun _ _ _ h=>h));have LT3:=hid M3.out.lt;clear RP RB;go_wp2_with fail;have a0:=A0.out;have a1:=A1.out
    go_region_held3 (fun w'=>w'.cell? ⟨gc,o,none⟩=some (.slice p1 c.1.length c1)∧w'.cell? ⟨gc,o+1,none⟩=some (.slice p2 c.2.length c2))
     (first | exact ⟨a0,a1⟩ | go_keep | (go_split_ands;refine ⟨?_,?_⟩ <;> exact cell_next hb (by assumption)))
     ((go_at_call 111;refine (concatEx_any (HEx w3 (fun g=>g≠w.heap.size+1) d) exc_oneCell _ w3.heap.size p1 p2 c1 c2 c.1 c.2 BK4.out RP4.out RB4.out HLL.out).mono ?_;rintro e w5 ⟨u,rfl,ho,hb⟩;obtain ⟨pu,cu,hu,-⟩:=ho.slice;obtain ⟨ne,hnn⟩:∃ nn,(c.1 ++ c.2).length=nn:=⟨_,rfl⟩;rw [hnn] at hu;subst hu;have HNN:=hid hnn;clear hnn;have HO5:=hid (ho.base K4.out.size);have K5:=hid (K4.out.trans (hb.mono K4.out.size))))
    go_split_ands;clear a0 a1 A0 A1 hb ho BK4 RP4 RB4 K4;have B5:=hid (B3.out.trans (K5.out.mono B3.out.size));have M5:=hid (M3.out.keep (K5.out.block _ LT3.out));have HE5:Hid (∀ cs x,HEx w3 (fun g=>g≠w.heap.size+1) d cs x→HEx w5 (fun g=>g≠w.heap.size+1) d cs x):=fun cs x h=>h.mono (sqO K5.out) (fun _ h=>h)
    have HRW:Hid (Rows w5 (fun g=>w3.heap.size≤g) 6 (HEx w3 (fun g=>g≠w.heap.size+1) d) (.slice pu ne cu) (c.1 ++ c.2)):=by
     exact ownG_low HO5.out
    have HNL:=hid (clauseL_len d c HWC.out)
    have HFN:Hid (∀ K,K=(c.1 ++ c.2).flatMap (varL d)→∀ x,x ∈ (clauseVars d c).map keyS ↔ x ∈ K):=fun K hK x=>by rw [hK];exact clauseL_all d c x
    have HND:=hid (clauseVars_nd d c);generalize hes:c.1 ++ c.2=es at *;have HNE:=hid HNN.out;clear hes HO5 HNN;obtain ⟨pu',cu',hpu,hcl5,hcm5,hx5⟩:=HRW.out;simp only [Value.slice.injEq] at hpu;obtain ⟨rfl,-,rfl⟩:=hpu;have hnb:ne≤9223372036854775807:=(by unfold maxLen at hcm5;rw [HNE.out] at hcl5;omega);have HX5:=hid hx5;clear hx5 hcl5 hcm5 HRW;go_wp2_with fail
    go_loopw [31] (fun iv wr=>∃ k:Nat,k≤ne∧iv=.int .i64 k∧Hid (MapAt wr (w.heap.size+1) ((es.take k).flatMap (varL d)))∧Hid (Off [w.heap.size+1] w5 wr)) (fun iv _=>ne - (intOf iv).toNat)
    case atStart=>exact ⟨0,Nat.zero_le _,rfl,by show MapAt _ _ _;simpa using M5.out,Off.refl _ _⟩
    case round =>
     obtain ⟨k,hk,rfl,hmk,hof⟩:=hrel;by_cases hlt:k<ne
     · obtain ⟨x,hxk⟩:∃ x,es[k]?=some x:=⟨es[k]'(by rw [HNE.out];exact hlt),List.getElem?_eq_getElem _⟩
       obtain ⟨g,off,rfl,hgB,hgl,hat⟩:=HX5.out (sqE hxk);obtain ⟨xcs,hxl,hxcs,hxe⟩:=hat k x hxk;have hgm:g≠w.heap.size+1:=(by have:=LT3.out;omega);have hgk:wr.heap[g]?=w5.heap[g]?:=hof.out.block g hgl (by simpa using hgm);have HEX:Hid (HEx wr (fun g=>g≠w.heap.size+1) d xcs x):=(HE5.out xcs x hxe).offN hof.out;obtain ⟨sk,sn,st,se,p3,n3,q3,p4,n4,q4,rfl⟩:=HEx.shapeN hxe;have c0:=hxcs 0 (by omega);have c1:=hxcs 1 (by omega);have c2:=hxcs 2 (by omega);have c3:=hxcs 3 (by omega);have c4:=hxcs 4 (by omega);have c5:=hxcs 5 (by omega);clear hxcs hat;rw [← sqK (w:=w5) (w':=wr) (a:=⟨g,_,none⟩) hgk] at c0 c1 c2 c3 c4 c5;simp at c0 c1 c2 c3 c4 c5;have hki:(k:Int)<(ne:Int):=(by omega);have hk0:=sqI k
       have HKS:Hid ((es.take (k+1)).flatMap (varL d)=(es.take k).flatMap (varL d) ++ varL d x):=by
        show _=_;rw [List.take_add_one,hxk];simp
       have HKL:Hid (((es.take k).flatMap (varL d)).length+(varL d x).length≤33554432):=by
        show _≤_;have h1:=HNL.out (k+1);rw [HKS.out,List.length_append] at h1;omega
       have K6:Hid (Bz wr (wr.alloc (.cells #[.int .i64 sk,.int .i64 sn,.string st,.string se,.slice p3 n3 q3,.slice p4 n4 q4] 76))):=(sqN _ _);clear hxl hxe hgk;go_wp2_with fail;refine (eachVar_any _ (w.heap.size+1) d _ x ((es.take k).flatMap (varL d)) (HEX.out.offN (Off.of_below K6.out)) (hmk.out.keep (K6.out.block _ hmk.out.lt)) HKL.out).mono ?_;rintro e w7 ⟨rfl,hm7,ho7⟩;have M7:Hid (MapAt w7 (w.heap.size+1) ((es.take (k+1)).flatMap (varL d))):=(by show MapAt _ _ _;rw [HKS.out];exact hm7);have O7:=hid (hof.out.trans ((Off.of_below K6.out).trans ho7));clear hm7 ho7 c0 c1 c2 c3 c4 c5 K6;go_wp2_with fail;exact ⟨⟨k+1,by omega,by go_num,M7.out,O7.out⟩,by simp [intOf];omega⟩
     · have hek:es.take k=es:=List.take_of_length_le (by rw [HNE.out];omega)
       rw [hek] at hmk
       have HLE:Hid ((es.flatMap (varL d)).length≤67108864):=by
        have:=HNL.out k;rw [hek] at this;show _≤_;omega
       have B8:=hid (B5.out.trans (hof.out.below (by simp) B5.out.size));clear hek;go_wp2_with fail;refine (list_any wr (w.heap.size+1) (es.flatMap (varL d)) (clauseVars d c) hmk.out HLE.out HND.out (HFN.out _ rfl)).mono ?_;rintro e w9 ⟨u,rfl,ho,hb⟩;have HO:=hid (ho.base B8.out.size);have B9:=hid (B8.out.trans (hb.mono B8.out.size));clear ho hb;go_wp2_with fail;go_ret;exact ⟨u,rfl,by rw [HX.out];exact HO.out,B9.out⟩
end Go.Proofs.YtdhlonogmnkemaaGreatDoor
