/-
  PParS
-/
import Derived.Test.YtacioihbhkcdcaaGreatDoorP31
import Derived.Test.YtacioihbhkcdcaaGreatDoorP23
import Derived.Test.YtacioihbhkcdcaaGreatDoorP25
import Derived.Test.YtacioihbhkcdcaaGreatDoorP18
set_option maxHeartbeats 16000000
set_option linter.unusedVariables false
set_option maxRecDepth 100000
namespace Go.Proofs.YtacioihbhkcdcaaGreatDoor
open Go.ChangeShapes Go.WideShapes Go.ChangeAt Go.RowKit
section
open Go.Proofs.Tryz
def badM (w:World) (pb:Nat):Nat:=match w.cell? ⟨pb,2,none⟩ with | some (.bool true)=>0 | _=>1
theorem Zl.badM {w:World} {pb:Nat} {lp:Option Addr} {cap:Nat} {ts:List Tok} {st:St} (h:Zl w pb lp cap ts st):badM w pb=if st.2 then 0 else 1:=by
 have h1:w.cell? ⟨pb,2,none⟩=some (.bool st.2):=h.blk.cell 2 _ rfl;unfold Go.Proofs.YtacioihbhkcdcaaGreatDoor.badM;rw [h1]
 cases st.2 <;> rfl
theorem Zi1 {ts:List Tok} (hT:TsOk ts):okS (bs (pTop ts (0,false)).1.1):=Zah (ZaK hT _)
theorem ZdZ {w:World} {b:Nat} {v0 v1 v2 x:Value} {a:Addr} (h:w.cell? a=some x) (hne:a.block≠b):(((w.setCell ⟨b,0,none⟩ v0).setCell ⟨b,1,none⟩ v1).setCell ⟨b,2,none⟩ v2).drew.cell? a=some x :=
 (sqK (w:=w) (((Below.heap_setCell _ _ _ _ hne).trans (Below.heap_setCell _ _ _ _ hne)).trans (Below.heap_setCell _ _ _ _ hne))).trans h
theorem ZgR {w:World} {pb g b:Nat} {ts:List Tok} {c1 c2:Value} (h:ZbO w pb (some ⟨g,0,none⟩) ts) (h0:ts.length≠0) (hb:Blk w b #[.string ⟨#[]⟩,c1,c2] 25):g≠b:=by
 intro e;subst e;obtain ⟨g',h1,-,-,h2,-⟩:=h 0 _ (Zbw (by omega));simp only [Option.some.injEq,Addr.mk.injEq] at h1;obtain ⟨rfl,-⟩:=h1;have h3:=hb.cell 0 _ rfl;simp at h2 h3;rw [h2] at h3;simp at h3
theorem ZgS {α:Type} {e:TypeId} {c:Nat} {O:World->List Value->α->List Nat->Prop} {w:World} {B C:Nat} {v:Value} {xs:List α} (h:Zh e c O w B C v xs):B<=C:=by
 obtain ⟨_,_,_,_,h,_⟩:=Zh.done h;exact h
theorem Zh9 {ts:List Tok} {j:Nat} (h:ts.length=0):misL ts j=1:=by unfold misL;rw [if_pos h]
theorem Zj3 {ts:List Tok} {j:Nat} (h:j<ts.length):misL ts j=(lookT ts j).line:=by
 unfold misL;rw [if_neg (by omega),show min j (ts.length - 1)=j by omega]
theorem Zi2 {ts:List Tok} {j:Nat} (h:ts.length≠0) (h2:¬ j<ts.length):misL ts j=(lookT ts (ts.length - 1)).line:=by
 unfold misL;rw [if_neg h,show min j (ts.length - 1)=ts.length - 1 by omega]
theorem ZeY (s:ByteArray) (w:World) (hs:s.size<=maxLen) :
 Calls prog 4 #[.string s] w (PrsO (prsM s.data.toList) w):=by
 obtain ⟨W0,hW0⟩:∃ W0,W0=w.alloc (.cells #[.string ⟨#[]⟩,.slice none 0 0,.slice none 0 0] 25):=⟨_,rfl⟩;have B0:Hid (Bz w W0):=(by show Below _ _ _;rw [hW0];exact (sqN _ _));have R0:Hid (Blk W0 w.heap.size #[.string ⟨#[]⟩,.slice none 0 0,.slice none 0 0] 25):=(by show Blk _ _ _ _;rw [hW0];exact Blk.new);have HW0:Hid (W0=w.alloc (.cells #[.string ⟨#[]⟩,.slice none 0 0,.slice none 0 0] 25)):=hW0;have LX:Hid (Calls prog 9 #[.string s] W0 λe w'=>∃ v,e=.returned (.tuple #[v,.int .i64 (lexM s.data.toList).2])/\w'.ownsRow W0.heap.size 43 4 v (lexM s.data.toList).1.length (Za6 (lexM s.data.toList).1)/\Bz W0 w'):=Zf2 s W0 hs;have HOK:Hid (TsOk (lexM s.data.toList).1):=Zf5 _;have HP:Hid ((lexM s.data.toList).2≠0->prsM s.data.toList=(md0,(lexM s.data.toList).2)):=Zfs;have HQ:Hid ((lexM s.data.toList).2=0->prsM s.data.toList=prsW (lexM s.data.toList).1):=Zet;generalize prsM s.data.toList=RES at *;generalize lexM s.data.toList=LM at *;obtain ⟨ts,ln⟩:=LM;simp only at *;clear hs hW0;go_enter func4,ntmps4;go_wp2_with fail;rw [<-HW0.out];refine LX.out.mono ?_;rintro e w1 ⟨v,rfl,ho,hb⟩;obtain ⟨lp,cap,rfl,hwd⟩:=ZdW (pb:=w1.heap.size) ho (sqR _);have WD:Hid (ZbO w1 w1.heap.size lp ts):=hwd;have B1:Hid (Bz w w1):=B0.out.trans (hb.mono B0.out.size);have R1:Hid (Blk w1 w.heap.size #[.string ⟨#[]⟩,.slice none 0 0,.slice none 0 0] 25):=R0.out.next hb;have S1:Hid (w.heap.size<w1.heap.size):=R1.out.lt;clear hb ho hwd LX R0 B0 HW0;by_cases hln:ln=0
 . subst hln
   obtain ⟨pb,hpb⟩:∃ pb,pb=w1.heap.size:=⟨_,rfl⟩;obtain ⟨W2,hW2⟩:∃ W2,W2=w1.alloc (.cells #[.slice lp ts.length cap,.int .i64 0,.bool false] 36):=⟨_,rfl⟩;have KA:Bz w1 W2:=(by rw [hW2];exact (sqN _ _))
   have P2:Hid (Zl W2 pb lp cap ts (0,false)):=by
    refine ⟨?_,?_⟩
    . rw [hW2,hpb];exact Blk.new
    . rw [hpb];exact WD.out.off (Off.of_below KA)
   have B2:Hid (Bz w W2):=B1.out.trans (KA.mono B1.out.size);have R2:Hid (Blk W2 w.heap.size #[.string ⟨#[]⟩,.slice none 0 0,.slice none 0 0] 25):=R1.out.next KA;have HW2:Hid (W2=w1.alloc (.cells #[.slice lp ts.length cap,.int .i64 0,.bool false] 36)):=hW2;have HPB:Hid (w1.heap.size=pb):=hpb.symm;have hwp:w.heap.size<=pb:=(by have:=S1.out;omega);have hne:w.heap.size≠pb:=(by have:=S1.out;omega);have hlen:=HOK.out.len;obtain ⟨E,hE⟩:∃ E,E=pE ts (ts.length+1):=⟨_,rfl⟩;have HG:Hid (ZV ts E):=(by show ZV ts E;rw [hE];exact Zbg ts _);have HF:Hid (PFc ts (ts.length+1) E):=(by show PFc _ _ _;rw [hE];exact ZjY HOK.out (Zj2 HOK.out _) (Zbg ts _));have HD:Hid (Calls prog 10 #[.pointer (some ⟨pb,0,none⟩)] W2 λe w'=>∃ p c,e=.returned (.agg #[.string (bs (pTop ts (0,false)).1.1),.slice p (pTop ts (0,false)).1.2.length c,.slice none 0 0])/\Zh 59 2 ORX w' W2.heap.size w'.heap.size (.slice p (pTop ts (0,false)).1.2.length c) (pTop ts (0,false)).1.2/\Zl w' pb lp cap ts (pTop ts (0,false)).2/\Off [pb] W2 w'):=ZjQ HOK.out W2 pb lp cap (0,false) P2.out (Nat.zero_le _);have HL:Hid (okS (bs (pTop ts (0,false)).1.1)):=Zi1 HOK.out;have hl0:(pTop ts (0,false)).2.1<=ts.length:=(Zff (0,false)).le (Nat.zero_le _);have HPM:Hid (pMod ts E=(((pTop ts (0,false)).1,(Za7 ts E (ts.length+1) [] (pTop ts (0,false)).2).1),(Za7 ts E (ts.length+1) [] (pTop ts (0,false)).2).2)):=rfl
   have HB:Hid (∀ m j,pMod ts E=(m,(j,true))->RES=(md0,misL ts j)):=λm j h=>by rw [HQ.out rfl];rw [hE] at h;exact ZgK h
   have HY:Hid (∀ m j,pMod ts E=(m,(j,false))->mdOk (SizeOf.sizeOf (mdF m)) (mdF m)=true->RES=(mdF m,0)):=λm j h h2=>by rw [HQ.out rfl];rw [hE] at h;exact ZgL h h2
   have HN:Hid (∀ m j,pMod ts E=(m,(j,false))->mdOk (SizeOf.sizeOf (mdF m)) (mdF m)=false->RES=(md0,1)):=λm j h h2=>by rw [HQ.out rfl];rw [hE] at h;exact Zh5 h h2
   generalize pTop ts (0,false)=TP at *;obtain ⟨⟨nl,xs⟩,st0⟩:=TP;generalize pMod ts E=PM at *;simp only at *;obtain ⟨nm,hnm⟩:∃ nm,nm=bs nl:=⟨_,rfl⟩;rw [<-hnm] at HD HL;have HNM:Hid (nm=bs nl):=hnm;clear hpb hW2 KA HP HQ WD hE hnm B1 R1;go_wp2_with fail;rw [<-HW2.out];rw [HPB.out];refine HD.out.mono ?_;rintro e w3 ⟨ep,ec,rfl,hgx,hp3,ho3⟩;obtain ⟨X0,hX0⟩:∃ X0,X0=W2.heap.size:=⟨_,rfl⟩;obtain ⟨X1,hX1⟩:∃ X1,X1=w3.heap.size:=⟨_,rfl⟩;obtain ⟨xl,hxl⟩:∃ xl,xl=xs.length:=⟨_,rfl⟩;have hrX:pb<X0:=(by rw [hX0];exact P2.out.lt);have hX:X0<=X1:=(by rw [hX0,hX1];exact ho3.size);rw [<-hX0,<-hX1,<-hxl] at hgx;rw [<-hxl];have HXL:Hid (xl=xs.length):=hxl;obtain ⟨W4,hW4⟩:∃ W4,W4=w3.alloc (.cells #[.string nm,.slice ep xl ec,.slice none 0 0] 25):=⟨_,rfl⟩;have KA:Bz w3 W4:=(by rw [hW4];exact (sqN _ _));obtain ⟨kb,hkb⟩:∃ kb,kb=w3.heap.size:=⟨_,rfl⟩;have P4:Hid (Zl W4 pb lp cap ts st0):=hp3.next KA;have B3:Bz w w3:=B2.out.trans (ho3.below (N:=w.heap.size) (λa ha=>by simp at ha;subst ha;exact hwp) B2.out.size);have B4:Hid (Bz w W4):=B3.trans (KA.mono B3.size);have R4:Hid (Blk W4 w.heap.size #[.string ⟨#[]⟩,.slice none 0 0,.slice none 0 0] 25):=(R2.out.off ho3 hne).next KA;have E4:Hid (Blk W4 kb #[.string nm,.slice ep xl ec,.slice none 0 0] 25):=(by show Blk _ _ _ _;rw [hW4,hkb];exact Blk.new);have X4:Hid (Zh 59 2 ORX W4 X0 X1 (.slice ep xl ec) xs):=Zh.next ORX.keeps hgx KA;obtain ⟨B,hB⟩:∃ B,B=W4.heap.size:=⟨_,rfl⟩;have hXk:X1<=kb:=(by omega);have hkB:kb<B:=(by rw [hB];exact E4.out.lt);have hrB:pb<B:=(by omega);have hrk:pb<kb:=(by omega);have hner:kb≠pb:=(by omega);have hwB:w.heap.size<=B:=(by omega);have hwlB:w.heap.size<B:=(by omega);have G4:Hid (Zh 40 3 OFT W4 B W4.heap.size (.slice none 0 0) []):=Zh.none (Nat.le_of_eq hB) (sqR _);have HW4:Hid (W4=w3.alloc (.cells #[.string nm,.slice ep xl ec,.slice none 0 0] 25)):=hW4;have HKB:Hid (w3.heap.size=kb):=hkb.symm;obtain ⟨FS,hFS⟩:∃ FS,FS=Za7 ts E (ts.length+1) [] st0:=⟨_,rfl⟩;have HFS:Hid (Za7 ts E (ts.length+1) [] st0=FS):=hFS.symm;rw [<-hFS] at HPM;clear hX0 hX1 hxl hgx hp3 ho3 KA hW4 hkb hB hFS B3 P2 B2 R2 HD;go_wp2_with fail;rw [<-HW4.out];rw [HKB.out]
   go_loopw [] (λwr=>∃ (k:Nat) (st:St) (acc:List Fr) (cp:Option Addr) (cc:Nat),Hid (Zl wr pb lp cap ts st)/\Hid (Bz w wr)/\Hid (Blk wr w.heap.size #[.string ⟨#[]⟩,.slice none 0 0,.slice none 0 0] 25)/\Hid (Blk wr kb #[.string nm,.slice ep xl ec,.slice cp acc.length cc] 25)/\Hid (Zh 59 2 ORX wr X0 X1 (.slice ep xl ec) xs)/\Hid (Zh 40 3 OFT wr B wr.heap.size (.slice cp acc.length cc) acc)/\Hid (st.2=false->acc.length<=1+st.1/\ts.length<k+st.1)/\Hid (Za7 ts E k acc st=FS)/\st.1<=ts.length) (λwr=>(ts.length+1 - posM wr pb) * 2+badM wr pb)
   case atStart=>exact ⟨ts.length+1,st0,[],none,0,P4.out,B4.out,R4.out,E4.out,X4.out,G4.out,λ_=>⟨by show 0<=_;omega,by omega⟩,HFS.out,hl0⟩
   case round =>
    clear P4 B4 R4 E4 X4 G4 HFS;obtain ⟨k,st,acc,cp,cc,P3,B3,R3,E3,X3,G3,HK,HS,hst⟩:=hrel;obtain ⟨j,b⟩:=st;have HPO:Hid (posM wr pb=j):=P3.out.pos;have HBM:Hid (badM wr pb=if b then 0 else 1):=P3.out.badM
    have hcl:acc.length<=9223372036854775807:=by
     obtain ⟨_,_,h,h1,h2⟩:=G3.out.shape;unfold maxLen at h2;omega
    obtain ⟨r0,r1,r2⟩:=sqB3 P3.out.blk;obtain ⟨e0,e1,e2⟩:=sqB3 E3.out;simp only at hst
    cases b with
    | true =>
     have HE:=ZaD (ts:=ts) (E:=E) k acc j;have HFE:Hid (PM=(((nl,xs),acc),(j,true))):=(by show _=_;rw [HPM.out,<-HS.out,HE]);have HR:Hid (RES=(md0,misL ts j)):=HB.out _ _ HFE.out;clear HK HS HE;by_cases h0:ts.length=0
     . have HRZ:Hid (RES=(md0,1)):=by show _=_;rw [HR.out,Zh9 h0]
       have cR0:=R3.out.cell 0 _ rfl;have zR0:=R3.out.frozen 0;have cR1:=R3.out.cell 1 _ rfl;have zR1:=R3.out.frozen 1;have cR2:=R3.out.cell 2 _ rfl;have zR2:=R3.out.frozen 2;go_wp2_with fail;clear cR0 zR0 cR1 zR1 cR2 zR2;have R9:Blk (((wr.setCell ⟨w.heap.size,0,none⟩ (.string ⟨#[]⟩)).setCell ⟨w.heap.size,1,none⟩ (.slice none 0 0)).setCell ⟨w.heap.size,2,none⟩ (.slice none 0 0)) w.heap.size #[.string ⟨#[]⟩,.slice none 0 0,.slice none 0 0] 25:=((R3.out.same (j:=0) (v:=.string ⟨#[]⟩) (cs':=#[.string ⟨#[]⟩,.slice none 0 0,.slice none 0 0]) rfl).same (j:=1) (v:=.slice none 0 0) (cs':=#[.string ⟨#[]⟩,.slice none 0 0,.slice none 0 0]) rfl).same (j:=2) (v:=.slice none 0 0) (cs':=#[.string ⟨#[]⟩,.slice none 0 0,.slice none 0 0]) rfl;have B9:Bz w (((wr.setCell ⟨w.heap.size,0,none⟩ (.string ⟨#[]⟩)).setCell ⟨w.heap.size,1,none⟩ (.slice none 0 0)).setCell ⟨w.heap.size,2,none⟩ (.slice none 0 0)):=(((B3.out.setCell (p:=⟨w.heap.size,0,none⟩) (sqR _) _).setCell (p:=⟨w.heap.size,1,none⟩) (sqR _) _).setCell (p:=⟨w.heap.size,2,none⟩) (sqR _) _);obtain ⟨q0,q1,q2⟩:=sqB3 R9;rw [HRZ.out];exact bodyPost_ret (v:=.tuple #[.agg #[.string ⟨#[]⟩,.slice none 0 0,.slice none 0 0],.int .i64 1]) (by simp [results,results4,go_sem,q0,q1,q2]) rfl ⟨_,rfl,OwnM.nil,B9⟩
     . have hn0:¬ (ts.length:Int)=0:=by omega
       by_cases hj:j<ts.length
       . have HRZ:Hid (RES=(md0,(lookT ts j).line)):=by show _=_;rw [HR.out,Zj3 hj]
         have hml:(j:Int)<(ts.length:Int):=(by omega);have hm0:=sqI j;obtain ⟨g,hg1,hg2,hg3,h4,h5,h6,h7⟩:=P3.out.words j _ (Zbw hj);subst hg1;have hgw:g≠w.heap.size:=ZgR P3.out.words h0 R3.out;generalize lookT ts j=T at *;have K0:Hid (wr.drew.cell? ⟨pb,1,none⟩=some (.int .i64 (j:Nat))/\wr.drew.cell? ⟨g,j * 4+3,none⟩=some (.int .i64 T.line)):=⟨r1,h7⟩;have KM:Hid ((((wr.setCell ⟨w.heap.size,0,none⟩ (.string ⟨#[]⟩)).setCell ⟨w.heap.size,1,none⟩ (.slice none 0 0)).setCell ⟨w.heap.size,2,none⟩ (.slice none 0 0)).drew.cell? ⟨pb,1,none⟩=some (.int .i64 (j:Nat))/\(((wr.setCell ⟨w.heap.size,0,none⟩ (.string ⟨#[]⟩)).setCell ⟨w.heap.size,1,none⟩ (.slice none 0 0)).setCell ⟨w.heap.size,2,none⟩ (.slice none 0 0)).drew.cell? ⟨g,j * 4+3,none⟩=some (.int .i64 T.line)):=⟨ZdZ r1 (Ne.symm hne),ZdZ h7 hgw⟩;clear h4 h5 h6;have cR0:=R3.out.cell 0 _ rfl;have zR0:=R3.out.frozen 0;have cR1:=R3.out.cell 1 _ rfl;have zR1:=R3.out.frozen 1;have cR2:=R3.out.cell 2 _ rfl;have zR2:=R3.out.frozen 2;go_wp2_with fail
         go_region_held3 (λw'=>w'.cell? ⟨pb,1,none⟩=some (.int .i64 (j:Nat))/\w'.cell? ⟨g,j * 4+3,none⟩=some (.int .i64 T.line))
          (first | with_reducible exact KM.out | with_reducible exact K0.out)
          (fail)
         all_goals
          go_split_ands;go_wp2_with fail;clear cR0 zR0 cR1 zR1 cR2 zR2;have R9:Blk (((wr.setCell ⟨w.heap.size,0,none⟩ (.string ⟨#[]⟩)).setCell ⟨w.heap.size,1,none⟩ (.slice none 0 0)).setCell ⟨w.heap.size,2,none⟩ (.slice none 0 0)).drew w.heap.size #[.string ⟨#[]⟩,.slice none 0 0,.slice none 0 0] 25:=((R3.out.same (j:=0) (v:=.string ⟨#[]⟩) (cs':=#[.string ⟨#[]⟩,.slice none 0 0,.slice none 0 0]) rfl).same (j:=1) (v:=.slice none 0 0) (cs':=#[.string ⟨#[]⟩,.slice none 0 0,.slice none 0 0]) rfl).same (j:=2) (v:=.slice none 0 0) (cs':=#[.string ⟨#[]⟩,.slice none 0 0,.slice none 0 0]) rfl;have B9:Bz w (((wr.setCell ⟨w.heap.size,0,none⟩ (.string ⟨#[]⟩)).setCell ⟨w.heap.size,1,none⟩ (.slice none 0 0)).setCell ⟨w.heap.size,2,none⟩ (.slice none 0 0)).drew:=(((B3.out.setCell (p:=⟨w.heap.size,0,none⟩) (sqR _) _).setCell (p:=⟨w.heap.size,1,none⟩) (sqR _) _).setCell (p:=⟨w.heap.size,2,none⟩) (sqR _) _).drew;obtain ⟨q0,q1,q2⟩:=sqB3 R9;rw [HRZ.out];exact bodyPost_ret (v:=.tuple #[.agg #[.string ⟨#[]⟩,.slice none 0 0,.slice none 0 0],.int .i64 T.line]) (by simp [results,results4,go_sem,q0,q1,q2]) rfl ⟨_,rfl,OwnM.nil,B9⟩
       . obtain ⟨jl,hjl⟩:∃ jl,jl=ts.length - 1:=⟨_,rfl⟩
         have hw1:IntKind.i64.wrap ((ts.length:Int) - 1)=(jl:Int):=by
          rw [show (ts.length:Int) - 1=(jl:Int) by omega];rw [IntKind.wrap_i64];omega
         have hm:jl<ts.length:=(by omega);have HRZ:Hid (RES=(md0,(lookT ts jl).line)):=(by show _=_;rw [HR.out,Zi2 h0 hj,hjl]);have hml:(jl:Int)<(ts.length:Int):=(by omega);have hm0:=sqI jl;have hjn:¬ (j:Int)<(ts.length:Int):=(by omega);clear hjl;obtain ⟨g,hg1,hg2,hg3,h4,h5,h6,h7⟩:=P3.out.words jl _ (Zbw hm);subst hg1;have hgw:g≠w.heap.size:=ZgR P3.out.words h0 R3.out;generalize lookT ts jl=T at *;have K0:Hid (wr.drew.cell? ⟨g,jl * 4+3,none⟩=some (.int .i64 T.line)):=h7;have KM:Hid ((((wr.setCell ⟨w.heap.size,0,none⟩ (.string ⟨#[]⟩)).setCell ⟨w.heap.size,1,none⟩ (.slice none 0 0)).setCell ⟨w.heap.size,2,none⟩ (.slice none 0 0)).drew.cell? ⟨g,jl * 4+3,none⟩=some (.int .i64 T.line)):=ZdZ h7 hgw;clear h4 h5 h6;have cR0:=R3.out.cell 0 _ rfl;have zR0:=R3.out.frozen 0;have cR1:=R3.out.cell 1 _ rfl;have zR1:=R3.out.frozen 1;have cR2:=R3.out.cell 2 _ rfl;have zR2:=R3.out.frozen 2;go_wp2_with fail
         go_region_held3 (λw'=>w'.cell? ⟨g,jl * 4+3,none⟩=some (.int .i64 T.line))
          (first | with_reducible exact KM.out | with_reducible exact K0.out)
          (fail)
         all_goals
          go_split_ands;go_wp2_with fail;clear cR0 zR0 cR1 zR1 cR2 zR2;have R9:Blk (((wr.setCell ⟨w.heap.size,0,none⟩ (.string ⟨#[]⟩)).setCell ⟨w.heap.size,1,none⟩ (.slice none 0 0)).setCell ⟨w.heap.size,2,none⟩ (.slice none 0 0)).drew w.heap.size #[.string ⟨#[]⟩,.slice none 0 0,.slice none 0 0] 25:=((R3.out.same (j:=0) (v:=.string ⟨#[]⟩) (cs':=#[.string ⟨#[]⟩,.slice none 0 0,.slice none 0 0]) rfl).same (j:=1) (v:=.slice none 0 0) (cs':=#[.string ⟨#[]⟩,.slice none 0 0,.slice none 0 0]) rfl).same (j:=2) (v:=.slice none 0 0) (cs':=#[.string ⟨#[]⟩,.slice none 0 0,.slice none 0 0]) rfl;have B9:Bz w (((wr.setCell ⟨w.heap.size,0,none⟩ (.string ⟨#[]⟩)).setCell ⟨w.heap.size,1,none⟩ (.slice none 0 0)).setCell ⟨w.heap.size,2,none⟩ (.slice none 0 0)).drew:=(((B3.out.setCell (p:=⟨w.heap.size,0,none⟩) (sqR _) _).setCell (p:=⟨w.heap.size,1,none⟩) (sqR _) _).setCell (p:=⟨w.heap.size,2,none⟩) (sqR _) _).drew;obtain ⟨q0,q1,q2⟩:=sqB3 R9;rw [HRZ.out];exact bodyPost_ret (v:=.tuple #[.agg #[.string ⟨#[]⟩,.slice none 0 0,.slice none 0 0],.int .i64 T.line]) (by simp [results,results4,go_sem,q0,q1,q2]) rfl ⟨_,rfl,OwnM.nil,B9⟩
    | false =>
     by_cases hgo:j<ts.length\/acc.length=0
     . obtain ⟨k,rfl⟩:∃ k',k=k'+1:=⟨k - 1,by have:=(HK.out rfl).2;simp only at this;omega⟩
       have HAL:Hid (acc.length<=100000000):=(by show _<=_;have:=(HK.out rfl).1;simp only at this;omega);have H7:Hid (FS=Za7 ts E k (acc ++ [(pFun ts E (j,false)).1]) (pFun ts E (j,false)).2):=(by show _=_;rw [<-HS.out];exact ZdR _ _ _ hgo);have HK2:Hid (acc.length<=1+j/\ts.length<k+1+j):=HK.out rfl;have CS:Hid (∀ w1,Zl w1 pb lp cap ts (j,false)->Calls prog 11 #[.pointer (some ⟨pb,0,none⟩)] w1 λe w'=>∃ p c,e=.returned (.agg #[.string (bs (pFun ts E (j,false)).1.1),.int .i64 (pFun ts E (j,false)).1.2.1,.slice p (pFun ts E (j,false)).1.2.2.length c])/\okS (bs (pFun ts E (j,false)).1.1)/\okI (pFun ts E (j,false)).1.2.1/\Zh 64 2 OCT w' w1.heap.size w'.heap.size (.slice p (pFun ts E (j,false)).1.2.2.length c) (pFun ts E (j,false)).1.2.2/\Zl w' pb lp cap ts (pFun ts E (j,false)).2/\Off [pb] w1 w'):=λw1 h1=>HF.out w1 pb lp cap (j,false) h1 hst (by show ts.length - j<_;omega);have g7:=Zcx HG.out (j,false);have hlt7:∀ j',(pFun ts E (j,false)).2=(j',false)->j<j':=λj' h=>ZfZ HG.out h;generalize pFun ts E (j,false)=PF at *;obtain ⟨f2,s2⟩:=PF;have hl7:s2.1<=ts.length:=g7.le hst;have hg7:j<=s2.1:=g7.ge;simp only at hlt7 CS H7;clear HS HK g7
       go_upto_region 6 with fail
       go_cut [41] (λs41 wc=>s41=.bool true/\wr=wc)
       case first =>
        rcases hgo with hj | ha
        . have hml:(j:Int)<(ts.length:Int):=by omega
          go_wp2_with fail
          go_meet
          case rel=>exact ⟨rfl,rfl⟩
        . by_cases hj:j<ts.length
          . have hml:(j:Int)<(ts.length:Int):=by omega
            go_wp2_with fail
            go_meet
            case rel=>exact ⟨rfl,rfl⟩
          . have hml:¬ (j:Int)<(ts.length:Int):=by omega
            have ha0:(acc.length:Int)=0:=(by omega);go_wp2_with fail
            go_meet
            case rel=>exact ⟨rfl,rfl⟩
       case rest =>
        obtain ⟨rfl,rfl⟩:=hcut;clear r0 r1 r2 e0 e1 e2 hgo;go_wp2_with fail;have l5:wr.cell? ⟨kb,2,none⟩=some (.slice cp acc.length cc):=E3.out.cell 2 _ rfl;refine wp_region_held_drew (S:=λ_=>True) (by kernel_rfl) trivial (λhHeld=>?_);refine tkP 0 (v:=.pointer (some ⟨kb,2,none⟩)) rfl (by rfl) (λw' hS=>by go_simp) hHeld ?_
        try simp only [sqP]
        refine tkP 2 (v:=.pointer (some ⟨pb,0,none⟩)) rfl (by rfl) (λw' hS=>by go_simp) hHeld ?_
        try simp only [sqP]
        refine twoH 1 3 rfl rfl (λK hK=>?_) (λK hK=>?_)
        . go_simp
          refine hK.out _ _ trivial (λ_=>?_);clear hK K
          try simp only [sqP]
          refine oneH 3 rfl (λK hK=>?_)
          go_simp
          go_at_call 11
          refine (CS.out _ P3.out.dr).mono ?_;rintro e w6 ⟨fq,fc,rfl,hos,hoi,hg6,hp6,ho6'⟩;obtain ⟨cf,r6,nd6,rg6,-,-⟩:=Zh.done hg6;have ho6:Off [pb] wr w6:=Off.drI ho6';have P6:Hid (Zl w6 pb lp cap ts s2):=hp6;have B6:Hid (Bz w w6):=B3.out.trans (ho6.below (N:=w.heap.size) (λa ha=>by simp at ha;subst ha;exact hwp) B3.out.size);have R6:Hid (Blk w6 w.heap.size #[.string ⟨#[]⟩,.slice none 0 0,.slice none 0 0] 25):=R3.out.off ho6 hne;have E6:Hid (Blk w6 kb #[.string nm,.slice ep xl ec,.slice cp acc.length cc] 25):=E3.out.off ho6 hner;have X6:Hid (Zh 59 2 ORX w6 X0 X1 (.slice ep xl ec) xs):=X3.out.off ORX.keeps ho6 hrX;have G6:Hid (Zh 40 3 OFT w6 B wr.heap.size (.slice cp acc.length cc) acc):=G3.out.off OFT.keeps ho6 hrB;have C6:Hid (OFT w6 [.string (bs f2.1),.int .i64 f2.2.1,.slice fq f2.2.2.length fc] f2 cf/\cf.Nodup/\∀ a ∈ cf,wr.heap.size<=a/\a<w6.heap.size):=⟨⟨_,rfl,hos,hoi,r6⟩,nd6,rg6⟩;have KA:Bz w6 (w6.alloc (.cells #[.string (bs f2.1),.int .i64 f2.2.1,.slice fq f2.2.2.length fc] 40)):=(sqN _ _);have SB6:Hid (B<=w6.heap.size):=Nat.le_trans (ZgS G3.out) ho6.size;have E6a:Hid (Blk (w6.alloc (.cells #[.string (bs f2.1),.int .i64 f2.2.1,.slice fq f2.2.2.length fc] 40)) kb #[.string nm,.slice ep xl ec,.slice cp acc.length cc] 25):=E6.out.next KA;have e5:w6.cell? ⟨kb,2,none⟩=some (.slice cp acc.length cc):=E6.out.cell 2 _ rfl;have f5:(w6.alloc (.cells #[.string (bs f2.1),.int .i64 f2.2.1,.slice fq f2.2.2.length fc] 40)).cell? ⟨kb,2,none⟩=some (.slice cp acc.length cc):=E6a.out.cell 2 _ rfl;clear hp6 hg6 r6 nd6 rg6 hos hoi ho6 ho6' KA;refine hK.out _ _ trivial (λ_=>?_);clear hK K
          try simp only [sqP]
          refine oneH 4 rfl (λK hK=>?_)
          go_simp
          refine hK.out _ _ trivial (λ_=>?_);clear hK K
          try simp only [sqP]
          refine oneH 5 rfl (λK hK=>?_);refine Zac OFT.keeps 23 40 3 48 _ (by rfl) _ _ (by rfl) underlying23 ZbR rfl (by decide) (by decide) B wr.heap.size (.slice cp acc.length cc) acc (by rfl) [.string (bs f2.1),.int .i64 f2.2.1,.slice fq f2.2.2.length fc] _ (by rfl) (by rfl) f2 cf G6.out C6.out.1 C6.out.2.1 C6.out.2.2 rfl ZcA (by have:=HAL.out;omega) ?_;intro g9 q9 w9 hg9 hb9;have KA:Bz w6 (w6.alloc (.cells #[.string (bs f2.1),.int .i64 f2.2.1,.slice fq f2.2.2.length fc] 40)):=(sqN _ _);have hb:Below B w6 w9:=(KA.mono SB6.out).trans hb9;have EE8:Hid (Blk w9 kb #[.string nm,.slice ep xl ec,.slice cp acc.length cc] 25):=E6.out.below hb hkB;have hon:Zv kb w9 (w9.setCell ⟨kb,2,none⟩ (.slice (some ⟨g9,0,none⟩) (acc.length+1) q9)):=Zv.set;have P9:Hid (Zl (w9.setCell ⟨kb,2,none⟩ (.slice (some ⟨g9,0,none⟩) (acc.length+1) q9)) pb lp cap ts s2):=(P6.out.below hb hrB).only hon hrk;have B9:Hid (Bz w (w9.setCell ⟨kb,2,none⟩ (.slice (some ⟨g9,0,none⟩) (acc.length+1) q9))):=(B6.out.trans (hb.mono hwB)).setCell (by dsimp only;omega) _;have R9:Hid (Blk (w9.setCell ⟨kb,2,none⟩ (.slice (some ⟨g9,0,none⟩) (acc.length+1) q9)) w.heap.size #[.string ⟨#[]⟩,.slice none 0 0,.slice none 0 0] 25):=(R6.out.below hb hwlB).only hon (by omega);have E9:Hid (Blk (w9.setCell ⟨kb,2,none⟩ (.slice (some ⟨g9,0,none⟩) (acc.length+1) q9)) kb #[.string nm,.slice ep xl ec,.slice (some ⟨g9,0,none⟩) (acc.length+1) q9] 25):=EE8.out.same (j:=2) rfl;have X9:Hid (Zh 59 2 ORX (w9.setCell ⟨kb,2,none⟩ (.slice (some ⟨g9,0,none⟩) (acc.length+1) q9)) X0 X1 (.slice ep xl ec) xs):=(X6.out.keep ORX.keeps hb.size (λa h1 h2=>hb.block a (by omega))).only ORX.keeps hon (.inr hXk);have G9:Hid (Zh 40 3 OFT (w9.setCell ⟨kb,2,none⟩ (.slice (some ⟨g9,0,none⟩) (acc.length+1) q9)) B (w9.setCell ⟨kb,2,none⟩ (.slice (some ⟨g9,0,none⟩) (acc.length+1) q9)).heap.size (.slice (some ⟨g9,0,none⟩) (acc.length+1) q9) (acc ++ [f2])):=(hg9.only OFT.keeps hon (.inl hkB)).more (sqR _) (Nat.le_of_eq hon.size.symm) (sqR _);have s5:w9.cell? ⟨kb,2,none⟩=some (.slice cp acc.length cc):=EE8.out.cell 2 _ rfl;have t5:=EE8.out.frozen 2;clear hg9 hb9 KA hb hon;refine hK.out _ _ trivial (λ_=>?_);clear hK K
          try simp only [sqP]
          refine oneH 6 rfl (λK hK=>?_)
          go_simp
          refine hK.out _ _ trivial (λ_=>?_);clear hK K
          try simp only [sqP]
          refine oneH 7 rfl (λK hK=>?_)
          go_simp
          refine hK.out _ _ trivial (λ_=>?_);clear hK K s5 t5;refine wpAnyH_done (by kernel_rfl) ?_ _;go_wp2_with fail;have HA1:(acc ++ [f2]).length=acc.length+1:=(by simp)
          exact ⟨⟨k,s2,acc ++ [f2],some ⟨g9,0,none⟩,q9,P9.out,B9.out,R9.out,(by rw [HA1];exact E9.out),X9.out,(by rw [HA1];exact G9.out),(λh=>by have:=hlt7 s2.1 (by obtain ⟨a,b⟩:=s2;simp only at h;rw [h]);have:=HK2.out;rw [HA1];constructor <;> omega),H7.out.symm,hl7⟩,by
           rw [P9.out.pos,P9.out.badM,HPO.out,HBM.out]
           cases h2:s2.2 with
           | true=>simp;omega
           | false =>
            have:=hlt7 s2.1 (by obtain ⟨a,b⟩:=s2;simp only at h2;rw [h2])
            simp;omega⟩
        . go_simp
          go_at_call 11
          refine (CS.out _ P3.out.dr).mono ?_;rintro e w6 ⟨fq,fc,rfl,hos,hoi,hg6,hp6,ho6'⟩;obtain ⟨cf,r6,nd6,rg6,-,-⟩:=Zh.done hg6;have ho6:Off [pb] wr w6:=Off.drI ho6';have P6:Hid (Zl w6 pb lp cap ts s2):=hp6;have B6:Hid (Bz w w6):=B3.out.trans (ho6.below (N:=w.heap.size) (λa ha=>by simp at ha;subst ha;exact hwp) B3.out.size);have R6:Hid (Blk w6 w.heap.size #[.string ⟨#[]⟩,.slice none 0 0,.slice none 0 0] 25):=R3.out.off ho6 hne;have E6:Hid (Blk w6 kb #[.string nm,.slice ep xl ec,.slice cp acc.length cc] 25):=E3.out.off ho6 hner;have X6:Hid (Zh 59 2 ORX w6 X0 X1 (.slice ep xl ec) xs):=X3.out.off ORX.keeps ho6 hrX;have G6:Hid (Zh 40 3 OFT w6 B wr.heap.size (.slice cp acc.length cc) acc):=G3.out.off OFT.keeps ho6 hrB;have C6:Hid (OFT w6 [.string (bs f2.1),.int .i64 f2.2.1,.slice fq f2.2.2.length fc] f2 cf/\cf.Nodup/\∀ a ∈ cf,wr.heap.size<=a/\a<w6.heap.size):=⟨⟨_,rfl,hos,hoi,r6⟩,nd6,rg6⟩;have KA:Bz w6 (w6.alloc (.cells #[.string (bs f2.1),.int .i64 f2.2.1,.slice fq f2.2.2.length fc] 40)):=(sqN _ _);have SB6:Hid (B<=w6.heap.size):=Nat.le_trans (ZgS G3.out) ho6.size;have E6a:Hid (Blk (w6.alloc (.cells #[.string (bs f2.1),.int .i64 f2.2.1,.slice fq f2.2.2.length fc] 40)) kb #[.string nm,.slice ep xl ec,.slice cp acc.length cc] 25):=E6.out.next KA;have e5:w6.cell? ⟨kb,2,none⟩=some (.slice cp acc.length cc):=E6.out.cell 2 _ rfl;have f5:(w6.alloc (.cells #[.string (bs f2.1),.int .i64 f2.2.1,.slice fq f2.2.2.length fc] 40)).cell? ⟨kb,2,none⟩=some (.slice cp acc.length cc):=E6a.out.cell 2 _ rfl;clear hp6 hg6 r6 nd6 rg6 hos hoi ho6 ho6' KA;refine hK.out _ _ trivial (λ_=>?_);clear hK K
          try simp only [sqP]
          refine twoH 1 4 rfl rfl (λK hK=>?_) (λK hK=>?_)
          . go_simp
            refine hK.out _ _ trivial (λ_=>?_);clear hK K
            try simp only [sqP]
            refine oneH 4 rfl (λK hK=>?_)
            go_simp
            refine hK.out _ _ trivial (λ_=>?_);clear hK K
            try simp only [sqP]
            refine oneH 5 rfl (λK hK=>?_);refine Zac OFT.keeps 23 40 3 48 _ (by rfl) _ _ (by rfl) underlying23 ZbR rfl (by decide) (by decide) B wr.heap.size (.slice cp acc.length cc) acc (by rfl) [.string (bs f2.1),.int .i64 f2.2.1,.slice fq f2.2.2.length fc] _ (by rfl) (by rfl) f2 cf G6.out C6.out.1 C6.out.2.1 C6.out.2.2 rfl ZcA (by have:=HAL.out;omega) ?_;intro g9 q9 w9 hg9 hb9;have KA:Bz w6 (w6.alloc (.cells #[.string (bs f2.1),.int .i64 f2.2.1,.slice fq f2.2.2.length fc] 40)):=(sqN _ _);have hb:Below B w6 w9:=(KA.mono SB6.out).trans hb9;have EE8:Hid (Blk w9 kb #[.string nm,.slice ep xl ec,.slice cp acc.length cc] 25):=E6.out.below hb hkB;have hon:Zv kb w9 (w9.setCell ⟨kb,2,none⟩ (.slice (some ⟨g9,0,none⟩) (acc.length+1) q9)):=Zv.set;have P9:Hid (Zl (w9.setCell ⟨kb,2,none⟩ (.slice (some ⟨g9,0,none⟩) (acc.length+1) q9)) pb lp cap ts s2):=(P6.out.below hb hrB).only hon hrk;have B9:Hid (Bz w (w9.setCell ⟨kb,2,none⟩ (.slice (some ⟨g9,0,none⟩) (acc.length+1) q9))):=(B6.out.trans (hb.mono hwB)).setCell (by dsimp only;omega) _;have R9:Hid (Blk (w9.setCell ⟨kb,2,none⟩ (.slice (some ⟨g9,0,none⟩) (acc.length+1) q9)) w.heap.size #[.string ⟨#[]⟩,.slice none 0 0,.slice none 0 0] 25):=(R6.out.below hb hwlB).only hon (by omega);have E9:Hid (Blk (w9.setCell ⟨kb,2,none⟩ (.slice (some ⟨g9,0,none⟩) (acc.length+1) q9)) kb #[.string nm,.slice ep xl ec,.slice (some ⟨g9,0,none⟩) (acc.length+1) q9] 25):=EE8.out.same (j:=2) rfl;have X9:Hid (Zh 59 2 ORX (w9.setCell ⟨kb,2,none⟩ (.slice (some ⟨g9,0,none⟩) (acc.length+1) q9)) X0 X1 (.slice ep xl ec) xs):=(X6.out.keep ORX.keeps hb.size (λa h1 h2=>hb.block a (by omega))).only ORX.keeps hon (.inr hXk);have G9:Hid (Zh 40 3 OFT (w9.setCell ⟨kb,2,none⟩ (.slice (some ⟨g9,0,none⟩) (acc.length+1) q9)) B (w9.setCell ⟨kb,2,none⟩ (.slice (some ⟨g9,0,none⟩) (acc.length+1) q9)).heap.size (.slice (some ⟨g9,0,none⟩) (acc.length+1) q9) (acc ++ [f2])):=(hg9.only OFT.keeps hon (.inl hkB)).more (sqR _) (Nat.le_of_eq hon.size.symm) (sqR _);have s5:w9.cell? ⟨kb,2,none⟩=some (.slice cp acc.length cc):=EE8.out.cell 2 _ rfl;have t5:=EE8.out.frozen 2;clear hg9 hb9 KA hb hon;refine hK.out _ _ trivial (λ_=>?_);clear hK K
            try simp only [sqP]
            refine oneH 6 rfl (λK hK=>?_)
            go_simp
            refine hK.out _ _ trivial (λ_=>?_);clear hK K
            try simp only [sqP]
            refine oneH 7 rfl (λK hK=>?_)
            go_simp
            refine hK.out _ _ trivial (λ_=>?_);clear hK K s5 t5;refine wpAnyH_done (by kernel_rfl) ?_ _;go_wp2_with fail;have HA1:(acc ++ [f2]).length=acc.length+1:=(by simp)
            exact ⟨⟨k,s2,acc ++ [f2],some ⟨g9,0,none⟩,q9,P9.out,B9.out,R9.out,(by rw [HA1];exact E9.out),X9.out,(by rw [HA1];exact G9.out),(λh=>by have:=hlt7 s2.1 (by obtain ⟨a,b⟩:=s2;simp only at h;rw [h]);have:=HK2.out;rw [HA1];constructor <;> omega),H7.out.symm,hl7⟩,by
             rw [P9.out.pos,P9.out.badM,HPO.out,HBM.out]
             cases h2:s2.2 with
             | true=>simp;omega
             | false =>
              have:=hlt7 s2.1 (by obtain ⟨a,b⟩:=s2;simp only at h2;rw [h2])
              simp;omega⟩
          . go_simp
            refine hK.out _ _ trivial (λ_=>?_);clear hK K
            try simp only [sqP]
            refine oneH 1 rfl (λK hK=>?_)
            go_simp
            refine hK.out _ _ trivial (λ_=>?_);clear hK K
            try simp only [sqP]
            refine oneH 5 rfl (λK hK=>?_);refine Zac OFT.keeps 23 40 3 48 _ (by rfl) _ _ (by rfl) underlying23 ZbR rfl (by decide) (by decide) B wr.heap.size (.slice cp acc.length cc) acc (by rfl) [.string (bs f2.1),.int .i64 f2.2.1,.slice fq f2.2.2.length fc] _ (by rfl) (by rfl) f2 cf G6.out C6.out.1 C6.out.2.1 C6.out.2.2 rfl ZcA (by have:=HAL.out;omega) ?_;intro g9 q9 w9 hg9 hb9;have KA:Bz w6 (w6.alloc (.cells #[.string (bs f2.1),.int .i64 f2.2.1,.slice fq f2.2.2.length fc] 40)):=(sqN _ _);have hb:Below B w6 w9:=(KA.mono SB6.out).trans hb9;have EE8:Hid (Blk w9 kb #[.string nm,.slice ep xl ec,.slice cp acc.length cc] 25):=E6.out.below hb hkB;have hon:Zv kb w9 (w9.setCell ⟨kb,2,none⟩ (.slice (some ⟨g9,0,none⟩) (acc.length+1) q9)):=Zv.set;have P9:Hid (Zl (w9.setCell ⟨kb,2,none⟩ (.slice (some ⟨g9,0,none⟩) (acc.length+1) q9)) pb lp cap ts s2):=(P6.out.below hb hrB).only hon hrk;have B9:Hid (Bz w (w9.setCell ⟨kb,2,none⟩ (.slice (some ⟨g9,0,none⟩) (acc.length+1) q9))):=(B6.out.trans (hb.mono hwB)).setCell (by dsimp only;omega) _;have R9:Hid (Blk (w9.setCell ⟨kb,2,none⟩ (.slice (some ⟨g9,0,none⟩) (acc.length+1) q9)) w.heap.size #[.string ⟨#[]⟩,.slice none 0 0,.slice none 0 0] 25):=(R6.out.below hb hwlB).only hon (by omega);have E9:Hid (Blk (w9.setCell ⟨kb,2,none⟩ (.slice (some ⟨g9,0,none⟩) (acc.length+1) q9)) kb #[.string nm,.slice ep xl ec,.slice (some ⟨g9,0,none⟩) (acc.length+1) q9] 25):=EE8.out.same (j:=2) rfl;have X9:Hid (Zh 59 2 ORX (w9.setCell ⟨kb,2,none⟩ (.slice (some ⟨g9,0,none⟩) (acc.length+1) q9)) X0 X1 (.slice ep xl ec) xs):=(X6.out.keep ORX.keeps hb.size (λa h1 h2=>hb.block a (by omega))).only ORX.keeps hon (.inr hXk);have G9:Hid (Zh 40 3 OFT (w9.setCell ⟨kb,2,none⟩ (.slice (some ⟨g9,0,none⟩) (acc.length+1) q9)) B (w9.setCell ⟨kb,2,none⟩ (.slice (some ⟨g9,0,none⟩) (acc.length+1) q9)).heap.size (.slice (some ⟨g9,0,none⟩) (acc.length+1) q9) (acc ++ [f2])):=(hg9.only OFT.keeps hon (.inl hkB)).more (sqR _) (Nat.le_of_eq hon.size.symm) (sqR _);have s5:w9.cell? ⟨kb,2,none⟩=some (.slice cp acc.length cc):=EE8.out.cell 2 _ rfl;have t5:=EE8.out.frozen 2;clear hg9 hb9 KA hb hon;refine hK.out _ _ trivial (λ_=>?_);clear hK K
            try simp only [sqP]
            refine oneH 6 rfl (λK hK=>?_)
            go_simp
            refine hK.out _ _ trivial (λ_=>?_);clear hK K
            try simp only [sqP]
            refine oneH 7 rfl (λK hK=>?_)
            go_simp
            refine hK.out _ _ trivial (λ_=>?_);clear hK K s5 t5;refine wpAnyH_done (by kernel_rfl) ?_ _;go_wp2_with fail;have HA1:(acc ++ [f2]).length=acc.length+1:=(by simp)
            exact ⟨⟨k,s2,acc ++ [f2],some ⟨g9,0,none⟩,q9,P9.out,B9.out,R9.out,(by rw [HA1];exact E9.out),X9.out,(by rw [HA1];exact G9.out),(λh=>by have:=hlt7 s2.1 (by obtain ⟨a,b⟩:=s2;simp only at h;rw [h]);have:=HK2.out;rw [HA1];constructor <;> omega),H7.out.symm,hl7⟩,by
             rw [P9.out.pos,P9.out.badM,HPO.out,HBM.out]
             cases h2:s2.2 with
             | true=>simp;omega
             | false =>
              have:=hlt7 s2.1 (by obtain ⟨a,b⟩:=s2;simp only at h2;rw [h2])
              simp;omega⟩
     . have hj1:¬ j<ts.length:=λh=>hgo (.inl h)
       have hj2:acc.length≠0:=λh=>hgo (.inr h);have HE:=Zfk (ts:=ts) (E:=E) k acc j hj1 hj2;have HFE:Hid (PM=(((nl,xs),acc),(j,false))):=(by show _=_;rw [HPM.out,<-HS.out,HE]);have HY1:Hid (mdOk (SizeOf.sizeOf (mdF ((nl,xs),acc))) (mdF ((nl,xs),acc))=true->RES=(mdF ((nl,xs),acc),0)):=HY.out _ _ HFE.out;have HN1:Hid (mdOk (SizeOf.sizeOf (mdF ((nl,xs),acc))) (mdF ((nl,xs),acc))=false->RES=(md0,1)):=HN.out _ _ HFE.out;obtain ⟨f1,a1,n1,g1,-,-⟩:=Zh.done X3.out;obtain ⟨f2,a2,n2,g2,-,-⟩:=Zh.done G3.out
       have hO:OwnM (w.alloc (.cells #[.string ⟨#[]⟩,.slice none 0 0,.slice none 0 0] 25)) (mdF ((nl,xs),acc)) (.agg #[.string (bs nl),.slice ep xs.length ec,.slice cp acc.length cc]) wr:=ZhY (m:=((nl,xs),acc)) (by rw [<-HNM.out];exact HL.out) (by rw [<-HXL.out];exact a1) a2 (List.nodup_append.2 ⟨n1,n2,λa ha b hb=>by have:=g1 a ha;have:=g2 b hb;omega⟩) (λa ha=>by
        have hk:=E3.out.lt;rw [Zg]
        rcases List.mem_append.1 ha with h | h
        . have:=g1 a h;omega
        . have:=g2 a h;omega)
       have hfl:(mdF ((nl,xs),acc)).funs.length=acc.length:=(by simp [mdF]);obtain ⟨p,c,q,k2,fp,hv,hom,hnd,hrg⟩:=hO;rw [Zg] at hrg
       have E4:Hid (Blk wr kb #[.string (mdF ((nl,xs),acc)).name,.slice p (mdF ((nl,xs),acc)).exports.length c,.slice q (mdF ((nl,xs),acc)).funs.length k2] 25):=by
        have h:=E3.out;rw [HNM.out,HXL.out] at h;simp only [Value.agg.injEq] at hv;rw [hv] at h;exact h
       have hj3:¬ ((mdF ((nl,xs),acc)).funs.length:Int)=0:=(by rw [hfl];omega);have hfm:(mdF ((nl,xs),acc)).funs.length<=9223372036854775807:=(by rw [hfl];exact hcl);generalize mdF ((nl,xs),acc)=MM at *;have hjn:¬ (j:Int)<(ts.length:Int):=(by omega);have O3:Hid (OMd wr (SizeOf.sizeOf MM) [.string MM.name,.slice p MM.exports.length c,.slice q MM.funs.length k2] MM fp/\fp.Nodup/\∀ a ∈ fp,w.heap.size+1<=a/\a<wr.heap.size):=⟨hom,hnd,hrg⟩;have MK:Hid (Calls prog 12 #[.agg #[.string MM.name,.slice p MM.exports.length c,.slice q MM.funs.length k2]] wr λe w'=>e=.returned (.bool (mdOk (SizeOf.sizeOf MM) MM))/\Bz wr w'):=Zdq _ wr [.string MM.name,.slice p MM.exports.length c,.slice q MM.funs.length k2] MM (hom.tree (λ_ _=>trivial));generalize mdOk (SizeOf.sizeOf MM) MM=ok at *;clear HK HS HE hom hnd hrg hv a1 n1 g1 a2 n2 g2 hfl hj1 hj2 hgo e0 e1 e2 hcl;obtain ⟨e0,e1,e2⟩:=sqB3 E4.out;go_wp2_with fail;refine MK.out.mono ?_;rintro e w4 ⟨rfl,hb⟩;have B5:Hid (Bz w w4):=B3.out.trans (hb.mono B3.out.size);have R5:Hid (Blk w4 w.heap.size #[.string ⟨#[]⟩,.slice none 0 0,.slice none 0 0] 25):=R3.out.next hb;have E5:Hid (Blk w4 kb #[.string MM.name,.slice p MM.exports.length c,.slice q MM.funs.length k2] 25):=E4.out.next hb;have O5:Hid (OMd w4 (SizeOf.sizeOf MM) [.string MM.name,.slice p MM.exports.length c,.slice q MM.funs.length k2] MM fp/\fp.Nodup/\∀ a ∈ fp,w.heap.size+1<=a/\a<w4.heap.size):=⟨O3.out.1.keep (Zu.below hb (λa ha=>(O3.out.2.2 a ha).2)),O3.out.2.1,λa ha=>⟨(O3.out.2.2 a ha).1,Nat.lt_of_lt_of_le (O3.out.2.2 a ha).2 hb.size⟩⟩;clear hb e0 e1 e2 r0 r1 r2
       cases ok with
       | false =>
        have HRZ:Hid (RES=(md0,1)):=HN1.out rfl;have cR0:=R5.out.cell 0 _ rfl;have zR0:=R5.out.frozen 0;have cR1:=R5.out.cell 1 _ rfl;have zR1:=R5.out.frozen 1;have cR2:=R5.out.cell 2 _ rfl;have zR2:=R5.out.frozen 2;go_wp2_with fail;clear cR0 zR0 cR1 zR1 cR2 zR2;have R9:Blk (((w4.setCell ⟨w.heap.size,0,none⟩ (.string ⟨#[]⟩)).setCell ⟨w.heap.size,1,none⟩ (.slice none 0 0)).setCell ⟨w.heap.size,2,none⟩ (.slice none 0 0)) w.heap.size #[.string ⟨#[]⟩,.slice none 0 0,.slice none 0 0] 25:=((R5.out.same (j:=0) (v:=.string ⟨#[]⟩) (cs':=#[.string ⟨#[]⟩,.slice none 0 0,.slice none 0 0]) rfl).same (j:=1) (v:=.slice none 0 0) (cs':=#[.string ⟨#[]⟩,.slice none 0 0,.slice none 0 0]) rfl).same (j:=2) (v:=.slice none 0 0) (cs':=#[.string ⟨#[]⟩,.slice none 0 0,.slice none 0 0]) rfl;have B9:Bz w (((w4.setCell ⟨w.heap.size,0,none⟩ (.string ⟨#[]⟩)).setCell ⟨w.heap.size,1,none⟩ (.slice none 0 0)).setCell ⟨w.heap.size,2,none⟩ (.slice none 0 0)):=(((B5.out.setCell (p:=⟨w.heap.size,0,none⟩) (sqR _) _).setCell (p:=⟨w.heap.size,1,none⟩) (sqR _) _).setCell (p:=⟨w.heap.size,2,none⟩) (sqR _) _);obtain ⟨q0,q1,q2⟩:=sqB3 R9;rw [HRZ.out];exact bodyPost_ret (v:=.tuple #[.agg #[.string ⟨#[]⟩,.slice none 0 0,.slice none 0 0],.int .i64 1]) (by simp [results,results4,go_sem,q0,q1,q2]) rfl ⟨_,rfl,OwnM.nil,B9⟩
       | true =>
        have HRZ:Hid (RES=(MM,0)):=HY1.out rfl;obtain ⟨e0,e1,e2⟩:=sqB3 E5.out;have cR0:=R5.out.cell 0 _ rfl;have zR0:=R5.out.frozen 0;have cR1:=R5.out.cell 1 _ rfl;have zR1:=R5.out.frozen 1;have cR2:=R5.out.cell 2 _ rfl;have zR2:=R5.out.frozen 2;go_wp2_with fail;clear e0 e1 e2;clear cR0 zR0 cR1 zR1 cR2 zR2;have hon:=ZbQ (b:=w.heap.size) (w:=w4) (c0:=.string MM.name) (c1:=.slice p MM.exports.length c) (c2:=.slice q MM.funs.length k2);have hbk:=Zcq R5.out (.string MM.name) (.slice p MM.exports.length c) (.slice q MM.funs.length k2);have B9:Bz w (((w4.setCell ⟨w.heap.size,0,none⟩ (.string MM.name)).setCell ⟨w.heap.size,1,none⟩ (.slice p MM.exports.length c)).setCell ⟨w.heap.size,2,none⟩ (.slice q MM.funs.length k2)):=((B5.out.setCell (p:=⟨w.heap.size,0,none⟩) (sqR _) _).setCell (p:=⟨w.heap.size,1,none⟩) (sqR _) _).setCell (p:=⟨w.heap.size,2,none⟩) (sqR _) _;obtain ⟨q0,q1,q2⟩:=sqB3 hbk;have hsz:=hon.size;rw [HRZ.out];exact bodyPost_ret (v:=.tuple #[.agg #[.string MM.name,.slice p MM.exports.length c,.slice q MM.funs.length k2],.int .i64 0]) (by simp [results,results4,go_sem,q0,q1,q2]) rfl ⟨_,rfl,⟨p,c,q,k2,fp,rfl,O5.out.1.keep (hon.keep (λhm=>by have:=(O5.out.2.2 _ hm).1;omega)),O5.out.2.1,λa ha=>⟨by have:=(O5.out.2.2 a ha).1;omega,by have:=(O5.out.2.2 a ha).2;omega⟩⟩,B9⟩
 . have HR:Hid (RES=(md0,ln)):=HP.out hln
   have cR0:=R1.out.cell 0 _ rfl;have zR0:=R1.out.frozen 0;have cR1:=R1.out.cell 1 _ rfl;have zR1:=R1.out.frozen 1;have cR2:=R1.out.cell 2 _ rfl;have zR2:=R1.out.frozen 2;go_wp2_with fail;clear cR0 zR0 cR1 zR1 cR2 zR2;have R9:Blk (((w1.setCell ⟨w.heap.size,0,none⟩ (.string ⟨#[]⟩)).setCell ⟨w.heap.size,1,none⟩ (.slice none 0 0)).setCell ⟨w.heap.size,2,none⟩ (.slice none 0 0)) w.heap.size #[.string ⟨#[]⟩,.slice none 0 0,.slice none 0 0] 25:=((R1.out.same (j:=0) (v:=.string ⟨#[]⟩) (cs':=#[.string ⟨#[]⟩,.slice none 0 0,.slice none 0 0]) rfl).same (j:=1) (v:=.slice none 0 0) (cs':=#[.string ⟨#[]⟩,.slice none 0 0,.slice none 0 0]) rfl).same (j:=2) (v:=.slice none 0 0) (cs':=#[.string ⟨#[]⟩,.slice none 0 0,.slice none 0 0]) rfl;have B9:Bz w (((w1.setCell ⟨w.heap.size,0,none⟩ (.string ⟨#[]⟩)).setCell ⟨w.heap.size,1,none⟩ (.slice none 0 0)).setCell ⟨w.heap.size,2,none⟩ (.slice none 0 0)):=(((B1.out.setCell (p:=⟨w.heap.size,0,none⟩) (sqR _) _).setCell (p:=⟨w.heap.size,1,none⟩) (sqR _) _).setCell (p:=⟨w.heap.size,2,none⟩) (sqR _) _);obtain ⟨q0,q1,q2⟩:=sqB3 R9;rw [HR.out];exact bodyPost_ret (v:=.tuple #[.agg #[.string ⟨#[]⟩,.slice none 0 0,.slice none 0 0],.int .i64 ln]) (by simp [results,results4,go_sem,q0,q1,q2]) rfl ⟨_,rfl,OwnM.nil,B9⟩
end
end Go.Proofs.YtacioihbhkcdcaaGreatDoor
