/-
  PImplZ
-/
import Derived.Test.YtacioihbhkcdcaaGreatDoorP41
set_option maxHeartbeats 16000000
set_option linter.unusedVariables false
set_option maxRecDepth 100000
namespace Go.Proofs.YtacioihbhkcdcaaGreatDoor
open Go.ChangeShapes Go.WideShapes Go.ChangeAt Go.RowKit
section
open Go.Proofs.Tryz
def MdK (w:World) (m:Mr) (v:Value) (w':World):Prop:=∃ p c q d f1 f2,v=.agg #[.string (bs m.1.1),.slice p m.1.2.length c,.slice q m.2.length d]/\okS (bs m.1.1)/\Zy w' 59 2 (ORX w') (.slice p m.1.2.length c) m.1.2 f1/\Zy w' 40 3 (OFT w') (.slice q m.2.length d) m.2 f2/\(f1 ++ f2).Nodup/\∀ a ∈ f1 ++ f2,w.heap.size<=a/\a<w'.heap.size
theorem Zik {ts:List Tok} {st:St} {s:List UInt8} (h:isS ts st s=true):takeS ts st s=adv st:=by unfold takeS;rw [h];rfl
theorem Zj8 (ts:List Tok) (st:St):xsP ts (Zcj ts (ZaV ts st).2)=((pTopRefs ts st).1,takeS ts (pTopRefs ts st).2 [93]):=by
 unfold xsP pTopRefs
 split
 . rename_i h;rw [Zik h]
 . rfl
theorem Zja (ts:List Tok) (st:St):Goes ts st (xsP ts st).2:=by
 unfold xsP
 split
 . rename_i h;exact Goes.adv (ZM h)
 . exact (ZcV _ _ _).trans (Zj _ _ _)
theorem Zj9 (ts:List Tok) (E:St->Ex × St):pMod ts E =
 ((((atomP ts (takeS ts (theP ts (takeS ts (0,false) [45]) [109,111,100,117,108,101]) [40])).1,(xsP ts (takeS ts (takeS ts (theP ts (takeS ts (takeS ts (takeS ts (atomP ts (takeS ts (theP ts (takeS ts (0,false) [45]) [109,111,100,117,108,101]) [40])).2 [41]) [46]) [45]) [101,120,112,111,114,116]) [40]) [91])).1),
  (Za7 ts E (ts.length+1) [] (takeS ts (takeS ts (xsP ts (takeS ts (takeS ts (theP ts (takeS ts (takeS ts (takeS ts (atomP ts (takeS ts (theP ts (takeS ts (0,false) [45]) [109,111,100,117,108,101]) [40])).2 [41]) [46]) [45]) [101,120,112,111,114,116]) [40]) [91])).2 [41]) [46])).1),
  (Za7 ts E (ts.length+1) [] (takeS ts (takeS ts (xsP ts (takeS ts (takeS ts (theP ts (takeS ts (takeS ts (takeS ts (atomP ts (takeS ts (theP ts (takeS ts (0,false) [45]) [109,111,100,117,108,101]) [40])).2 [41]) [46]) [45]) [101,120,112,111,114,116]) [40]) [91])).2 [41]) [46])).2):=by
 have h:=Zj8 ts (0,false);show _=((((ZaV ts (0,false)).1,(xsP ts (Zcj ts (ZaV ts (0,false)).2)).1),(Za7 ts E (ts.length+1) [] (takeS ts (takeS ts (xsP ts (Zcj ts (ZaV ts (0,false)).2)).2 [41]) [46])).1),(Za7 ts E (ts.length+1) [] (takeS ts (takeS ts (xsP ts (Zcj ts (ZaV ts (0,false)).2)).2 [41]) [46])).2);rw [h]
 rfl
theorem Zht {ts:List Tok} (hT:TsOk ts) (w:World) (rb:Nat) (lp:Option Addr) (cap:Nat) (hp:RdAt w rb lp cap ts 0) :
 Calls prog 16 #[.pointer (some ⟨rb,0,none⟩)] w (Rd ts rb lp cap w (pMod ts (pE ts (ts.length+1))).2 (MdK w (pMod ts (pE ts (ts.length+1))).1)):=by
 have HF:Hid (PIf ts 44 (ts.length+1) (pFun ts (pE ts (ts.length+1)))):=Zgk hT (Zbg ts _) (Ze3 hT _) (Zif hT _);have HG:Hid (ZV ts (pE ts (ts.length+1))):=Zbg ts _;generalize pE ts (ts.length+1)=E at *;have hlen:=hT.len;have HTS:=hid hT;have hwb:=hp.lt;have hne:w.heap.size≠rb:=(by omega);obtain ⟨W0,hW0⟩:∃ W0,W0=(w.alloc (.cells #[.string ⟨#[]⟩,.slice none 0 0,.slice none 0 0] 25)).alloc (.cells #[.string ⟨#[]⟩,.slice none 0 0,.slice none 0 0] 25):=⟨_,rfl⟩;have KA:Bz w W0:=(by rw [hW0];exact ((sqN _ _)).alloc (by simp only [Zg];omega) _);have P0:=hid (hp.next KA);have O0:Hid (Off [rb] w W0):=Off.of_below KA;have R0:Hid (Blk W0 w.heap.size #[.string ⟨#[]⟩,.slice none 0 0,.slice none 0 0] 25):=(by show Blk _ _ _ _;rw [hW0];exact Blk.new.alloc);obtain ⟨kb,hkb⟩:∃ kb,kb=w.heap.size+1:=⟨_,rfl⟩
 have E0:Hid (Blk W0 kb #[.string ⟨#[]⟩,.slice none 0 0,.slice none 0 0] 25):=by
  have:=Blk.new (w:=w.alloc (.cells #[.string ⟨#[]⟩,.slice none 0 0,.slice none 0 0] 25)) (cs:=#[.string ⟨#[]⟩,.slice none 0 0,.slice none 0 0]) (t:=25);rw [Zg] at this;show Blk _ _ _ _;rw [hW0,hkb];exact this
 have S0:Hid (kb+1<=W0.heap.size):=(by show _<=_;rw [hW0,Zg,Zg];omega);have HW0:=hid hW0;have hner:kb≠rb:=(by omega);have hrk:rb<kb:=(by omega);have HKB:=hid hkb.symm;have hwk:w.heap.size<kb:=(by omega);obtain ⟨RES,hRES⟩:∃ RES,RES=pMod ts E:=⟨_,rfl⟩;rw [<-hRES];rw [Zj9] at hRES;have H1:Hid (Calls prog 40 #[.pointer (some ⟨rb,0,none⟩),.string ⟨#[109,111,100,117,108,101]⟩] W0 (Rd ts rb lp cap W0 (takeS ts (theP ts (takeS ts (0,false) [45]) [109,111,100,117,108,101]) [40]) λv _=>v=.tuple #[])):=Zco W0 rb lp cap ts 0 ⟨#[109,111,100,117,108,101]⟩ P0.out (Nat.zero_le _) hlen (by simp);have g1:Goes ts (0,false) (takeS ts (theP ts (takeS ts (0,false) [45]) [109,111,100,117,108,101]) [40]):=((Zj _ _ _).trans (ZaU _ _ _)).trans (Zj _ _ _);generalize takeS ts (theP ts (takeS ts (0,false) [45]) [109,111,100,117,108,101]) [40]=s1 at *;obtain ⟨j1,b1⟩:=s1;have hl1:j1<=ts.length:=g1.le (Nat.zero_le _);have HR1:=hid hRES;clear hRES g1 hp KA hT hW0 hkb;go_enter func16,ntmps16;go_wp2_with fail;rw [<-HW0.out];refine H1.out.mono ?_;rintro e w1 hr
 cases b1 with
 | true =>
  obtain rfl:=hr.bad rfl;refine ⟨rfl,?_⟩;exact hr.fail O0.out rfl (by rw [HR1.out];simp only [ZK,ZdB,Zig,Zd1,ZaD])
 | false =>
  obtain ⟨v,rfl,hp1,rfl⟩:=hr.ok rfl;have ho1:=hr.off;have P1:=hid hp1;have O1:=hid (O0.out.trans ho1);have R1:=hid (R0.out.off ho1 hne);have E1:=hid (E0.out.off ho1 hner);have S1:=hid (Nat.le_trans S0.out ho1.size);clear hr hp1 ho1 P0 O0 R0 E0 S0 H1;have H2:=hid (Zb3 w1 rb lp cap ts j1 P1.out hl1 hlen);have g2:=Z9 ts (j1,false);have hal:=ZaK HTS.out (j1,false);generalize atomP ts (j1,false)=A at *;obtain ⟨nl,j2,b2⟩:=A;simp only at hal;have hl2:j2<=ts.length:=g2.le hl1;have HR2:=hid HR1.out;clear HR1 g2;go_wp2_with fail;rw [HKB.out];refine H2.out.mono ?_;rintro e w2 hr
  cases b2 with
  | true =>
   obtain rfl:=hr.bad rfl;refine ⟨rfl,?_⟩;exact hr.fail O1.out rfl (by rw [HR2.out];simp only [ZK,ZdB,Zd1,ZaD])
  | false =>
   obtain ⟨v,rfl,hp2,rfl⟩:=hr.ok rfl;have ho2:=hr.off;simp only;obtain ⟨nm,hnm⟩:∃ nm,nm=bs nl:=⟨_,rfl⟩;rw [<-hnm];have HNM:Hid (nm=bs nl/\okS nm):=⟨hnm,by rw [hnm];exact Zah hal⟩;clear hnm hal;have P2:=hid hp2;have O2:=hid (O1.out.trans ho2);have R2:=hid (R1.out.off ho2 hne);have E2:=hid (E1.out.off ho2 hner);have S2:=hid (Nat.le_trans S1.out ho2.size);have z0:=E2.out.cell 0 _ rfl;have z0f:=E2.out.frozen 0;have hon:Zv kb w2 (w2.setCell ⟨kb,0,none⟩ (.string nm)):=Zv.set;have P3:=hid (P2.out.only hon hrk);have O3:=hid (O2.out.only hon (by omega));have R3:=hid (R2.out.only hon (by omega));have E3:Hid (Blk (w2.setCell ⟨kb,0,none⟩ (.string nm)) kb #[.string nm,.slice none 0 0,.slice none 0 0] 25):=E2.out.same (j:=0) rfl;have S3:Hid (kb+1<=(w2.setCell ⟨kb,0,none⟩ (.string nm)).heap.size):=(by show _<=_;rw [hon.size];exact S2.out);have H3:=hid (Zb4 _ rb lp cap ts j2 P3.out hl2 hlen);have g3:Goes ts (j2,false) (takeS ts (takeS ts (j2,false) [41]) [46]):=(Zj _ _ _).trans (Zj _ _ _);generalize takeS ts (takeS ts (j2,false) [41]) [46]=s3 at *;obtain ⟨j3,b3⟩:=s3;have hl3:j3<=ts.length:=g3.le hl2;have HR3:=hid HR2.out;clear hr hp2 ho2 P1 O1 R1 E1 S1 H2 HR2 g3 hon P2 O2 R2 E2 S2;go_wp2_with fail;clear z0 z0f;refine H3.out.mono ?_;rintro e w4 hr
   cases b3 with
   | true =>
    obtain rfl:=hr.bad rfl;refine ⟨rfl,?_⟩;exact hr.fail O3.out rfl (by rw [HR3.out];simp only [ZK,ZdB,Zd1,ZaD])
   | false =>
    obtain ⟨v,rfl,hp4,rfl⟩:=hr.ok rfl;have ho4:=hr.off;have P4:=hid hp4;have O4:=hid (O3.out.trans ho4);have R4:=hid (R3.out.off ho4 hne);have E4:=hid (E3.out.off ho4 hner);have S4:=hid (Nat.le_trans S3.out ho4.size);have H4:=hid (Zco w4 rb lp cap ts j3 ⟨#[101,120,112,111,114,116]⟩ P4.out hl3 hlen (by simp));have g4:Goes ts (j3,false) (takeS ts (theP ts (takeS ts (j3,false) [45]) [101,120,112,111,114,116]) [40]):=((Zj _ _ _).trans (ZaU _ _ _)).trans (Zj _ _ _);generalize takeS ts (theP ts (takeS ts (j3,false) [45]) [101,120,112,111,114,116]) [40]=s4 at *;obtain ⟨j4,b4⟩:=s4;have hl4:j4<=ts.length:=g4.le hl3;have HR4:=hid HR3.out;clear hr hp4 ho4 P3 O3 R3 E3 S3 H3 HR3 g4;go_wp2_with fail;refine H4.out.mono ?_;rintro e w5 hr
    cases b4 with
    | true =>
     obtain rfl:=hr.bad rfl;refine ⟨rfl,?_⟩;exact hr.fail O4.out rfl (by rw [HR4.out];simp only [ZK,Zd1,ZaD])
    | false =>
     obtain ⟨v,rfl,hp5,rfl⟩:=hr.ok rfl;have ho5:=hr.off;have P5:=hid hp5;have O5:=hid (O4.out.trans ho5);have R5:=hid (R4.out.off ho5 hne);have E5:=hid (E4.out.off ho5 hner);have S5:=hid (Nat.le_trans S4.out ho5.size);have H5:=hid (Zgh HTS.out w5 rb lp cap j4 P5.out hl4);have g5:Goes ts (j4,false) (xsP ts (takeS ts (j4,false) [91])).2:=(Zj _ _ _).trans (Zja _ _);generalize xsP ts (takeS ts (j4,false) [91])=X at *;obtain ⟨xs,j5,b5⟩:=X;have hl5:j5<=ts.length:=g5.le hl4;have HR5:=hid HR4.out;clear hr hp5 ho5 P4 O4 R4 E4 S4 H4 HR4 g5;go_wp2_with fail;refine H5.out.mono ?_;rintro e w6 hr
     cases b5 with
     | true =>
      obtain rfl:=hr.bad rfl;refine ⟨rfl,?_⟩;exact hr.fail O5.out rfl (by rw [HR5.out];simp only [ZK,ZaD])
     | false =>
      obtain ⟨v,rfl,hp6,hk6⟩:=hr.ok rfl;obtain ⟨ep,ec,rfl,hec,hem⟩:=hk6.shape;have ho6:=hr.off;simp only at hk6 hec hem ⊢;have P6:=hid hp6;have O6:=hid (O5.out.trans ho6);have R6:=hid (R5.out.off ho6 hne);have E6:=hid (E5.out.off ho6 hner);have S6:=hid (Nat.le_trans S5.out ho6.size);obtain ⟨X0,hX0⟩:∃ X0,X0=w5.heap.size:=⟨_,rfl⟩;obtain ⟨X1,hX1⟩:∃ X1,X1=w6.heap.size:=⟨_,rfl⟩;have hX:X0<=X1:=(by rw [hX0,hX1];exact ho6.size);have hkX:kb+1<=X0:=(by rw [hX0];exact S5.out);have hrX:rb<X0:=(by omega);rw [<-hX0,<-hX1] at hk6;have HX1:=hid hX1.symm;obtain ⟨xl,hxl⟩:∃ xl,xl=xs.length:=⟨_,rfl⟩;rw [<-hxl] at hk6;have X6:=hid hk6;have HXL:=hid hxl;rw [<-hxl];have z1:=E6.out.cell 1 _ rfl;have z1f:=E6.out.frozen 1;have hon:Zv kb w6 (w6.setCell ⟨kb,1,none⟩ (.slice ep xl ec)):=Zv.set;have P7:=hid (P6.out.only hon hrk);have O7:=hid (O6.out.only hon (by omega));have R7:=hid (R6.out.only hon (by omega));have E7:Hid (Blk (w6.setCell ⟨kb,1,none⟩ (.slice ep xl ec)) kb #[.string nm,.slice ep xl ec,.slice none 0 0] 25):=E6.out.same (j:=1) rfl;have S7:Hid (kb+1<=(w6.setCell ⟨kb,1,none⟩ (.slice ep xl ec)).heap.size):=(by show _<=_;rw [hon.size];exact S6.out);have X7:=hid (X6.out.only ORX.keeps hon (.inl (by omega)));have Z7:Hid ((w6.setCell ⟨kb,1,none⟩ (.slice ep xl ec)).heap.size=X1):=(by show _=_;rw [hon.size];exact HX1.out);have H6:=hid (Zb4 _ rb lp cap ts j5 P7.out hl5 hlen);have g6:Goes ts (j5,false) (takeS ts (takeS ts (j5,false) [41]) [46]):=(Zj _ _ _).trans (Zj _ _ _);generalize takeS ts (takeS ts (j5,false) [41]) [46]=s6 at *;obtain ⟨j6,b6⟩:=s6;have hl6:j6<=ts.length:=g6.le hl5;have HR6:=hid HR5.out;clear hr hp6 ho6 P5 O5 R5 E5 S5 H5 HR5 g6 hon P6 O6 R6 E6 S6 X6 HX1 hX0 hX1 hk6 hxl hec;go_wp2_with fail;clear z1 z1f;refine H6.out.mono ?_;rintro e w8 hr
      cases b6 with
      | true =>
       obtain rfl:=hr.bad rfl;refine ⟨rfl,?_⟩;exact hr.fail O7.out rfl (by rw [HR6.out];simp only [ZaD])
      | false =>
       obtain ⟨v,rfl,hp8,rfl⟩:=hr.ok rfl;have ho8:=hr.off;have P8:=hid hp8;have O8:=hid (O7.out.trans ho8);have R8:=hid (R7.out.off ho8 hne);have E8:=hid (E7.out.off ho8 hner);have S8:=hid (Nat.le_trans S7.out ho8.size);have X8:=hid (X7.out.off ORX.keeps ho8 hrX);obtain ⟨B,hB⟩:∃ B,B=w8.heap.size:=⟨_,rfl⟩;have hXB:X1<=B:=(by rw [hB,<-Z7.out];exact ho8.size);have hkB:kb<B:=(by omega);have hrB:rb<B:=(by omega);have G8:Hid (Zh 40 3 OFT w8 B w8.heap.size (.slice none 0 0) []):=Zh.none (by omega) (sqR _);obtain ⟨acc,hacc⟩:∃ acc:List Fr,acc = []:=⟨_,rfl⟩;obtain ⟨cp,hcp⟩:∃ cp:Option Addr,cp=none:=⟨_,rfl⟩;obtain ⟨cc,hcc⟩:∃ cc:Nat,cc=0:=⟨_,rfl⟩;have hcv:(Value.slice none 0 0)=.slice cp acc.length cc:=(by rw [hacc,hcp,hcc];rfl);have HAL:Hid (acc.length<=100000000):=(by rw [hacc];show 0<=_;omega);have HAC:Hid (acc.length=0):=(by rw [hacc];rfl);rw [hcv,<-hacc] at G8
       have E8b:Hid (Blk w8 kb #[.string nm,.slice ep xl ec,.slice cp acc.length cc] 25):=by
        show Blk _ _ _ _;rw [<-hcv];exact E8.out
       have H7:Hid ((Za7 ts E (ts.length+1) [] (j6,false))=Za7 ts E ts.length (acc ++ [(pFun ts E (j6,false)).1]) (pFun ts E (j6,false)).2):=by
        rw [hacc];exact ZdR _ _ _ (.inr rfl)
       obtain ⟨FS,hFS⟩:∃ FS,FS=Za7 ts E (ts.length+1) [] (j6,false):=⟨_,rfl⟩;have HR7:Hid (RES=(((nl,xs),FS.1),FS.2)):=(by show _=_;rw [HR6.out,hFS]);rw [<-hFS] at H7;have CS:Hid (∀ w1,RdAt w1 rb lp cap ts j6->Calls prog 44 #[.pointer (some ⟨rb,0,none⟩)] w1 (Rd ts rb lp cap w1 (pFun ts E (j6,false)).2 (FnK w1 (pFun ts E (j6,false)).1))):=λw1 h1=>HF.out w1 rb lp cap j6 h1 hl6 (by omega);have g7:=Zcx HG.out (j6,false);have hlt7:∀ j,(pFun ts E (j6,false)).2=(j,false)->j6<j:=λj h=>ZfZ HG.out h;generalize pFun ts E (j6,false)=PF at *;obtain ⟨f2,j2,b2⟩:=PF;have hl7:j2<=ts.length:=g7.le hl6;clear hr hp8 ho8 P7 O7 R7 E7 S7 X7 Z7 H6 HR6 g7 E8 hcv hacc hcp hcc hFS hB;go_wp2_with fail
       go_cut [] from 40 to 46 (λwc=>∃ (g9 q9:Nat),b2=false/\Hid (RdAt wc rb lp cap ts j2)/\Hid (Off [rb] w wc)/\Hid (Blk wc w.heap.size #[.string ⟨#[]⟩,.slice none 0 0,.slice none 0 0] 25)/\Hid (Blk wc kb #[.string nm,.slice ep xl ec,.slice (some ⟨g9,0,none⟩) (acc.length+1) q9] 25)/\Hid (kb+1<=wc.heap.size)/\Hid (Zh 59 2 ORX wc X0 X1 (.slice ep xl ec) xs)/\Hid (Zh 40 3 OFT wc B wc.heap.size (.slice (some ⟨g9,0,none⟩) (acc.length+1) q9) (acc ++ [f2])))
       case first =>
        have l5:w8.cell? ⟨kb,2,none⟩=some (.slice cp acc.length cc):=E8b.out.cell 2 _ rfl;refine wp_region_held_drew (S:=λ_=>True) (by kernel_rfl) trivial (λhHeld=>?_);refine tkP 0 (v:=.pointer (some ⟨kb,2,none⟩)) rfl (by rfl) (λw' hS=>by go_simp) hHeld ?_
        try simp only [sqP]
        refine tkP 2 (v:=.pointer (some ⟨rb,0,none⟩)) rfl (by rfl) (λw' hS=>by go_simp) hHeld ?_
        try simp only [sqP]
        refine twoH 1 3 rfl rfl (λK hK=>?_) (λK hK=>?_)
        . go_simp
          refine hK.out _ _ trivial (λ_=>?_);clear hK K
          try simp only [sqP]
          refine oneH 3 rfl (λK hK=>?_)
          go_simp
          go_at_call 44
          refine (CS.out _ P8.out.dr).mono ?_;rintro e w6 hr
          cases b2 with
          | true =>
           obtain rfl:=hr.bad rfl;refine ⟨rfl,?_⟩;exact hr.fail O8.out.drO rfl (by rw [HR7.out,H7.out];simp only [ZaD])
          | false =>
           obtain ⟨v,rfl,hp6,hk6⟩:=hr.ok rfl;obtain ⟨fq,fc,rfl,hos,hoi,hg6⟩:=hk6;obtain ⟨cf,r6,nd6,rg6,-,-⟩:=Zh.done hg6;have ho6:Off [rb] w8 w6:=Off.drI hr.off;have P6:=hid hp6;have O6:=hid (O8.out.trans ho6);have R6:=hid (R8.out.off ho6 hne);have E6:=hid (E8b.out.off ho6 hner);have S6:=hid (Nat.le_trans S8.out ho6.size);have X6:=hid (X8.out.off ORX.keeps ho6 hrX);have G6:=hid (G8.out.off OFT.keeps ho6 hrB);have C6:Hid (OFT w6 [.string (bs f2.1),.int .i64 f2.2.1,.slice fq f2.2.2.length fc] f2 cf/\cf.Nodup/\∀ a ∈ cf,w8.heap.size<=a/\a<w6.heap.size):=⟨⟨_,rfl,hos,hoi,r6⟩,nd6,rg6⟩;have KA:Bz w6 (w6.alloc (.cells #[.string (bs f2.1),.int .i64 f2.2.1,.slice fq f2.2.2.length fc] 40)):=(sqN _ _);have SB6:=hid (Nat.le_trans (G8.out.le) ho6.size);have E6a:=hid (E6.out.next KA);have e5:w6.cell? ⟨kb,2,none⟩=some (.slice cp acc.length cc):=E6.out.cell 2 _ rfl;have f5:(w6.alloc (.cells #[.string (bs f2.1),.int .i64 f2.2.1,.slice fq f2.2.2.length fc] 40)).cell? ⟨kb,2,none⟩=some (.slice cp acc.length cc):=E6a.out.cell 2 _ rfl;clear hr hp6 hg6 r6 nd6 rg6 hos hoi ho6 KA;refine hK.out _ _ trivial (λ_=>?_);clear hK K
           try simp only [sqP]
           refine oneH 4 rfl (λK hK=>?_)
           go_simp
           refine hK.out _ _ trivial (λ_=>?_);clear hK K
           try simp only [sqP]
           refine oneH 5 rfl (λK hK=>?_);refine Zac OFT.keeps 23 40 3 48 _ (by rfl) _ _ (by rfl) underlying23 ZbR rfl (by decide) (by decide) B w8.heap.size (.slice cp acc.length cc) acc (by rfl) [.string (bs f2.1),.int .i64 f2.2.1,.slice fq f2.2.2.length fc] _ (by rfl) (by rfl) f2 cf G6.out C6.out.1 C6.out.2.1 C6.out.2.2 rfl ZcA (by have:=HAL.out;omega) ?_;intro g9 q9 w9 hg9 hb9;have KA:Bz w6 (w6.alloc (.cells #[.string (bs f2.1),.int .i64 f2.2.1,.slice fq f2.2.2.length fc] 40)):=(sqN _ _);have hb:Below B w6 w9:=(KA.mono SB6.out).trans hb9;have EE8:=hid (E6.out.below hb hkB);have hon:Zv kb w9 (w9.setCell ⟨kb,2,none⟩ (.slice (some ⟨g9,0,none⟩) (acc.length+1) q9)):=Zv.set;have P9:Hid (RdAt (w9.setCell ⟨kb,2,none⟩ (.slice (some ⟨g9,0,none⟩) (acc.length+1) q9)) rb lp cap ts j2):=(P6.out.below hb hrB).only hon hrk;have O9:Hid (Off [rb] w (w9.setCell ⟨kb,2,none⟩ (.slice (some ⟨g9,0,none⟩) (acc.length+1) q9))):=(O6.out.under (by omega) hb).only hon (by omega);have R9:Hid (Blk (w9.setCell ⟨kb,2,none⟩ (.slice (some ⟨g9,0,none⟩) (acc.length+1) q9)) w.heap.size #[.string ⟨#[]⟩,.slice none 0 0,.slice none 0 0] 25):=(R6.out.below hb (by omega)).only hon (by omega);have E9:Hid (Blk (w9.setCell ⟨kb,2,none⟩ (.slice (some ⟨g9,0,none⟩) (acc.length+1) q9)) kb #[.string nm,.slice ep xl ec,.slice (some ⟨g9,0,none⟩) (acc.length+1) q9] 25):=EE8.out.same (j:=2) rfl;have S9:Hid (kb+1<=(w9.setCell ⟨kb,2,none⟩ (.slice (some ⟨g9,0,none⟩) (acc.length+1) q9)).heap.size):=(by show _<=_;rw [hon.size];exact Nat.le_trans S6.out hb.size);have X9:Hid (Zh 59 2 ORX (w9.setCell ⟨kb,2,none⟩ (.slice (some ⟨g9,0,none⟩) (acc.length+1) q9)) X0 X1 (.slice ep xl ec) xs):=(X6.out.keep ORX.keeps hb.size (λa h1 h2=>hb.block a (by omega))).only ORX.keeps hon (.inl (by omega));have G9:Hid (Zh 40 3 OFT (w9.setCell ⟨kb,2,none⟩ (.slice (some ⟨g9,0,none⟩) (acc.length+1) q9)) B (w9.setCell ⟨kb,2,none⟩ (.slice (some ⟨g9,0,none⟩) (acc.length+1) q9)).heap.size (.slice (some ⟨g9,0,none⟩) (acc.length+1) q9) (acc ++ [f2])):=(hg9.only OFT.keeps hon (.inl hkB)).more (sqR _) (Nat.le_of_eq hon.size.symm) (sqR _);have s5:w9.cell? ⟨kb,2,none⟩=some (.slice cp acc.length cc):=EE8.out.cell 2 _ rfl;have t5:=EE8.out.frozen 2;clear hg9 hb9 KA hb hon;refine hK.out _ _ trivial (λ_=>?_);clear hK K
           try simp only [sqP]
           refine oneH 6 rfl (λK hK=>?_)
           go_simp
           refine hK.out _ _ trivial (λ_=>?_);clear hK K
           try simp only [sqP]
           refine oneH 7 rfl (λK hK=>?_)
           go_simp
           refine hK.out _ _ trivial (λ_=>?_);clear hK K s5 t5;refine wpAnyH_done (by kernel_rfl) ?_ _;go_wp2_with fail
           go_meet
           case rel=>exact ⟨g9,q9,(by first | trivial | rfl),P9,O9,R9,E9,S9,X9,G9⟩
        . go_simp
          go_at_call 44
          refine (CS.out _ P8.out.dr).mono ?_;rintro e w6 hr
          cases b2 with
          | true =>
           obtain rfl:=hr.bad rfl;refine ⟨rfl,?_⟩;exact hr.fail O8.out.drO rfl (by rw [HR7.out,H7.out];simp only [ZaD])
          | false =>
           obtain ⟨v,rfl,hp6,hk6⟩:=hr.ok rfl;obtain ⟨fq,fc,rfl,hos,hoi,hg6⟩:=hk6;obtain ⟨cf,r6,nd6,rg6,-,-⟩:=Zh.done hg6;have ho6:Off [rb] w8 w6:=Off.drI hr.off;have P6:=hid hp6;have O6:=hid (O8.out.trans ho6);have R6:=hid (R8.out.off ho6 hne);have E6:=hid (E8b.out.off ho6 hner);have S6:=hid (Nat.le_trans S8.out ho6.size);have X6:=hid (X8.out.off ORX.keeps ho6 hrX);have G6:=hid (G8.out.off OFT.keeps ho6 hrB);have C6:Hid (OFT w6 [.string (bs f2.1),.int .i64 f2.2.1,.slice fq f2.2.2.length fc] f2 cf/\cf.Nodup/\∀ a ∈ cf,w8.heap.size<=a/\a<w6.heap.size):=⟨⟨_,rfl,hos,hoi,r6⟩,nd6,rg6⟩;have KA:Bz w6 (w6.alloc (.cells #[.string (bs f2.1),.int .i64 f2.2.1,.slice fq f2.2.2.length fc] 40)):=(sqN _ _);have SB6:=hid (Nat.le_trans (G8.out.le) ho6.size);have E6a:=hid (E6.out.next KA);have e5:w6.cell? ⟨kb,2,none⟩=some (.slice cp acc.length cc):=E6.out.cell 2 _ rfl;have f5:(w6.alloc (.cells #[.string (bs f2.1),.int .i64 f2.2.1,.slice fq f2.2.2.length fc] 40)).cell? ⟨kb,2,none⟩=some (.slice cp acc.length cc):=E6a.out.cell 2 _ rfl;clear hr hp6 hg6 r6 nd6 rg6 hos hoi ho6 KA;refine hK.out _ _ trivial (λ_=>?_);clear hK K
           try simp only [sqP]
           refine twoH 1 4 rfl rfl (λK hK=>?_) (λK hK=>?_)
           . go_simp
             refine hK.out _ _ trivial (λ_=>?_);clear hK K
             try simp only [sqP]
             refine oneH 4 rfl (λK hK=>?_)
             go_simp
             refine hK.out _ _ trivial (λ_=>?_);clear hK K
             try simp only [sqP]
             refine oneH 5 rfl (λK hK=>?_);refine Zac OFT.keeps 23 40 3 48 _ (by rfl) _ _ (by rfl) underlying23 ZbR rfl (by decide) (by decide) B w8.heap.size (.slice cp acc.length cc) acc (by rfl) [.string (bs f2.1),.int .i64 f2.2.1,.slice fq f2.2.2.length fc] _ (by rfl) (by rfl) f2 cf G6.out C6.out.1 C6.out.2.1 C6.out.2.2 rfl ZcA (by have:=HAL.out;omega) ?_;intro g9 q9 w9 hg9 hb9;have KA:Bz w6 (w6.alloc (.cells #[.string (bs f2.1),.int .i64 f2.2.1,.slice fq f2.2.2.length fc] 40)):=(sqN _ _);have hb:Below B w6 w9:=(KA.mono SB6.out).trans hb9;have EE8:=hid (E6.out.below hb hkB);have hon:Zv kb w9 (w9.setCell ⟨kb,2,none⟩ (.slice (some ⟨g9,0,none⟩) (acc.length+1) q9)):=Zv.set;have P9:Hid (RdAt (w9.setCell ⟨kb,2,none⟩ (.slice (some ⟨g9,0,none⟩) (acc.length+1) q9)) rb lp cap ts j2):=(P6.out.below hb hrB).only hon hrk;have O9:Hid (Off [rb] w (w9.setCell ⟨kb,2,none⟩ (.slice (some ⟨g9,0,none⟩) (acc.length+1) q9))):=(O6.out.under (by omega) hb).only hon (by omega);have R9:Hid (Blk (w9.setCell ⟨kb,2,none⟩ (.slice (some ⟨g9,0,none⟩) (acc.length+1) q9)) w.heap.size #[.string ⟨#[]⟩,.slice none 0 0,.slice none 0 0] 25):=(R6.out.below hb (by omega)).only hon (by omega);have E9:Hid (Blk (w9.setCell ⟨kb,2,none⟩ (.slice (some ⟨g9,0,none⟩) (acc.length+1) q9)) kb #[.string nm,.slice ep xl ec,.slice (some ⟨g9,0,none⟩) (acc.length+1) q9] 25):=EE8.out.same (j:=2) rfl;have S9:Hid (kb+1<=(w9.setCell ⟨kb,2,none⟩ (.slice (some ⟨g9,0,none⟩) (acc.length+1) q9)).heap.size):=(by show _<=_;rw [hon.size];exact Nat.le_trans S6.out hb.size);have X9:Hid (Zh 59 2 ORX (w9.setCell ⟨kb,2,none⟩ (.slice (some ⟨g9,0,none⟩) (acc.length+1) q9)) X0 X1 (.slice ep xl ec) xs):=(X6.out.keep ORX.keeps hb.size (λa h1 h2=>hb.block a (by omega))).only ORX.keeps hon (.inl (by omega));have G9:Hid (Zh 40 3 OFT (w9.setCell ⟨kb,2,none⟩ (.slice (some ⟨g9,0,none⟩) (acc.length+1) q9)) B (w9.setCell ⟨kb,2,none⟩ (.slice (some ⟨g9,0,none⟩) (acc.length+1) q9)).heap.size (.slice (some ⟨g9,0,none⟩) (acc.length+1) q9) (acc ++ [f2])):=(hg9.only OFT.keeps hon (.inl hkB)).more (sqR _) (Nat.le_of_eq hon.size.symm) (sqR _);have s5:w9.cell? ⟨kb,2,none⟩=some (.slice cp acc.length cc):=EE8.out.cell 2 _ rfl;have t5:=EE8.out.frozen 2;clear hg9 hb9 KA hb hon;refine hK.out _ _ trivial (λ_=>?_);clear hK K
             try simp only [sqP]
             refine oneH 6 rfl (λK hK=>?_)
             go_simp
             refine hK.out _ _ trivial (λ_=>?_);clear hK K
             try simp only [sqP]
             refine oneH 7 rfl (λK hK=>?_)
             go_simp
             refine hK.out _ _ trivial (λ_=>?_);clear hK K s5 t5;refine wpAnyH_done (by kernel_rfl) ?_ _;go_wp2_with fail
             go_meet
             case rel=>exact ⟨g9,q9,(by first | trivial | rfl),P9,O9,R9,E9,S9,X9,G9⟩
           . go_simp
             refine hK.out _ _ trivial (λ_=>?_);clear hK K
             try simp only [sqP]
             refine oneH 1 rfl (λK hK=>?_)
             go_simp
             refine hK.out _ _ trivial (λ_=>?_);clear hK K
             try simp only [sqP]
             refine oneH 5 rfl (λK hK=>?_);refine Zac OFT.keeps 23 40 3 48 _ (by rfl) _ _ (by rfl) underlying23 ZbR rfl (by decide) (by decide) B w8.heap.size (.slice cp acc.length cc) acc (by rfl) [.string (bs f2.1),.int .i64 f2.2.1,.slice fq f2.2.2.length fc] _ (by rfl) (by rfl) f2 cf G6.out C6.out.1 C6.out.2.1 C6.out.2.2 rfl ZcA (by have:=HAL.out;omega) ?_;intro g9 q9 w9 hg9 hb9;have KA:Bz w6 (w6.alloc (.cells #[.string (bs f2.1),.int .i64 f2.2.1,.slice fq f2.2.2.length fc] 40)):=(sqN _ _);have hb:Below B w6 w9:=(KA.mono SB6.out).trans hb9;have EE8:=hid (E6.out.below hb hkB);have hon:Zv kb w9 (w9.setCell ⟨kb,2,none⟩ (.slice (some ⟨g9,0,none⟩) (acc.length+1) q9)):=Zv.set;have P9:Hid (RdAt (w9.setCell ⟨kb,2,none⟩ (.slice (some ⟨g9,0,none⟩) (acc.length+1) q9)) rb lp cap ts j2):=(P6.out.below hb hrB).only hon hrk;have O9:Hid (Off [rb] w (w9.setCell ⟨kb,2,none⟩ (.slice (some ⟨g9,0,none⟩) (acc.length+1) q9))):=(O6.out.under (by omega) hb).only hon (by omega);have R9:Hid (Blk (w9.setCell ⟨kb,2,none⟩ (.slice (some ⟨g9,0,none⟩) (acc.length+1) q9)) w.heap.size #[.string ⟨#[]⟩,.slice none 0 0,.slice none 0 0] 25):=(R6.out.below hb (by omega)).only hon (by omega);have E9:Hid (Blk (w9.setCell ⟨kb,2,none⟩ (.slice (some ⟨g9,0,none⟩) (acc.length+1) q9)) kb #[.string nm,.slice ep xl ec,.slice (some ⟨g9,0,none⟩) (acc.length+1) q9] 25):=EE8.out.same (j:=2) rfl;have S9:Hid (kb+1<=(w9.setCell ⟨kb,2,none⟩ (.slice (some ⟨g9,0,none⟩) (acc.length+1) q9)).heap.size):=(by show _<=_;rw [hon.size];exact Nat.le_trans S6.out hb.size);have X9:Hid (Zh 59 2 ORX (w9.setCell ⟨kb,2,none⟩ (.slice (some ⟨g9,0,none⟩) (acc.length+1) q9)) X0 X1 (.slice ep xl ec) xs):=(X6.out.keep ORX.keeps hb.size (λa h1 h2=>hb.block a (by omega))).only ORX.keeps hon (.inl (by omega));have G9:Hid (Zh 40 3 OFT (w9.setCell ⟨kb,2,none⟩ (.slice (some ⟨g9,0,none⟩) (acc.length+1) q9)) B (w9.setCell ⟨kb,2,none⟩ (.slice (some ⟨g9,0,none⟩) (acc.length+1) q9)).heap.size (.slice (some ⟨g9,0,none⟩) (acc.length+1) q9) (acc ++ [f2])):=(hg9.only OFT.keeps hon (.inl hkB)).more (sqR _) (Nat.le_of_eq hon.size.symm) (sqR _);have s5:w9.cell? ⟨kb,2,none⟩=some (.slice cp acc.length cc):=EE8.out.cell 2 _ rfl;have t5:=EE8.out.frozen 2;clear hg9 hb9 KA hb hon;refine hK.out _ _ trivial (λ_=>?_);clear hK K
             try simp only [sqP]
             refine oneH 6 rfl (λK hK=>?_)
             go_simp
             refine hK.out _ _ trivial (λ_=>?_);clear hK K
             try simp only [sqP]
             refine oneH 7 rfl (λK hK=>?_)
             go_simp
             refine hK.out _ _ trivial (λ_=>?_);clear hK K s5 t5;refine wpAnyH_done (by kernel_rfl) ?_ _;go_wp2_with fail
             go_meet
             case rel=>exact ⟨g9,q9,(by first | trivial | rfl),P9,O9,R9,E9,S9,X9,G9⟩
       case rest =>
        obtain ⟨g9,q9,rfl,P9,O9,R9,E9,S9,X9,G9⟩:=hcut;have HQ0:=hid H7.out.symm;have HA1:(acc ++ [f2]).length=acc.length+1:=(by simp);have hj2:j6<j2:=hlt7 j2 rfl;have HA0:Hid ((acc ++ [f2]).length<=1+j2/\(acc ++ [f2]).length≠0):=⟨by have:=HAC.out;rw [HA1];omega,by rw [HA1];omega⟩;rw [<-HA1] at G9 E9;clear P8 O8 R8 E8b S8 X8 G8 CS H7 hlt7;generalize acc ++ [f2]=acc0 at *;clear HA1 HAL HAC;go_wp2_with fail
        go_loopw [] (λwr=>∃ (k j:Nat) (acc:List Fr) (cp:Option Addr) (cc:Nat),Hid (RdAt wr rb lp cap ts j)/\Hid (Off [rb] w wr)/\Hid (Blk wr w.heap.size #[.string ⟨#[]⟩,.slice none 0 0,.slice none 0 0] 25)/\Hid (Blk wr kb #[.string nm,.slice ep xl ec,.slice cp acc.length cc] 25)/\Hid (kb+1<=wr.heap.size)/\Hid (Zh 59 2 ORX wr X0 X1 (.slice ep xl ec) xs)/\Hid (Zh 40 3 OFT wr B wr.heap.size (.slice cp acc.length cc) acc)/\Hid (acc.length<=1+j/\acc.length≠0)/\Hid (Za7 ts E k acc (j,false)=FS)/\j<=ts.length/\ts.length<k+j) (λwr=>ts.length+1 - posM wr rb)
        case atStart=>exact ⟨ts.length,j2,acc0,_,q9,P9,O9,R9,E9,S9,X9,G9,HA0,HQ0,hl7,by omega⟩
        case round =>
         clear P9 O9 R9 E9 S9 X9 G9 HA0 HQ0;obtain ⟨k,j,acc,cp,cc,P3,O3,R3,E3,S3,X3,G3,HA,HQ,hj,hkj⟩:=hrel;have HPO:=hid P3.out.pos;obtain ⟨r0,r1⟩:=sqB2 P3.out.blk;by_cases hjl:j<ts.length
         . have hjl':((j:Nat):Int)<(ts.length:Int):=by omega
           obtain ⟨k,rfl⟩:∃ k',k=k'+1:=⟨k - 1,by omega⟩;have HAL:Hid (acc.length<=100000000):=(by show _<=_;have:=HA.out.1;omega);have H7:Hid (FS=Za7 ts E k (acc ++ [(pFun ts E (j,false)).1]) (pFun ts E (j,false)).2):=(by show _=_;rw [<-HQ.out];exact ZdR _ _ _ (.inl hjl));have CS:Hid (∀ w1,RdAt w1 rb lp cap ts j->Calls prog 44 #[.pointer (some ⟨rb,0,none⟩)] w1 (Rd ts rb lp cap w1 (pFun ts E (j,false)).2 (FnK w1 (pFun ts E (j,false)).1))):=λw1 h1=>HF.out w1 rb lp cap j h1 hj (by omega);have g7:=Zcx HG.out (j,false);have hlt7:∀ j',(pFun ts E (j,false)).2=(j',false)->j<j':=λj' h=>ZfZ HG.out h;generalize pFun ts E (j,false)=PF at *;obtain ⟨f2,j2,b2⟩:=PF;have hl7:j2<=ts.length:=g7.le hj;clear HQ g7;go_wp2_with fail
           go_quiet (fail)
           have KQ:Bz wr (wr.drewN nq):=below_drewN (Below.refl _ _) _;have P4:=hid (P3.out.next KQ);have O4:=hid (O3.out.trans (Off.of_below KQ));have R4:=hid (R3.out.next KQ);have E4:=hid (E3.out.next KQ);have S4:=hid (Nat.le_trans S3.out KQ.size);have X4:=hid (X3.out.next ORX.keeps KQ);have G4:Hid (Zh 40 3 OFT (wr.drewN nq) B (wr.drewN nq).heap.size (.slice cp acc.length cc) acc):=(G3.out.next OFT.keeps KQ).more (sqR _) KQ.size (sqR _);clear KQ P3 O3 R3 E3 S3 X3 G3 r0 r1;generalize wr.drewN nq=w4 at *;go_wp2_with fail;have l5:w4.cell? ⟨kb,2,none⟩=some (.slice cp acc.length cc):=E4.out.cell 2 _ rfl;refine wp_region_held_drew (S:=λ_=>True) (by kernel_rfl) trivial (λhHeld=>?_);refine tkP 0 (v:=.pointer (some ⟨kb,2,none⟩)) rfl (by rfl) (λw' hS=>by go_simp) hHeld ?_
           try simp only [sqP]
           refine tkP 2 (v:=.pointer (some ⟨rb,0,none⟩)) rfl (by rfl) (λw' hS=>by go_simp) hHeld ?_
           try simp only [sqP]
           refine twoH 1 3 rfl rfl (λK hK=>?_) (λK hK=>?_)
           . go_simp
             refine hK.out _ _ trivial (λ_=>?_);clear hK K
             try simp only [sqP]
             refine oneH 3 rfl (λK hK=>?_)
             go_simp
             go_at_call 44
             refine (CS.out _ P4.out.dr).mono ?_;rintro e w6 hr
             cases b2 with
             | true =>
              obtain rfl:=hr.bad rfl;refine ⟨rfl,?_⟩;exact hr.fail O4.out.drO rfl (by rw [HR7.out,H7.out];simp only [ZaD])
             | false =>
              obtain ⟨v,rfl,hp6,hk6⟩:=hr.ok rfl;obtain ⟨fq,fc,rfl,hos,hoi,hg6⟩:=hk6;obtain ⟨cf,r6,nd6,rg6,-,-⟩:=Zh.done hg6;have ho6:Off [rb] w4 w6:=Off.drI hr.off;have P6:=hid hp6;have O6:=hid (O4.out.trans ho6);have R6:=hid (R4.out.off ho6 hne);have E6:=hid (E4.out.off ho6 hner);have S6:=hid (Nat.le_trans S4.out ho6.size);have X6:=hid (X4.out.off ORX.keeps ho6 hrX);have G6:=hid (G4.out.off OFT.keeps ho6 hrB);have C6:Hid (OFT w6 [.string (bs f2.1),.int .i64 f2.2.1,.slice fq f2.2.2.length fc] f2 cf/\cf.Nodup/\∀ a ∈ cf,w4.heap.size<=a/\a<w6.heap.size):=⟨⟨_,rfl,hos,hoi,r6⟩,nd6,rg6⟩;have KA:Bz w6 (w6.alloc (.cells #[.string (bs f2.1),.int .i64 f2.2.1,.slice fq f2.2.2.length fc] 40)):=(sqN _ _);have SB6:=hid (Nat.le_trans (G4.out.le) ho6.size);have E6a:=hid (E6.out.next KA);have e5:w6.cell? ⟨kb,2,none⟩=some (.slice cp acc.length cc):=E6.out.cell 2 _ rfl;have f5:(w6.alloc (.cells #[.string (bs f2.1),.int .i64 f2.2.1,.slice fq f2.2.2.length fc] 40)).cell? ⟨kb,2,none⟩=some (.slice cp acc.length cc):=E6a.out.cell 2 _ rfl;clear hr hp6 hg6 r6 nd6 rg6 hos hoi ho6 KA;refine hK.out _ _ trivial (λ_=>?_);clear hK K
              try simp only [sqP]
              refine oneH 4 rfl (λK hK=>?_)
              go_simp
              refine hK.out _ _ trivial (λ_=>?_);clear hK K
              try simp only [sqP]
              refine oneH 5 rfl (λK hK=>?_);refine Zac OFT.keeps 23 40 3 48 _ (by rfl) _ _ (by rfl) underlying23 ZbR rfl (by decide) (by decide) B w4.heap.size (.slice cp acc.length cc) acc (by rfl) [.string (bs f2.1),.int .i64 f2.2.1,.slice fq f2.2.2.length fc] _ (by rfl) (by rfl) f2 cf G6.out C6.out.1 C6.out.2.1 C6.out.2.2 rfl ZcA (by have:=HAL.out;omega) ?_;intro g9 q9 w9 hg9 hb9;have KA:Bz w6 (w6.alloc (.cells #[.string (bs f2.1),.int .i64 f2.2.1,.slice fq f2.2.2.length fc] 40)):=(sqN _ _);have hb:Below B w6 w9:=(KA.mono SB6.out).trans hb9;have EE8:=hid (E6.out.below hb hkB);have hon:Zv kb w9 (w9.setCell ⟨kb,2,none⟩ (.slice (some ⟨g9,0,none⟩) (acc.length+1) q9)):=Zv.set;have P9:Hid (RdAt (w9.setCell ⟨kb,2,none⟩ (.slice (some ⟨g9,0,none⟩) (acc.length+1) q9)) rb lp cap ts j2):=(P6.out.below hb hrB).only hon hrk;have O9:Hid (Off [rb] w (w9.setCell ⟨kb,2,none⟩ (.slice (some ⟨g9,0,none⟩) (acc.length+1) q9))):=(O6.out.under (by omega) hb).only hon (by omega);have R9:Hid (Blk (w9.setCell ⟨kb,2,none⟩ (.slice (some ⟨g9,0,none⟩) (acc.length+1) q9)) w.heap.size #[.string ⟨#[]⟩,.slice none 0 0,.slice none 0 0] 25):=(R6.out.below hb (by omega)).only hon (by omega);have E9:Hid (Blk (w9.setCell ⟨kb,2,none⟩ (.slice (some ⟨g9,0,none⟩) (acc.length+1) q9)) kb #[.string nm,.slice ep xl ec,.slice (some ⟨g9,0,none⟩) (acc.length+1) q9] 25):=EE8.out.same (j:=2) rfl;have S9:Hid (kb+1<=(w9.setCell ⟨kb,2,none⟩ (.slice (some ⟨g9,0,none⟩) (acc.length+1) q9)).heap.size):=(by show _<=_;rw [hon.size];exact Nat.le_trans S6.out hb.size);have X9:Hid (Zh 59 2 ORX (w9.setCell ⟨kb,2,none⟩ (.slice (some ⟨g9,0,none⟩) (acc.length+1) q9)) X0 X1 (.slice ep xl ec) xs):=(X6.out.keep ORX.keeps hb.size (λa h1 h2=>hb.block a (by omega))).only ORX.keeps hon (.inl (by omega));have G9:Hid (Zh 40 3 OFT (w9.setCell ⟨kb,2,none⟩ (.slice (some ⟨g9,0,none⟩) (acc.length+1) q9)) B (w9.setCell ⟨kb,2,none⟩ (.slice (some ⟨g9,0,none⟩) (acc.length+1) q9)).heap.size (.slice (some ⟨g9,0,none⟩) (acc.length+1) q9) (acc ++ [f2])):=(hg9.only OFT.keeps hon (.inl hkB)).more (sqR _) (Nat.le_of_eq hon.size.symm) (sqR _);have s5:w9.cell? ⟨kb,2,none⟩=some (.slice cp acc.length cc):=EE8.out.cell 2 _ rfl;have t5:=EE8.out.frozen 2;clear hg9 hb9 KA hb hon;refine hK.out _ _ trivial (λ_=>?_);clear hK K
              try simp only [sqP]
              refine oneH 6 rfl (λK hK=>?_)
              go_simp
              refine hK.out _ _ trivial (λ_=>?_);clear hK K
              try simp only [sqP]
              refine oneH 7 rfl (λK hK=>?_)
              go_simp
              refine hK.out _ _ trivial (λ_=>?_);clear hK K s5 t5;refine wpAnyH_done (by kernel_rfl) ?_ _;go_wp2_with fail;have HA1:(acc ++ [f2]).length=acc.length+1:=(by simp);have hj2:j<j2:=hlt7 j2 rfl;exact ⟨⟨k,j2,acc ++ [f2],some ⟨g9,0,none⟩,q9,P9,O9,R9,(by rw [HA1];exact E9),S9,X9,(by rw [HA1];exact G9),⟨by have:=HA.out.1;rw [HA1];omega,by rw [HA1];omega⟩,H7.out.symm,hl7,by omega⟩,by rw [P9.out.pos,HPO.out];omega⟩
           . go_simp
             go_at_call 44
             refine (CS.out _ P4.out.dr).mono ?_;rintro e w6 hr
             cases b2 with
             | true =>
              obtain rfl:=hr.bad rfl;refine ⟨rfl,?_⟩;exact hr.fail O4.out.drO rfl (by rw [HR7.out,H7.out];simp only [ZaD])
             | false =>
              obtain ⟨v,rfl,hp6,hk6⟩:=hr.ok rfl;obtain ⟨fq,fc,rfl,hos,hoi,hg6⟩:=hk6;obtain ⟨cf,r6,nd6,rg6,-,-⟩:=Zh.done hg6;have ho6:Off [rb] w4 w6:=Off.drI hr.off;have P6:=hid hp6;have O6:=hid (O4.out.trans ho6);have R6:=hid (R4.out.off ho6 hne);have E6:=hid (E4.out.off ho6 hner);have S6:=hid (Nat.le_trans S4.out ho6.size);have X6:=hid (X4.out.off ORX.keeps ho6 hrX);have G6:=hid (G4.out.off OFT.keeps ho6 hrB);have C6:Hid (OFT w6 [.string (bs f2.1),.int .i64 f2.2.1,.slice fq f2.2.2.length fc] f2 cf/\cf.Nodup/\∀ a ∈ cf,w4.heap.size<=a/\a<w6.heap.size):=⟨⟨_,rfl,hos,hoi,r6⟩,nd6,rg6⟩;have KA:Bz w6 (w6.alloc (.cells #[.string (bs f2.1),.int .i64 f2.2.1,.slice fq f2.2.2.length fc] 40)):=(sqN _ _);have SB6:=hid (Nat.le_trans (G4.out.le) ho6.size);have E6a:=hid (E6.out.next KA);have e5:w6.cell? ⟨kb,2,none⟩=some (.slice cp acc.length cc):=E6.out.cell 2 _ rfl;have f5:(w6.alloc (.cells #[.string (bs f2.1),.int .i64 f2.2.1,.slice fq f2.2.2.length fc] 40)).cell? ⟨kb,2,none⟩=some (.slice cp acc.length cc):=E6a.out.cell 2 _ rfl;clear hr hp6 hg6 r6 nd6 rg6 hos hoi ho6 KA;refine hK.out _ _ trivial (λ_=>?_);clear hK K
              try simp only [sqP]
              refine twoH 1 4 rfl rfl (λK hK=>?_) (λK hK=>?_)
              . go_simp
                refine hK.out _ _ trivial (λ_=>?_);clear hK K
                try simp only [sqP]
                refine oneH 4 rfl (λK hK=>?_)
                go_simp
                refine hK.out _ _ trivial (λ_=>?_);clear hK K
                try simp only [sqP]
                refine oneH 5 rfl (λK hK=>?_);refine Zac OFT.keeps 23 40 3 48 _ (by rfl) _ _ (by rfl) underlying23 ZbR rfl (by decide) (by decide) B w4.heap.size (.slice cp acc.length cc) acc (by rfl) [.string (bs f2.1),.int .i64 f2.2.1,.slice fq f2.2.2.length fc] _ (by rfl) (by rfl) f2 cf G6.out C6.out.1 C6.out.2.1 C6.out.2.2 rfl ZcA (by have:=HAL.out;omega) ?_;intro g9 q9 w9 hg9 hb9;have KA:Bz w6 (w6.alloc (.cells #[.string (bs f2.1),.int .i64 f2.2.1,.slice fq f2.2.2.length fc] 40)):=(sqN _ _);have hb:Below B w6 w9:=(KA.mono SB6.out).trans hb9;have EE8:=hid (E6.out.below hb hkB);have hon:Zv kb w9 (w9.setCell ⟨kb,2,none⟩ (.slice (some ⟨g9,0,none⟩) (acc.length+1) q9)):=Zv.set;have P9:Hid (RdAt (w9.setCell ⟨kb,2,none⟩ (.slice (some ⟨g9,0,none⟩) (acc.length+1) q9)) rb lp cap ts j2):=(P6.out.below hb hrB).only hon hrk;have O9:Hid (Off [rb] w (w9.setCell ⟨kb,2,none⟩ (.slice (some ⟨g9,0,none⟩) (acc.length+1) q9))):=(O6.out.under (by omega) hb).only hon (by omega);have R9:Hid (Blk (w9.setCell ⟨kb,2,none⟩ (.slice (some ⟨g9,0,none⟩) (acc.length+1) q9)) w.heap.size #[.string ⟨#[]⟩,.slice none 0 0,.slice none 0 0] 25):=(R6.out.below hb (by omega)).only hon (by omega);have E9:Hid (Blk (w9.setCell ⟨kb,2,none⟩ (.slice (some ⟨g9,0,none⟩) (acc.length+1) q9)) kb #[.string nm,.slice ep xl ec,.slice (some ⟨g9,0,none⟩) (acc.length+1) q9] 25):=EE8.out.same (j:=2) rfl;have S9:Hid (kb+1<=(w9.setCell ⟨kb,2,none⟩ (.slice (some ⟨g9,0,none⟩) (acc.length+1) q9)).heap.size):=(by show _<=_;rw [hon.size];exact Nat.le_trans S6.out hb.size);have X9:Hid (Zh 59 2 ORX (w9.setCell ⟨kb,2,none⟩ (.slice (some ⟨g9,0,none⟩) (acc.length+1) q9)) X0 X1 (.slice ep xl ec) xs):=(X6.out.keep ORX.keeps hb.size (λa h1 h2=>hb.block a (by omega))).only ORX.keeps hon (.inl (by omega));have G9:Hid (Zh 40 3 OFT (w9.setCell ⟨kb,2,none⟩ (.slice (some ⟨g9,0,none⟩) (acc.length+1) q9)) B (w9.setCell ⟨kb,2,none⟩ (.slice (some ⟨g9,0,none⟩) (acc.length+1) q9)).heap.size (.slice (some ⟨g9,0,none⟩) (acc.length+1) q9) (acc ++ [f2])):=(hg9.only OFT.keeps hon (.inl hkB)).more (sqR _) (Nat.le_of_eq hon.size.symm) (sqR _);have s5:w9.cell? ⟨kb,2,none⟩=some (.slice cp acc.length cc):=EE8.out.cell 2 _ rfl;have t5:=EE8.out.frozen 2;clear hg9 hb9 KA hb hon;refine hK.out _ _ trivial (λ_=>?_);clear hK K
                try simp only [sqP]
                refine oneH 6 rfl (λK hK=>?_)
                go_simp
                refine hK.out _ _ trivial (λ_=>?_);clear hK K
                try simp only [sqP]
                refine oneH 7 rfl (λK hK=>?_)
                go_simp
                refine hK.out _ _ trivial (λ_=>?_);clear hK K s5 t5;refine wpAnyH_done (by kernel_rfl) ?_ _;go_wp2_with fail;have HA1:(acc ++ [f2]).length=acc.length+1:=(by simp);have hj2:j<j2:=hlt7 j2 rfl;exact ⟨⟨k,j2,acc ++ [f2],some ⟨g9,0,none⟩,q9,P9,O9,R9,(by rw [HA1];exact E9),S9,X9,(by rw [HA1];exact G9),⟨by have:=HA.out.1;rw [HA1];omega,by rw [HA1];omega⟩,H7.out.symm,hl7,by omega⟩,by rw [P9.out.pos,HPO.out];omega⟩
              . go_simp
                refine hK.out _ _ trivial (λ_=>?_);clear hK K
                try simp only [sqP]
                refine oneH 1 rfl (λK hK=>?_)
                go_simp
                refine hK.out _ _ trivial (λ_=>?_);clear hK K
                try simp only [sqP]
                refine oneH 5 rfl (λK hK=>?_);refine Zac OFT.keeps 23 40 3 48 _ (by rfl) _ _ (by rfl) underlying23 ZbR rfl (by decide) (by decide) B w4.heap.size (.slice cp acc.length cc) acc (by rfl) [.string (bs f2.1),.int .i64 f2.2.1,.slice fq f2.2.2.length fc] _ (by rfl) (by rfl) f2 cf G6.out C6.out.1 C6.out.2.1 C6.out.2.2 rfl ZcA (by have:=HAL.out;omega) ?_;intro g9 q9 w9 hg9 hb9;have KA:Bz w6 (w6.alloc (.cells #[.string (bs f2.1),.int .i64 f2.2.1,.slice fq f2.2.2.length fc] 40)):=(sqN _ _);have hb:Below B w6 w9:=(KA.mono SB6.out).trans hb9;have EE8:=hid (E6.out.below hb hkB);have hon:Zv kb w9 (w9.setCell ⟨kb,2,none⟩ (.slice (some ⟨g9,0,none⟩) (acc.length+1) q9)):=Zv.set;have P9:Hid (RdAt (w9.setCell ⟨kb,2,none⟩ (.slice (some ⟨g9,0,none⟩) (acc.length+1) q9)) rb lp cap ts j2):=(P6.out.below hb hrB).only hon hrk;have O9:Hid (Off [rb] w (w9.setCell ⟨kb,2,none⟩ (.slice (some ⟨g9,0,none⟩) (acc.length+1) q9))):=(O6.out.under (by omega) hb).only hon (by omega);have R9:Hid (Blk (w9.setCell ⟨kb,2,none⟩ (.slice (some ⟨g9,0,none⟩) (acc.length+1) q9)) w.heap.size #[.string ⟨#[]⟩,.slice none 0 0,.slice none 0 0] 25):=(R6.out.below hb (by omega)).only hon (by omega);have E9:Hid (Blk (w9.setCell ⟨kb,2,none⟩ (.slice (some ⟨g9,0,none⟩) (acc.length+1) q9)) kb #[.string nm,.slice ep xl ec,.slice (some ⟨g9,0,none⟩) (acc.length+1) q9] 25):=EE8.out.same (j:=2) rfl;have S9:Hid (kb+1<=(w9.setCell ⟨kb,2,none⟩ (.slice (some ⟨g9,0,none⟩) (acc.length+1) q9)).heap.size):=(by show _<=_;rw [hon.size];exact Nat.le_trans S6.out hb.size);have X9:Hid (Zh 59 2 ORX (w9.setCell ⟨kb,2,none⟩ (.slice (some ⟨g9,0,none⟩) (acc.length+1) q9)) X0 X1 (.slice ep xl ec) xs):=(X6.out.keep ORX.keeps hb.size (λa h1 h2=>hb.block a (by omega))).only ORX.keeps hon (.inl (by omega));have G9:Hid (Zh 40 3 OFT (w9.setCell ⟨kb,2,none⟩ (.slice (some ⟨g9,0,none⟩) (acc.length+1) q9)) B (w9.setCell ⟨kb,2,none⟩ (.slice (some ⟨g9,0,none⟩) (acc.length+1) q9)).heap.size (.slice (some ⟨g9,0,none⟩) (acc.length+1) q9) (acc ++ [f2])):=(hg9.only OFT.keeps hon (.inl hkB)).more (sqR _) (Nat.le_of_eq hon.size.symm) (sqR _);have s5:w9.cell? ⟨kb,2,none⟩=some (.slice cp acc.length cc):=EE8.out.cell 2 _ rfl;have t5:=EE8.out.frozen 2;clear hg9 hb9 KA hb hon;refine hK.out _ _ trivial (λ_=>?_);clear hK K
                try simp only [sqP]
                refine oneH 6 rfl (λK hK=>?_)
                go_simp
                refine hK.out _ _ trivial (λ_=>?_);clear hK K
                try simp only [sqP]
                refine oneH 7 rfl (λK hK=>?_)
                go_simp
                refine hK.out _ _ trivial (λ_=>?_);clear hK K s5 t5;refine wpAnyH_done (by kernel_rfl) ?_ _;go_wp2_with fail;have HA1:(acc ++ [f2]).length=acc.length+1:=(by simp);have hj2:j<j2:=hlt7 j2 rfl;exact ⟨⟨k,j2,acc ++ [f2],some ⟨g9,0,none⟩,q9,P9,O9,R9,(by rw [HA1];exact E9),S9,X9,(by rw [HA1];exact G9),⟨by have:=HA.out.1;rw [HA1];omega,by rw [HA1];omega⟩,H7.out.symm,hl7,by omega⟩,by rw [P9.out.pos,HPO.out];omega⟩
         . have hjl':¬ ((j:Nat):Int)<(ts.length:Int):=by omega
           have HRF:Hid (RES=(((nl,xs),acc),(j,false))):=by
            show _=_;rw [HR7.out,<-HQ.out,Zfk k acc j hjl HA.out.2]
           clear HQ HA;go_wp2_with fail
           go_quiet (fail)
           have KQ:Bz wr (wr.drewN nq):=below_drewN (Below.refl _ _) _;have P4:=hid (P3.out.next KQ);have O4:=hid (O3.out.trans (Off.of_below KQ));have R4:=hid (R3.out.next KQ);have E4:=hid (E3.out.next KQ);have S4:=hid (Nat.le_trans S3.out KQ.size);have X4:=hid (X3.out.next ORX.keeps KQ);have G4:Hid (Zh 40 3 OFT (wr.drewN nq) B (wr.drewN nq).heap.size (.slice cp acc.length cc) acc):=(G3.out.next OFT.keeps KQ).more (sqR _) KQ.size (sqR _);clear KQ P3 O3 R3 E3 S3 X3 G3 r0 r1;generalize wr.drewN nq=w4 at *;obtain ⟨a0,a1,a2⟩:=sqB3 E4.out;obtain ⟨c0,c1,c2⟩:=sqB3 R4.out;obtain ⟨d0,d1,d2⟩:=sqF3 R4.out;go_wp2_with fail;clear a0 a1 a2 c0 c1 c2 d0 d1 d2;have hon:=ZbQ (b:=w.heap.size) (w:=w4) (c0:=.string nm) (c1:=.slice ep xl ec) (c2:=.slice cp acc.length cc);have hbk:=Zcq R4.out (.string nm) (.slice ep xl ec) (.slice cp acc.length cc);refine bodyPost_ret (v:=.agg #[.string nm,.slice ep xl ec,.slice cp acc.length cc]) (results_cell_row (by rfl) _ _ w.heap.size 25 _ (0,0) _ (by rfl) hbk underlying25 rfl (by kernel_rfl)) rfl ?_;rw [HRF.out];have X5:=X4.out.only ORX.keeps hon (.inl (by omega));have G5:=G4.out.only OFT.keeps hon (.inl (by omega));obtain ⟨f1,r1,n1,g1,-,-⟩:=Zh.done X5;obtain ⟨f2,r2,n2,g2,-,-⟩:=Zh.done G5;have hsz:=hon.size
           exact ⟨O4.out.only hon (sqR _),λ_=>⟨_,rfl,P4.out.only hon hwb,ep,ec,cp,cc,f1,f2,by rw [HNM.out.1,HXL.out],by rw [<-HNM.out.1];exact HNM.out.2,by rw [<-HXL.out];exact r1,r2,List.nodup_append.2 ⟨n1,n2,λa ha b hb=>by have:=g1 a ha;have:=g2 b hb;omega⟩,λa ha=>by
            have hS:=S4.out;have hX4:=G4.out.le
            rcases List.mem_append.1 ha with h | h
            . have:=g1 a h;omega
            . have:=g2 a h;omega⟩,λe=>(by cases e)⟩
end
end Go.Proofs.YtacioihbhkcdcaaGreatDoor
