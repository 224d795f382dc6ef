/-
  FunMath PImplW
-/
import Derived.Test.YtacioihbhkcdcaaGreatDoorP40
import Derived.Test.YtacioihbhkcdcaaGreatDoorP20
set_option maxHeartbeats 16000000
set_option linter.unusedVariables false
set_option maxRecDepth 100000
namespace Go.Proofs.YtacioihbhkcdcaaGreatDoor
open Go.ChangeShapes Go.WideShapes Go.ChangeAt Go.RowKit
section
def FnK (w:World) (f:Fr) (v:Value) (w':World):Prop:=∃ p c,v=.agg #[.string (bs f.1),.int .i64 f.2.1,.slice p f.2.2.length c]/\okS (bs f.1)/\okI f.2.1/\Zh 64 2 OCT w' w.heap.size w'.heap.size (.slice p f.2.2.length c) f.2.2
def PIf (ts:List Tok) (F:FuncId) (n:Nat) (C:St->Fr × St):Prop :=
 ∀ (w:World) (rb:Nat) (lp:Option Addr) (cap i:Nat),RdAt w rb lp cap ts i->i<=ts.length->ts.length - i<n ->
  Calls Tryz.prog F #[.pointer (some ⟨rb,0,none⟩)] w (Rd ts rb lp cap w (C (i,false)).2 (FnK w (C (i,false)).1))
section
variable (ts:List Tok) (E:St->Ex × St)
theorem ZfD (j:Nat) (hG:ZV ts E) (fin:List UInt8):(pSome ts E (j,true) fin).2=(j,true):=(Zax hG (j,true) fin).bad rfl
theorem Zb5 (j:Nat) (hG:ZV ts E):(pBody ts E (j,true)).2=(j,true):=(Zaa hG (j,true)).bad rfl
theorem ZeA (k:Nat) (f:Fr) (j:Nat):Zab ts E (k+1) f (j,false)=if isS ts (pFunOne ts E f (j,false)).2 [59] then Zab ts E k (pFunOne ts E f (j,false)).1 (adv (pFunOne ts E f (j,false)).2) else pFunOne ts E f (j,false):=rfl
theorem Ze4 (i:Nat):pFunOne ts E ([],0,[]) (i,false) =
 (((atomP ts (i,false)).1,((pSome ts E (takeS ts (atomP ts (i,false)).2 [40]) [41]).1.length:Int),[((pSome ts E (takeS ts (atomP ts (i,false)).2 [40]) [41]).1,(pBody ts E (takeS ts (pSome ts E (takeS ts (atomP ts (i,false)).2 [40]) [41]).2 [45,62])).1)]),(pBody ts E (takeS ts (pSome ts E (takeS ts (atomP ts (i,false)).2 [40]) [41]).2 [45,62])).2):=rfl
theorem ZfE (f:Fr) (i:Nat) (hne:f.2.2≠[]) (hn:((pSome ts E (takeS ts (theP ts (i,false) f.1) [40]) [41]).1.length:Int)=f.2.1):pFunOne ts E f (i,false) =
 ((f.1,f.2.1,f.2.2 ++ [((pSome ts E (takeS ts (theP ts (i,false) f.1) [40]) [41]).1,(pBody ts E (takeS ts (pSome ts E (takeS ts (theP ts (i,false) f.1) [40]) [41]).2 [45,62])).1)]),(pBody ts E (takeS ts (pSome ts E (takeS ts (theP ts (i,false) f.1) [40]) [41]).2 [45,62])).2):=by
 have h0:¬ f.2.2.length=0:=λh=>hne (List.length_eq_zero_iff.1 h);unfold pFunOne Zaq Za3 Zai ZaH;simp only [h0,if_false,hn];simp
theorem ZfF (hG:ZV ts E) (f:Fr) (i:Nat) (hne:f.2.2≠[]) (hn:((pSome ts E (takeS ts (theP ts (i,false) f.1) [40]) [41]).1.length:Int)≠f.2.1) :
 (pFunOne ts E f (i,false)).2=worse (pSome ts E (takeS ts (theP ts (i,false) f.1) [40]) [41]).2:=by
 have h0:¬ f.2.2.length=0:=λh=>hne (List.length_eq_zero_iff.1 h);unfold pFunOne Zaq Za3 Zai ZaH;simp only [h0,if_false];rw [if_pos ⟨h0,hn⟩];obtain ⟨j,b⟩:=(pSome ts E (takeS ts (theP ts (i,false) f.1) [40]) [41]).2;show (pBody ts E (takeS ts (j,true) [45,62])).2=(j,true);rw [ZK];exact Zb5 ts E j hG
theorem Zgi (hG:ZV ts E) (f:Fr) (i j:Nat) (hne:f.2.2≠[]) (hb:(pSome ts E (takeS ts (theP ts (i,false) f.1) [40]) [41]).2=(j,true)):(pFunOne ts E f (i,false)).2=(j,true):=by
 have h0:¬ f.2.2.length=0:=λh=>hne (List.length_eq_zero_iff.1 h);unfold pFunOne Zaq Za3 Zai ZaH;simp only [h0,if_false];rw [hb]
 split
 . show (pBody ts E (takeS ts (j,true) [45,62])).2=(j,true)
   rw [ZK];exact Zb5 ts E j hG
 . rw [ZK]
   exact Zb5 ts E j hG
theorem ZkA (st:St):pFun ts E st=((Zab ts E (ts.length+1) ([],0,[]) st).1,takeS ts (Zab ts E (ts.length+1) ([],0,[]) st).2 [46]):=rfl
end
end
theorem Zi9 {n:Nat} (h:n≤9223372036854775807):okI (n:Int):=by
 show (Lit.int .i64 n).wf=true;simp only [Lit.wf,Bool.and_eq_true,decide_eq_true_eq];exact ⟨Int.le_trans (by decide) (Int.natCast_nonneg n),Int.le_trans (Int.ofNat_le.2 h) (by decide)⟩
theorem Zb6 (w:World):w.drew.heap.size=w.heap.size:=rfl
theorem ZcL {pb:Nat} {w w':World} {v:Value} {xs:List Ex} {fp:List Nat} (h:Zy w 108 6 (OXT w) v xs fp) (ho:Off [pb] w w') (hb:∀ a ∈ fp,a≠pb):Zy w' 108 6 (OXT w') v xs fp :=
 have hl:=h.lt (fun cs x f h=>h.lt)
 h.keep (fun a ha=>ho.block a (hl a ha) (by simpa using hb a ha)) (fun cs x f _ hs h=>OXT.keeps _ _ _ _ _ h (fun a ha=>ho.block a (hl a (hs a ha)) (by simpa using hb a (hs a ha))))
theorem Zgk {ts:List Tok} (hT:TsOk ts) {n:Nat} {E:St→Ex × St} (hG:ZV ts E) (hK:PIs ts 75 n (fun st=>pSome ts E (takeS ts st [40]) [41])) (hB:PIs ts 76 n (fun st=>pBody ts E (takeS ts st [45,62]))):PIf ts 44 n (pFun ts E):=by
 intro w rb lp cap i hp hi hn;have hlen:=hT.len;have hwb:=hp.lt;have hne:w.heap.size≠rb:=(by omega);have HG:Hid (ZV ts E):=hG;have HK:Hid (PIs ts 75 n (fun st=>pSome ts E (takeS ts st [40]) [41])):=hK;have HB:Hid (PIs ts 76 n (fun st=>pBody ts E (takeS ts st [45,62]))):=hB;have KA:Below w.heap.size w (w.alloc (.cells #[.string ⟨#[]⟩,.int .i64 0,.slice none 0 0] 40)):=(sqN _ _);have P0:Hid (RdAt (w.alloc (.cells #[.string ⟨#[]⟩,.int .i64 0,.slice none 0 0] 40)) rb lp cap ts i):=hp.next KA;have O0:Hid (Off [rb] w (w.alloc (.cells #[.string ⟨#[]⟩,.int .i64 0,.slice none 0 0] 40))):=Off.of_below KA;have R0:Hid (Blk (w.alloc (.cells #[.string ⟨#[]⟩,.int .i64 0,.slice none 0 0] 40)) w.heap.size #[.string ⟨#[]⟩,.int .i64 0,.slice none 0 0] 40):=Blk.new;have S0:Hid (w.heap.size<(w.alloc (.cells #[.string ⟨#[]⟩,.int .i64 0,.slice none 0 0] 40)).heap.size):=(by show _<_;rw [Zg];omega);have NM:Hid (∀ w1,RdAt w1 rb lp cap ts i→Calls Tryz.prog 41 #[.pointer (some ⟨rb,0,none⟩)] w1 (Rd ts rb lp cap w1 (atomP ts (i,false)).2 fun v _=>v=.string (bs (atomP ts (i,false)).1))):=fun w1 h1=>Zb3 w1 rb lp cap ts i h1 hi hlen;have hle1:(atomP ts (i,false)).2.1≤ts.length:=(Z9 ts (i,false)).le hi;have hge1:i≤(atomP ts (i,false)).2.1:=(Z9 ts (i,false)).ge;have hal:=ZaK hT (i,false);obtain ⟨RES,hRES⟩:∃ RES,RES=pFun ts E (i,false):=⟨_,rfl⟩;rw [← hRES];have hF1:=Ze4 ts E i;have hGO:=ZeA ts E ts.length ([],0,[]) i;have HR:Hid (RES=((Zab ts E (ts.length+1) ([],0,[]) (i,false)).1,takeS ts (Zab ts E (ts.length+1) ([],0,[]) (i,false)).2 [46])):=hRES;obtain ⟨RC,hRC⟩:∃ RC,RC=Zab ts E (ts.length+1) ([],0,[]) (i,false):=⟨_,rfl⟩;rw [← hRC] at HR hGO;have HGO:Hid (RC=if isS ts (pFunOne ts E ([],0,[]) (i,false)).2 [59] then Zab ts E ts.length (pFunOne ts E ([],0,[]) (i,false)).1 (adv (pFunOne ts E ([],0,[]) (i,false)).2) else pFunOne ts E ([],0,[]) (i,false)):=hGO;have HF1:Hid _:=hF1;generalize pFunOne ts E ([],0,[]) (i,false)=F1 at *;have HF1:Hid (F1=(((atomP ts (i,false)).1,((pSome ts E (takeS ts (atomP ts (i,false)).2 [40]) [41]).1.length:Int),[((pSome ts E (takeS ts (atomP ts (i,false)).2 [40]) [41]).1,(pBody ts E (takeS ts (pSome ts E (takeS ts (atomP ts (i,false)).2 [40]) [41]).2 [45,62])).1)]),(pBody ts E (takeS ts (pSome ts E (takeS ts (atomP ts (i,false)).2 [40]) [41]).2 [45,62])).2)):=hF1;clear hRES hRC hGO hF1 hG hK hB hp KA;generalize atomP ts (i,false)=A at *;obtain ⟨nl,j1,b1⟩:=A;simp only at hle1 hge1 hal
 have HBAD:Hid (∀ j,F1.2=(j,true)→RES.2=(j,true)):=fun j h=>by
  rw [HR.out,HGO.out,h,ZaA,if_neg (by simp)];show takeS ts F1.2 [46]=_;rw [h,ZK]
 go_enter Tryz.func44,Tryz.ntmps44;go_wp2_with fail;refine (NM.out _ P0.out).mono ?_;rintro e w1 hr
 cases b1 with
 | true =>
  obtain rfl:=hr.bad rfl;refine ⟨rfl,?_⟩;exact hr.fail O0.out rfl (HBAD.out j1 (by rw [HF1.out];simp only [ZK,ZfD ts E j1 HG.out,Zb5 ts E j1 HG.out]))
 | false =>
  obtain ⟨v,rfl,hp1,rfl⟩:=hr.ok rfl;have P1:Hid (RdAt w1 rb lp cap ts j1):=hp1;have O1:Hid (Off [rb] w w1):=O0.out.trans hr.off;have R1:Hid (Blk w1 w.heap.size #[.string ⟨#[]⟩,.int .i64 0,.slice none 0 0] 40):=R0.out.off hr.off hne;have S1:Hid (w.heap.size<w1.heap.size):=Nat.lt_of_lt_of_le S0.out hr.off.size;have CK:Hid (∀ w1,RdAt w1 rb lp cap ts j1→Calls Tryz.prog 75 #[.pointer (some ⟨rb,0,none⟩)] w1 (Rd ts rb lp cap w1 (pSome ts E (takeS ts (j1,false) [40]) [41]).2 (RoK w1 (pSome ts E (takeS ts (j1,false) [40]) [41]).1))):=fun w1 h1=>HK.out w1 rb lp cap j1 h1 hle1 (by omega);have g2:=((Zj ts (j1,false) [40]).trans (Zax HG.out (takeS ts (j1,false) [40]) [41]));have hge2:j1≤(pSome ts E (takeS ts (j1,false) [40]) [41]).2.1:=g2.ge;have hle2:(pSome ts E (takeS ts (j1,false) [40]) [41]).2.1≤ts.length:=g2.le hle1;generalize pSome ts E (takeS ts (j1,false) [40]) [41]=PS at *;obtain ⟨pl,j2,b2⟩:=PS;simp only at hge2 hle2;obtain ⟨nm,hnm⟩:∃ nm,nm=bs nl:=⟨_,rfl⟩;rw [← hnm];have HNM:Hid (nm=bs nl∧okS nm):=⟨hnm,by rw [hnm];exact Zah hal⟩;clear hr hp1 P0 O0 R0 S0 NM hal hnm g2;go_wp2_with fail;refine (CK.out _ P1.out).mono ?_;rintro e w2 hr
  cases b2 with
  | true =>
   obtain rfl:=hr.bad rfl;refine ⟨rfl,?_⟩;exact hr.fail O1.out rfl (HBAD.out j2 (by rw [HF1.out];simp only [ZK,Zb5 ts E j2 HG.out]))
  | false =>
   obtain ⟨v,rfl,hp2,hk2⟩:=hr.ok rfl;obtain ⟨pp,pc,rfl,hpc,hpm⟩:=hk2.shape;obtain ⟨f1,r1,nd1,rg1,-,-⟩:=Zh.done hk2;have ho2:=hr.off;have hs2:=ho2.size;have KE:Below w2.heap.size w2 (w2.alloc (.cells #[.string nm,.int .i64 (pl.length:Int),.slice none 0 0] 40)):=(sqN _ _);have PE:Hid (RdAt (w2.alloc (.cells #[.string nm,.int .i64 (pl.length:Int),.slice none 0 0] 40)) rb lp cap ts j2):=hp2.next KE;have OE:Hid (Off [rb] w (w2.alloc (.cells #[.string nm,.int .i64 (pl.length:Int),.slice none 0 0] 40))):=(O1.out.trans ho2).trans (Off.of_below KE);have RE:Hid (Blk (w2.alloc (.cells #[.string nm,.int .i64 (pl.length:Int),.slice none 0 0] 40)) w.heap.size #[.string ⟨#[]⟩,.int .i64 0,.slice none 0 0] 40):=(R1.out.off ho2 hne).next KE;have EE:Hid (Blk (w2.alloc (.cells #[.string nm,.int .i64 (pl.length:Int),.slice none 0 0] 40)) w2.heap.size #[.string nm,.int .i64 (pl.length:Int),.slice none 0 0] 40):=Blk.new;have TE:Hid (Zy (w2.alloc (.cells #[.string nm,.int .i64 (pl.length:Int),.slice none 0 0] 40)) 108 6 (OXT (w2.alloc (.cells #[.string nm,.int .i64 (pl.length:Int),.slice none 0 0] 40))) (.slice pp pl.length pc) pl f1∧f1.Nodup∧∀ a ∈ f1,w1.heap.size≤a∧a<(w2.alloc (.cells #[.string nm,.int .i64 (pl.length:Int),.slice none 0 0] 40)).heap.size):=⟨ZcL (pb:=rb) r1 (Off.of_below KE) (fun a ha=>by have:=rg1 a ha;have:=P1.out.lt;omega),nd1,fun a ha=>by have:=rg1 a ha;simp only [Zg];omega⟩;have CB:Hid (∀ w1,RdAt w1 rb lp cap ts j2→Calls Tryz.prog 76 #[.pointer (some ⟨rb,0,none⟩)] w1 (Rd ts rb lp cap w1 (pBody ts E (takeS ts (j2,false) [45,62])).2 (RoK w1 (pBody ts E (takeS ts (j2,false) [45,62])).1))):=fun w1 h1=>HB.out w1 rb lp cap j2 h1 hle2 (by omega);have g3:=((Zj ts (j2,false) [45,62]).trans (Zaa HG.out (takeS ts (j2,false) [45,62])));have hge3:j2≤(pBody ts E (takeS ts (j2,false) [45,62])).2.1:=g3.ge;have hle3:(pBody ts E (takeS ts (j2,false) [45,62])).2.1≤ts.length:=g3.le hle2;generalize pBody ts E (takeS ts (j2,false) [45,62])=BDY at *;obtain ⟨bl,j3,b3⟩:=BDY;simp only at hge3 hle3;have hsE:(w2.alloc (.cells #[.string nm,.int .i64 (pl.length:Int),.slice none 0 0] 40)).heap.size=w2.heap.size+1:=(by simp only [Zg]);have hr1:=P1.out.lt;have hSs:=S1.out;have HF2:Hid (F1=((nl,(pl.length:Int),[(pl,bl)]),(j3,b3))):=HF1.out;have hpl:pl.length≤9223372036854775807:=(by unfold maxLen at hpm;omega);clear hr hp2 hk2 r1 nd1 rg1 KE ho2 P1 O1 R1 S1 CK HF1 g3;go_wp2_with fail;generalize hWE:(w2.alloc (.cells #[.string nm,.int .i64 (pl.length:Int),.slice none 0 0] 40))=wE at *;generalize hkb:w2.heap.size=kb at *;generalize hC0:w1.heap.size=C0 at *;obtain ⟨B,hB⟩:∃ B,B=C0:=⟨_,rfl⟩;obtain ⟨ar,har⟩:∃ ar:Int,ar=pl.length:=⟨_,rfl⟩;obtain ⟨acc,hacc⟩:∃ acc:List Cl,acc = []:=⟨_,rfl⟩;obtain ⟨cp,hcp⟩:∃ cp:Option Addr,cp=none:=⟨_,rfl⟩;obtain ⟨cc,hcc⟩:∃ cc:Nat,cc=0:=⟨_,rfl⟩;have hcv:(Value.slice none 0 0)=.slice cp acc.length cc:=(by rw [hacc,hcp,hcc];rfl);have HAL:Hid (acc.length≤100000000):=(by rw [hacc];show 0≤_;omega);have GE:Hid (Zh 64 2 OCT wE B C0 (.slice none 0 0) acc):=(by rw [hacc];exact Zh.none (by omega) (by omega));rw [hcv] at GE;have EE2:Hid (Blk wE kb #[.string nm,.int .i64 ar,.slice cp acc.length cc] 40):=(by show Blk _ _ _ _;rw [har,← hcv];exact EE.out);have hrB:rb<B:=(by omega);have hner:kb≠rb:=(by omega);have HACC:Hid (acc = []):=hacc;have HAR:Hid (ar=pl.length∧okI ar):=⟨har,by rw [har];exact Zi9 hpl⟩;clear EE hcv hacc hcp hcc har hWE
   go_cut [] from 14 to 22 (fun wc=>∃ (g9 q9:Nat),b3=false∧Hid (RdAt wc rb lp cap ts j3)∧Hid (Off [rb] w wc)∧Hid (Blk wc w.heap.size #[.string ⟨#[]⟩,.int .i64 0,.slice none 0 0] 40)∧Hid (Blk wc kb #[.string nm,.int .i64 ar,(.slice (some ⟨g9,0,none⟩) (acc.length+1) q9)] 40)∧Hid (Zh 64 2 OCT wc B wc.heap.size (.slice (some ⟨g9,0,none⟩) (acc.length+1) q9) (acc ++ [(pl,bl)])))
   case first =>
    have l5:wE.cell? ⟨kb,2,none⟩=some (.slice cp acc.length cc):=EE2.out.cell 2 _ rfl;refine wp_region_held_drew (S:=fun _=>True) (by kernel_rfl) trivial (fun hHeld=>?_);refine tkP 0 (v:=.pointer (some ⟨kb,2,none⟩)) rfl (by rfl) (fun w' hS=>by go_simp) hHeld ?_
    try simp only [sqP]
    refine tkP 2 (v:=.slice pp pl.length pc) rfl (by rfl) (fun w' hS=>by go_simp) hHeld ?_
    try simp only [sqP]
    refine tkP 3 (v:=.pointer (some ⟨rb,0,none⟩)) rfl (by rfl) (fun w' hS=>by go_simp) hHeld ?_
    try simp only [sqP]
    refine twoH 1 4 rfl rfl (fun K hK=>?_) (fun K hK=>?_)
    · go_simp
      refine hK.out _ _ trivial (fun _=>?_);clear hK K
      try simp only [sqP]
      refine oneH 4 rfl (fun K hK=>?_)
      go_simp
      go_at_call 76
      refine (CB.out _ PE.out.dr).mono ?_;rintro e w6 hr
      cases b3 with
      | true =>
       obtain rfl:=hr.bad rfl;refine ⟨rfl,?_⟩;exact hr.fail OE.out.drO rfl (HBAD.out j3 (by rw [HF2.out]))
      | false =>
       obtain ⟨v,rfl,hp6,hk6⟩:=hr.ok rfl;obtain ⟨bp,bc,rfl,-,-⟩:=hk6.shape;obtain ⟨f2,r2,nd2,rg2,-,-⟩:=Zh.done hk6;have ho6:Off [rb] wE w6:=Off.drI hr.off;have hs6:=ho6.size;have P6:Hid (RdAt w6 rb lp cap ts j3):=hp6;have O6:Hid (Off [rb] w w6):=OE.out.trans ho6;have R6:Hid (Blk w6 w.heap.size #[.string ⟨#[]⟩,.int .i64 0,.slice none 0 0] 40):=RE.out.off ho6 hne;have E6:Hid (Blk w6 kb #[.string nm,.int .i64 ar,.slice cp acc.length cc] 40):=EE2.out.off ho6 hner;have G6:Hid (Zh 64 2 OCT w6 B C0 (.slice cp acc.length cc) acc):=GE.out.off OCT.keeps ho6 hrB
       have C6:Hid (OCT w6 [.slice pp pl.length pc,.slice bp bl.length bc] (pl,bl) (f1 ++ f2)∧(f1 ++ f2).Nodup∧∀ a ∈ f1 ++ f2,C0≤a∧a<w6.heap.size):=⟨OCT.mk (ZcL TE.out.1 ho6 (fun a ha=>by have:=TE.out.2.2 a ha;omega)) r2,List.nodup_append.2 ⟨TE.out.2.1,nd2,fun a ha b hb=>by have:=TE.out.2.2 a ha;have:=rg2 b hb;simp only [Zb6] at this;omega⟩,fun a ha=>by
        rcases List.mem_append.1 ha with h | h
        · have:=TE.out.2.2 a h;omega
        · have:=rg2 a h;simp only [Zb6] at this;omega⟩
       have KA:Below w6.heap.size w6 (w6.alloc (.cells #[.slice pp pl.length pc,.slice bp bl.length bc] 64)):=(sqN _ _);have S6:Hid (B≤w6.heap.size):=(by show _≤_;omega);have E6a:Hid (Blk (w6.alloc (.cells #[.slice pp pl.length pc,.slice bp bl.length bc] 64)) kb #[.string nm,.int .i64 ar,.slice cp acc.length cc] 40):=E6.out.next KA;have e5:w6.cell? ⟨kb,2,none⟩=some (.slice cp acc.length cc):=E6.out.cell 2 _ rfl;have f5:(w6.alloc (.cells #[.slice pp pl.length pc,.slice bp bl.length bc] 64)).cell? ⟨kb,2,none⟩=some (.slice cp acc.length cc):=E6a.out.cell 2 _ rfl;clear hr hp6 hk6 r2 nd2 rg2 ho6 KA;refine hK.out _ _ trivial (fun _=>?_);clear hK K
       try simp only [sqP]
       refine oneH 5 rfl (fun K hK=>?_)
       go_simp
       refine hK.out _ _ trivial (fun _=>?_);clear hK K
       try simp only [sqP]
       refine oneH 6 rfl (fun K hK=>?_)
       go_simp
       refine hK.out _ _ trivial (fun _=>?_);clear hK K
       try simp only [sqP]
       refine oneH 7 rfl (fun K hK=>?_);refine ZaR OCT.keeps 38 64 2 48 _ (by rfl) _ _ (by rfl) Tryz.underlying38 Zat rfl (by decide) (by decide) B C0 (.slice cp acc.length cc) acc (by rfl) [.slice pp pl.length pc,.slice bp bl.length bc] _ (by rfl) (by rfl) (pl,bl) (f1 ++ f2) G6.out C6.out.1 C6.out.2.1 C6.out.2.2 rfl ZaX (by have:=HAL.out;omega) ?_;intro g9 q9 w9 hg9 hb9 ht9;have KA:Below w6.heap.size w6 (w6.alloc (.cells #[.slice pp pl.length pc,.slice bp bl.length bc] 64)):=(sqN _ _);have hb:Below B w6 w9:=(KA.mono S6.out).trans hb9;have hkl:=E6.out.lt;have E8:Hid (Blk w9 kb #[.string nm,.int .i64 ar,.slice cp acc.length cc] 40):=(ht9 kb (by omega) (G6.out.boxNe E6.out (by decide))).trans E6a.out;have hon:Zv kb w9 (w9.setCell ⟨kb,2,none⟩ (.slice (some ⟨g9,0,none⟩) (acc.length+1) q9)):=Zv.set;have P9:Hid (RdAt (w9.setCell ⟨kb,2,none⟩ (.slice (some ⟨g9,0,none⟩) (acc.length+1) q9)) rb lp cap ts j3):=(P6.out.below hb hrB).only hon (by omega);have O9:Hid (Off [rb] w (w9.setCell ⟨kb,2,none⟩ (.slice (some ⟨g9,0,none⟩) (acc.length+1) q9))):=(O6.out.under (by omega) hb).only hon (by omega);have R9:Hid (Blk (w9.setCell ⟨kb,2,none⟩ (.slice (some ⟨g9,0,none⟩) (acc.length+1) q9)) w.heap.size #[.string ⟨#[]⟩,.int .i64 0,.slice none 0 0] 40):=(R6.out.below hb (by omega)).only hon (by omega);have E9:Hid (Blk (w9.setCell ⟨kb,2,none⟩ (.slice (some ⟨g9,0,none⟩) (acc.length+1) q9)) kb #[.string nm,.int .i64 ar,(.slice (some ⟨g9,0,none⟩) (acc.length+1) q9)] 40):=E8.out.same (j:=2) rfl;have G9:Hid (Zh 64 2 OCT (w9.setCell ⟨kb,2,none⟩ (.slice (some ⟨g9,0,none⟩) (acc.length+1) q9)) B (w9.setCell ⟨kb,2,none⟩ (.slice (some ⟨g9,0,none⟩) (acc.length+1) q9)).heap.size (.slice (some ⟨g9,0,none⟩) (acc.length+1) q9) (acc ++ [(pl,bl)])):=(hg9.onlyT E8.out (by decide) hon).more (sqR _) (Nat.le_of_eq hon.size.symm) (sqR _);have s5:w9.cell? ⟨kb,2,none⟩=some (.slice cp acc.length cc):=E8.out.cell 2 _ rfl;have t5:=E8.out.frozen 2;clear hg9 hb9 ht9 KA hb hon;refine hK.out _ _ trivial (fun _=>?_);clear hK K
       try simp only [sqP]
       refine oneH 8 rfl (fun K hK=>?_)
       go_simp
       refine hK.out _ _ trivial (fun _=>?_);clear hK K
       try simp only [sqP]
       refine oneH 9 rfl (fun K hK=>?_)
       go_simp
       refine hK.out _ _ trivial (fun _=>?_);clear hK K s5 t5;refine wpAnyH_done (by kernel_rfl) ?_ _;go_wp2_with fail
       go_meet
       case rel=>exact ⟨g9,q9,(by first | trivial | rfl),P9,O9,R9,E9,G9⟩
    · go_simp
      go_at_call 76
      refine (CB.out _ PE.out.dr).mono ?_;rintro e w6 hr
      cases b3 with
      | true =>
       obtain rfl:=hr.bad rfl;refine ⟨rfl,?_⟩;exact hr.fail OE.out.drO rfl (HBAD.out j3 (by rw [HF2.out]))
      | false =>
       obtain ⟨v,rfl,hp6,hk6⟩:=hr.ok rfl;obtain ⟨bp,bc,rfl,-,-⟩:=hk6.shape;obtain ⟨f2,r2,nd2,rg2,-,-⟩:=Zh.done hk6;have ho6:Off [rb] wE w6:=Off.drI hr.off;have hs6:=ho6.size;have P6:Hid (RdAt w6 rb lp cap ts j3):=hp6;have O6:Hid (Off [rb] w w6):=OE.out.trans ho6;have R6:Hid (Blk w6 w.heap.size #[.string ⟨#[]⟩,.int .i64 0,.slice none 0 0] 40):=RE.out.off ho6 hne;have E6:Hid (Blk w6 kb #[.string nm,.int .i64 ar,.slice cp acc.length cc] 40):=EE2.out.off ho6 hner;have G6:Hid (Zh 64 2 OCT w6 B C0 (.slice cp acc.length cc) acc):=GE.out.off OCT.keeps ho6 hrB
       have C6:Hid (OCT w6 [.slice pp pl.length pc,.slice bp bl.length bc] (pl,bl) (f1 ++ f2)∧(f1 ++ f2).Nodup∧∀ a ∈ f1 ++ f2,C0≤a∧a<w6.heap.size):=⟨OCT.mk (ZcL TE.out.1 ho6 (fun a ha=>by have:=TE.out.2.2 a ha;omega)) r2,List.nodup_append.2 ⟨TE.out.2.1,nd2,fun a ha b hb=>by have:=TE.out.2.2 a ha;have:=rg2 b hb;simp only [Zb6] at this;omega⟩,fun a ha=>by
        rcases List.mem_append.1 ha with h | h
        · have:=TE.out.2.2 a h;omega
        · have:=rg2 a h;simp only [Zb6] at this;omega⟩
       have KA:Below w6.heap.size w6 (w6.alloc (.cells #[.slice pp pl.length pc,.slice bp bl.length bc] 64)):=(sqN _ _);have S6:Hid (B≤w6.heap.size):=(by show _≤_;omega);have E6a:Hid (Blk (w6.alloc (.cells #[.slice pp pl.length pc,.slice bp bl.length bc] 64)) kb #[.string nm,.int .i64 ar,.slice cp acc.length cc] 40):=E6.out.next KA;have e5:w6.cell? ⟨kb,2,none⟩=some (.slice cp acc.length cc):=E6.out.cell 2 _ rfl;have f5:(w6.alloc (.cells #[.slice pp pl.length pc,.slice bp bl.length bc] 64)).cell? ⟨kb,2,none⟩=some (.slice cp acc.length cc):=E6a.out.cell 2 _ rfl;clear hr hp6 hk6 r2 nd2 rg2 ho6 KA;refine hK.out _ _ trivial (fun _=>?_);clear hK K
       try simp only [sqP]
       refine twoH 1 5 rfl rfl (fun K hK=>?_) (fun K hK=>?_)
       · go_simp
         refine hK.out _ _ trivial (fun _=>?_);clear hK K
         try simp only [sqP]
         refine oneH 5 rfl (fun K hK=>?_)
         go_simp
         refine hK.out _ _ trivial (fun _=>?_);clear hK K
         try simp only [sqP]
         refine oneH 6 rfl (fun K hK=>?_)
         go_simp
         refine hK.out _ _ trivial (fun _=>?_);clear hK K
         try simp only [sqP]
         refine oneH 7 rfl (fun K hK=>?_);refine ZaR OCT.keeps 38 64 2 48 _ (by rfl) _ _ (by rfl) Tryz.underlying38 Zat rfl (by decide) (by decide) B C0 (.slice cp acc.length cc) acc (by rfl) [.slice pp pl.length pc,.slice bp bl.length bc] _ (by rfl) (by rfl) (pl,bl) (f1 ++ f2) G6.out C6.out.1 C6.out.2.1 C6.out.2.2 rfl ZaX (by have:=HAL.out;omega) ?_;intro g9 q9 w9 hg9 hb9 ht9;have KA:Below w6.heap.size w6 (w6.alloc (.cells #[.slice pp pl.length pc,.slice bp bl.length bc] 64)):=(sqN _ _);have hb:Below B w6 w9:=(KA.mono S6.out).trans hb9;have hkl:=E6.out.lt;have E8:Hid (Blk w9 kb #[.string nm,.int .i64 ar,.slice cp acc.length cc] 40):=(ht9 kb (by omega) (G6.out.boxNe E6.out (by decide))).trans E6a.out;have hon:Zv kb w9 (w9.setCell ⟨kb,2,none⟩ (.slice (some ⟨g9,0,none⟩) (acc.length+1) q9)):=Zv.set;have P9:Hid (RdAt (w9.setCell ⟨kb,2,none⟩ (.slice (some ⟨g9,0,none⟩) (acc.length+1) q9)) rb lp cap ts j3):=(P6.out.below hb hrB).only hon (by omega);have O9:Hid (Off [rb] w (w9.setCell ⟨kb,2,none⟩ (.slice (some ⟨g9,0,none⟩) (acc.length+1) q9))):=(O6.out.under (by omega) hb).only hon (by omega);have R9:Hid (Blk (w9.setCell ⟨kb,2,none⟩ (.slice (some ⟨g9,0,none⟩) (acc.length+1) q9)) w.heap.size #[.string ⟨#[]⟩,.int .i64 0,.slice none 0 0] 40):=(R6.out.below hb (by omega)).only hon (by omega);have E9:Hid (Blk (w9.setCell ⟨kb,2,none⟩ (.slice (some ⟨g9,0,none⟩) (acc.length+1) q9)) kb #[.string nm,.int .i64 ar,(.slice (some ⟨g9,0,none⟩) (acc.length+1) q9)] 40):=E8.out.same (j:=2) rfl;have G9:Hid (Zh 64 2 OCT (w9.setCell ⟨kb,2,none⟩ (.slice (some ⟨g9,0,none⟩) (acc.length+1) q9)) B (w9.setCell ⟨kb,2,none⟩ (.slice (some ⟨g9,0,none⟩) (acc.length+1) q9)).heap.size (.slice (some ⟨g9,0,none⟩) (acc.length+1) q9) (acc ++ [(pl,bl)])):=(hg9.onlyT E8.out (by decide) hon).more (sqR _) (Nat.le_of_eq hon.size.symm) (sqR _);have s5:w9.cell? ⟨kb,2,none⟩=some (.slice cp acc.length cc):=E8.out.cell 2 _ rfl;have t5:=E8.out.frozen 2;clear hg9 hb9 ht9 KA hb hon;refine hK.out _ _ trivial (fun _=>?_);clear hK K
         try simp only [sqP]
         refine oneH 8 rfl (fun K hK=>?_)
         go_simp
         refine hK.out _ _ trivial (fun _=>?_);clear hK K
         try simp only [sqP]
         refine oneH 9 rfl (fun K hK=>?_)
         go_simp
         refine hK.out _ _ trivial (fun _=>?_);clear hK K s5 t5;refine wpAnyH_done (by kernel_rfl) ?_ _;go_wp2_with fail
         go_meet
         case rel=>exact ⟨g9,q9,(by first | trivial | rfl),P9,O9,R9,E9,G9⟩
       · go_simp
         refine hK.out _ _ trivial (fun _=>?_);clear hK K
         try simp only [sqP]
         refine twoH 1 6 rfl rfl (fun K hK=>?_) (fun K hK=>?_)
         · go_simp
           refine hK.out _ _ trivial (fun _=>?_);clear hK K
           try simp only [sqP]
           refine oneH 6 rfl (fun K hK=>?_)
           go_simp
           refine hK.out _ _ trivial (fun _=>?_);clear hK K
           try simp only [sqP]
           refine oneH 7 rfl (fun K hK=>?_);refine ZaR OCT.keeps 38 64 2 48 _ (by rfl) _ _ (by rfl) Tryz.underlying38 Zat rfl (by decide) (by decide) B C0 (.slice cp acc.length cc) acc (by rfl) [.slice pp pl.length pc,.slice bp bl.length bc] _ (by rfl) (by rfl) (pl,bl) (f1 ++ f2) G6.out C6.out.1 C6.out.2.1 C6.out.2.2 rfl ZaX (by have:=HAL.out;omega) ?_;intro g9 q9 w9 hg9 hb9 ht9;have KA:Below w6.heap.size w6 (w6.alloc (.cells #[.slice pp pl.length pc,.slice bp bl.length bc] 64)):=(sqN _ _);have hb:Below B w6 w9:=(KA.mono S6.out).trans hb9;have hkl:=E6.out.lt;have E8:Hid (Blk w9 kb #[.string nm,.int .i64 ar,.slice cp acc.length cc] 40):=(ht9 kb (by omega) (G6.out.boxNe E6.out (by decide))).trans E6a.out;have hon:Zv kb w9 (w9.setCell ⟨kb,2,none⟩ (.slice (some ⟨g9,0,none⟩) (acc.length+1) q9)):=Zv.set;have P9:Hid (RdAt (w9.setCell ⟨kb,2,none⟩ (.slice (some ⟨g9,0,none⟩) (acc.length+1) q9)) rb lp cap ts j3):=(P6.out.below hb hrB).only hon (by omega);have O9:Hid (Off [rb] w (w9.setCell ⟨kb,2,none⟩ (.slice (some ⟨g9,0,none⟩) (acc.length+1) q9))):=(O6.out.under (by omega) hb).only hon (by omega);have R9:Hid (Blk (w9.setCell ⟨kb,2,none⟩ (.slice (some ⟨g9,0,none⟩) (acc.length+1) q9)) w.heap.size #[.string ⟨#[]⟩,.int .i64 0,.slice none 0 0] 40):=(R6.out.below hb (by omega)).only hon (by omega);have E9:Hid (Blk (w9.setCell ⟨kb,2,none⟩ (.slice (some ⟨g9,0,none⟩) (acc.length+1) q9)) kb #[.string nm,.int .i64 ar,(.slice (some ⟨g9,0,none⟩) (acc.length+1) q9)] 40):=E8.out.same (j:=2) rfl;have G9:Hid (Zh 64 2 OCT (w9.setCell ⟨kb,2,none⟩ (.slice (some ⟨g9,0,none⟩) (acc.length+1) q9)) B (w9.setCell ⟨kb,2,none⟩ (.slice (some ⟨g9,0,none⟩) (acc.length+1) q9)).heap.size (.slice (some ⟨g9,0,none⟩) (acc.length+1) q9) (acc ++ [(pl,bl)])):=(hg9.onlyT E8.out (by decide) hon).more (sqR _) (Nat.le_of_eq hon.size.symm) (sqR _);have s5:w9.cell? ⟨kb,2,none⟩=some (.slice cp acc.length cc):=E8.out.cell 2 _ rfl;have t5:=E8.out.frozen 2;clear hg9 hb9 ht9 KA hb hon;refine hK.out _ _ trivial (fun _=>?_);clear hK K
           try simp only [sqP]
           refine oneH 8 rfl (fun K hK=>?_)
           go_simp
           refine hK.out _ _ trivial (fun _=>?_);clear hK K
           try simp only [sqP]
           refine oneH 9 rfl (fun K hK=>?_)
           go_simp
           refine hK.out _ _ trivial (fun _=>?_);clear hK K s5 t5;refine wpAnyH_done (by kernel_rfl) ?_ _;go_wp2_with fail
           go_meet
           case rel=>exact ⟨g9,q9,(by first | trivial | rfl),P9,O9,R9,E9,G9⟩
         · go_simp
           refine hK.out _ _ trivial (fun _=>?_);clear hK K
           try simp only [sqP]
           refine oneH 1 rfl (fun K hK=>?_)
           go_simp
           refine hK.out _ _ trivial (fun _=>?_);clear hK K
           try simp only [sqP]
           refine oneH 7 rfl (fun K hK=>?_);refine ZaR OCT.keeps 38 64 2 48 _ (by rfl) _ _ (by rfl) Tryz.underlying38 Zat rfl (by decide) (by decide) B C0 (.slice cp acc.length cc) acc (by rfl) [.slice pp pl.length pc,.slice bp bl.length bc] _ (by rfl) (by rfl) (pl,bl) (f1 ++ f2) G6.out C6.out.1 C6.out.2.1 C6.out.2.2 rfl ZaX (by have:=HAL.out;omega) ?_;intro g9 q9 w9 hg9 hb9 ht9;have KA:Below w6.heap.size w6 (w6.alloc (.cells #[.slice pp pl.length pc,.slice bp bl.length bc] 64)):=(sqN _ _);have hb:Below B w6 w9:=(KA.mono S6.out).trans hb9;have hkl:=E6.out.lt;have E8:Hid (Blk w9 kb #[.string nm,.int .i64 ar,.slice cp acc.length cc] 40):=(ht9 kb (by omega) (G6.out.boxNe E6.out (by decide))).trans E6a.out;have hon:Zv kb w9 (w9.setCell ⟨kb,2,none⟩ (.slice (some ⟨g9,0,none⟩) (acc.length+1) q9)):=Zv.set;have P9:Hid (RdAt (w9.setCell ⟨kb,2,none⟩ (.slice (some ⟨g9,0,none⟩) (acc.length+1) q9)) rb lp cap ts j3):=(P6.out.below hb hrB).only hon (by omega);have O9:Hid (Off [rb] w (w9.setCell ⟨kb,2,none⟩ (.slice (some ⟨g9,0,none⟩) (acc.length+1) q9))):=(O6.out.under (by omega) hb).only hon (by omega);have R9:Hid (Blk (w9.setCell ⟨kb,2,none⟩ (.slice (some ⟨g9,0,none⟩) (acc.length+1) q9)) w.heap.size #[.string ⟨#[]⟩,.int .i64 0,.slice none 0 0] 40):=(R6.out.below hb (by omega)).only hon (by omega);have E9:Hid (Blk (w9.setCell ⟨kb,2,none⟩ (.slice (some ⟨g9,0,none⟩) (acc.length+1) q9)) kb #[.string nm,.int .i64 ar,(.slice (some ⟨g9,0,none⟩) (acc.length+1) q9)] 40):=E8.out.same (j:=2) rfl;have G9:Hid (Zh 64 2 OCT (w9.setCell ⟨kb,2,none⟩ (.slice (some ⟨g9,0,none⟩) (acc.length+1) q9)) B (w9.setCell ⟨kb,2,none⟩ (.slice (some ⟨g9,0,none⟩) (acc.length+1) q9)).heap.size (.slice (some ⟨g9,0,none⟩) (acc.length+1) q9) (acc ++ [(pl,bl)])):=(hg9.onlyT E8.out (by decide) hon).more (sqR _) (Nat.le_of_eq hon.size.symm) (sqR _);have s5:w9.cell? ⟨kb,2,none⟩=some (.slice cp acc.length cc):=E8.out.cell 2 _ rfl;have t5:=E8.out.frozen 2;clear hg9 hb9 ht9 KA hb hon;refine hK.out _ _ trivial (fun _=>?_);clear hK K
           try simp only [sqP]
           refine oneH 8 rfl (fun K hK=>?_)
           go_simp
           refine hK.out _ _ trivial (fun _=>?_);clear hK K
           try simp only [sqP]
           refine oneH 9 rfl (fun K hK=>?_)
           go_simp
           refine hK.out _ _ trivial (fun _=>?_);clear hK K s5 t5;refine wpAnyH_done (by kernel_rfl) ?_ _;go_wp2_with fail
           go_meet
           case rel=>exact ⟨g9,q9,(by first | trivial | rfl),P9,O9,R9,E9,G9⟩
   case rest =>
    obtain ⟨g9,q9,rfl,P9,O9,R9,E9,G9⟩:=hcut
    have HQ0:Hid ((if isS ts (j3,false) [59] then Zab ts E ts.length (nl,ar,acc ++ [(pl,bl)]) (j3+1,false) else ((nl,ar,acc ++ [(pl,bl)]),(j3,false)))=RC):=by
     show _=_;rw [HGO.out,HF2.out,HACC.out,HAR.out.1]
     rfl
    have HA1:(acc ++ [(pl,bl)]).length=acc.length+1:=(by simp);have HA0:Hid ((acc ++ [(pl,bl)]).length≤1+j3):=(by show _≤_;rw [HA1,HACC.out];show 0+1≤_;omega);have HN0:Hid (acc ++ [(pl,bl)]≠[]):=(by show _≠_;simp);rw [← HA1] at E9 G9;have HOA:Hid (okI ar):=HAR.out.2;generalize acc ++ [(pl,bl)]=acc0 at *;have hwB:w.heap.size<B:=(by omega);clear HA1 HACC HAR HAL HGO HF2 CB PE OE RE TE GE EE2 hB;go_wp2_with fail
    go_loopw [4] (fun pv wr=>∃ (k j:Nat) (acc:List Cl) (cp:Option Addr) (cc:Nat),Hid (RdAt wr rb lp cap ts j)∧Hid (Off [rb] w wr)∧Hid (Blk wr w.heap.size #[.string ⟨#[]⟩,.int .i64 0,.slice none 0 0] 40)∧Hid (Blk wr kb #[.string nm,.int .i64 ar,.slice cp acc.length cc] 40)∧Hid (Zh 64 2 OCT wr B wr.heap.size (.slice cp acc.length cc) acc)∧Hid (acc≠[])∧Hid (acc.length≤1+j)∧Hid ((if isS ts (j,false) [59] then Zab ts E k (nl,ar,acc) (j+1,false) else ((nl,ar,acc),(j,false)))=RC)∧j≤ts.length∧i≤j∧ts.length<k+(j+1)) (fun _ wr=>ts.length+1 - posM wr rb)
    case atStart=>exact ⟨ts.length,j3,acc0,_,q9,P9,O9,R9,E9,G9,HN0,HA0,HQ0,hle3,by omega,by omega⟩
    case round =>
     clear P9 O9 R9 E9 G9 HA0 HN0 HQ0;obtain ⟨k,j,acc,cp,cc,P3,O3,R3,E3,G3,HNE,HA,HQ,hj,hij,hkj⟩:=hrel;have SG:Hid (Calls Tryz.prog 73 #[.pointer (some ⟨rb,0,none⟩),.string ⟨#[59]⟩] wr fun e w'=>e=.returned (.bool (isS ts (j,false) [59]))∧RdAt w' rb lp cap ts (if isS ts (j,false) [59] then j+1 else j)∧Off [rb] wr w'):=ZZ wr rb lp cap ts j ⟨#[59]⟩ P3.out hj hlen (by simp);have HPO:Hid (posM wr rb=j):=P3.out.pos
     cases hc:isS ts (j,false) [59] with
     | false =>
      rw [hc] at SG HQ;have HRC:Hid (RC=((nl,ar,acc),(j,false))):=HQ.out.symm;have NE:Hid (∀ w1,RdAt w1 rb lp cap ts j→Calls Tryz.prog 70 #[.pointer (some ⟨rb,0,none⟩),.slice (some ⟨w1.heap.size,0,none⟩) 1 1] (w1.alloc (.cells #[.string ⟨#[46]⟩] 9)) (Rd ts rb lp cap w1 (takeS ts (j,false) [46]) fun v _=>v=.tuple #[])):=fun w1 h1=>ZW w1 rb lp cap ts j ⟨#[46]⟩ h1 hj hlen (by simp);have HYF:Hid (RES=((nl,ar,acc),takeS ts (j,false) [46])):=(by show _=_;rw [HR.out,HRC.out]);generalize takeS ts (j,false) [46]=s4 at *;obtain ⟨j4,b4⟩:=s4;clear HQ HRC hc;go_wp2_with fail;refine SG.out.mono ?_;rintro e w5 ⟨rfl,hp5,ho5⟩;have P5:Hid (RdAt w5 rb lp cap ts j):=hp5;have O5:Hid (Off [rb] w w5):=O3.out.trans ho5;have R5:Hid (Blk w5 w.heap.size #[.string ⟨#[]⟩,.int .i64 0,.slice none 0 0] 40):=R3.out.off ho5 hne;have E5:Hid (Blk w5 kb #[.string nm,.int .i64 ar,.slice cp acc.length cc] 40):=E3.out.off ho5 hner;have G5:Hid (Zh 64 2 OCT w5 B w5.heap.size (.slice cp acc.length cc) acc):=(G3.out.off OCT.keeps ho5 hrB).more (sqR _) ho5.size (sqR _);clear hp5 ho5 P3 O3 R3 E3 G3 SG;go_wp2_with fail;refine (NE.out w5 P5.out).mono ?_;rintro e w7 hr
      cases b4 with
      | true =>
       obtain rfl:=hr.bad rfl;refine ⟨rfl,?_⟩;exact hr.fail O5.out rfl (by rw [HYF.out])
      | false =>
       obtain ⟨v,rfl,hp7,rfl⟩:=hr.ok rfl;have ho7:=hr.off;have P7:Hid (RdAt w7 rb lp cap ts j4):=hp7;have O7:Hid (Off [rb] w w7):=O5.out.trans ho7;have R7:Hid (Blk w7 w.heap.size #[.string ⟨#[]⟩,.int .i64 0,.slice none 0 0] 40):=R5.out.off ho7 hne;have E7:Hid (Blk w7 kb #[.string nm,.int .i64 ar,.slice cp acc.length cc] 40):=E5.out.off ho7 hner;have G7:Hid (Zh 64 2 OCT w7 B w7.heap.size (.slice cp acc.length cc) acc):=(G5.out.off OCT.keeps ho7 hrB).more (sqR _) ho7.size (sqR _);have cE0:w7.cell? ⟨kb,0,none⟩=some (.string nm):=E7.out.cell 0 _ rfl;have cE1:w7.cell? ⟨kb,1,none⟩=some (.int .i64 ar):=E7.out.cell 1 _ rfl;have cE2:w7.cell? ⟨kb,2,none⟩=some (.slice cp acc.length cc):=E7.out.cell 2 _ rfl;have cR0:w7.cell? ⟨w.heap.size,0,none⟩=some (.string ⟨#[]⟩):=R7.out.cell 0 _ rfl;have zR0:=R7.out.frozen 0;have cR1:w7.cell? ⟨w.heap.size,1,none⟩=some (.int .i64 0):=R7.out.cell 1 _ rfl;have zR1:=R7.out.frozen 1;have cR2:w7.cell? ⟨w.heap.size,2,none⟩=some (.slice none 0 0):=R7.out.cell 2 _ rfl;have zR2:=R7.out.frozen 2;clear hr hp7 ho7 P5 O5 R5 E5 G5 NE;go_wp2_with fail;have hon:=ZbQ (b:=w.heap.size) (w:=w7) (c0:=.string nm) (c1:=.int .i64 ar) (c2:=.slice cp acc.length cc);have hbk:=Zcq R7.out (.string nm) (.int .i64 ar) (.slice cp acc.length cc);refine bodyPost_ret (v:=.agg #[.string nm,.int .i64 ar,.slice cp acc.length cc]) (results_cell_row (by rfl) _ _ w.heap.size 40 _ (0,0) _ (by rfl) hbk Tryz.underlying40 rfl (by kernel_rfl)) rfl ?_;rw [HYF.out];exact ⟨O7.out.only hon (sqR _),fun _=>⟨_,rfl,P7.out.only hon hwb,cp,cc,by rw [HNM.out.1],by rw [← HNM.out.1];exact HNM.out.2,HOA.out,(G7.out.only OCT.keeps hon (.inl (by omega))).more (by omega) (Nat.le_of_eq hon.size.symm) (sqR _)⟩,fun e=>(by cases e)⟩
     | true =>
      rw [hc] at SG HQ;obtain ⟨hlt,-⟩:=ZM hc;simp only at hlt;obtain ⟨k,rfl⟩:∃ k',k=k'+1:=⟨k - 1,by omega⟩
      have HQ3:Hid (RC=if isS ts (pFunOne ts E (nl,ar,acc) (j+1,false)).2 [59] then Zab ts E k (pFunOne ts E (nl,ar,acc) (j+1,false)).1 (adv (pFunOne ts E (nl,ar,acc) (j+1,false)).2) else pFunOne ts E (nl,ar,acc) (j+1,false)):=by
       show _=_;rw [← HQ.out];exact ZeA ts E k (nl,ar,acc) (j+1)
      have ND:Hid (∀ w1,RdAt w1 rb lp cap ts (j+1)→Calls Tryz.prog 71 #[.pointer (some ⟨rb,0,none⟩),.int .i64 0,.string nm] w1 (Rd ts rb lp cap w1 (theP ts (j+1,false) nl) fun v _=>v=.tuple #[])):=fun w1 h1=>by
       have:=Zij w1 rb lp cap ts (j+1) 0 nm h1 hlt hlen (by decide);rw [ZfA];have e:nm.data.toList=nl:=(by rw [HNM.out.1];unfold bs;simp);rw [e] at this;exact this
      have hle4:(theP ts (j+1,false) nl).1≤ts.length:=(ZaU ts (j+1,false) nl).le hlt;have hge4:j+1≤(theP ts (j+1,false) nl).1:=(ZaU ts (j+1,false) nl).ge;have HF3:Hid (∀ jb,(pSome ts E (takeS ts (theP ts (j+1,false) nl) [40]) [41]).2=(jb,true)→(pFunOne ts E (nl,ar,acc) (j+1,false)).2=(jb,true)):=fun jb h=>Zgi ts E HG.out (nl,ar,acc) (j+1) jb HNE.out h;have HF4:Hid (((pSome ts E (takeS ts (theP ts (j+1,false) nl) [40]) [41]).1.length:Int)≠ar→(pFunOne ts E (nl,ar,acc) (j+1,false)).2=worse (pSome ts E (takeS ts (theP ts (j+1,false) nl) [40]) [41]).2):=fun h=>ZfF ts E HG.out (nl,ar,acc) (j+1) HNE.out h;have HF5:Hid (((pSome ts E (takeS ts (theP ts (j+1,false) nl) [40]) [41]).1.length:Int)=ar→pFunOne ts E (nl,ar,acc) (j+1,false)=((nl,ar,acc ++ [((pSome ts E (takeS ts (theP ts (j+1,false) nl) [40]) [41]).1,(pBody ts E (takeS ts (pSome ts E (takeS ts (theP ts (j+1,false) nl) [40]) [41]).2 [45,62])).1)]),(pBody ts E (takeS ts (pSome ts E (takeS ts (theP ts (j+1,false) nl) [40]) [41]).2 [45,62])).2)):=fun h=>ZfE ts E (nl,ar,acc) (j+1) HNE.out h;generalize pFunOne ts E (nl,ar,acc) (j+1,false)=F3 at *
      have HBAD3:Hid (∀ jb,F3.2=(jb,true)→RES.2=(jb,true)):=fun jb h=>by
       rw [HR.out,HQ3.out,h,ZaA,if_neg (by simp)];show takeS ts F3.2 [46]=_;rw [h,ZK]
      generalize theP ts (j+1,false) nl=s4 at *;obtain ⟨j4,b4⟩:=s4;simp only at hle4 hge4;clear HQ hc;go_wp2_with fail;refine SG.out.mono ?_;rintro e w5 ⟨rfl,hp5,ho5⟩;have P5:Hid (RdAt w5 rb lp cap ts (j+1)):=hp5;have O5:Hid (Off [rb] w w5):=O3.out.trans ho5;have R5:Hid (Blk w5 w.heap.size #[.string ⟨#[]⟩,.int .i64 0,.slice none 0 0] 40):=R3.out.off ho5 hne;have E5:Hid (Blk w5 kb #[.string nm,.int .i64 ar,.slice cp acc.length cc] 40):=E3.out.off ho5 hner;have G5:Hid (Zh 64 2 OCT w5 B w5.heap.size (.slice cp acc.length cc) acc):=(G3.out.off OCT.keeps ho5 hrB).more (sqR _) ho5.size (sqR _);clear hp5 ho5 P3 O3 R3 E3 G3 SG;go_wp2_with fail;refine (ND.out w5 P5.out).mono ?_;rintro e w7 hr
      cases b4 with
      | true =>
       obtain rfl:=hr.bad rfl;refine ⟨rfl,?_⟩;exact hr.fail O5.out rfl (HBAD3.out j4 (HF3.out j4 (by rw [ZK,ZfD ts E j4 HG.out])))
      | false =>
       obtain ⟨v,rfl,hp7,rfl⟩:=hr.ok rfl;have ho7:=hr.off;have P7:Hid (RdAt w7 rb lp cap ts j4):=hp7;have O7:Hid (Off [rb] w w7):=O5.out.trans ho7;have R7:Hid (Blk w7 w.heap.size #[.string ⟨#[]⟩,.int .i64 0,.slice none 0 0] 40):=R5.out.off ho7 hne;have E7:Hid (Blk w7 kb #[.string nm,.int .i64 ar,.slice cp acc.length cc] 40):=E5.out.off ho7 hner;have G7:Hid (Zh 64 2 OCT w7 B w7.heap.size (.slice cp acc.length cc) acc):=(G5.out.off OCT.keeps ho7 hrB).more (sqR _) ho7.size (sqR _);have CK:Hid (∀ w1,RdAt w1 rb lp cap ts j4→Calls Tryz.prog 75 #[.pointer (some ⟨rb,0,none⟩)] w1 (Rd ts rb lp cap w1 (pSome ts E (takeS ts (j4,false) [40]) [41]).2 (RoK w1 (pSome ts E (takeS ts (j4,false) [40]) [41]).1))):=fun w1 h1=>HK.out w1 rb lp cap j4 h1 hle4 (by omega);have g5:=((Zj ts (j4,false) [40]).trans (Zax HG.out (takeS ts (j4,false) [40]) [41]));have hge5:j4≤(pSome ts E (takeS ts (j4,false) [40]) [41]).2.1:=g5.ge;have hle5:(pSome ts E (takeS ts (j4,false) [40]) [41]).2.1≤ts.length:=g5.le hle4;generalize pSome ts E (takeS ts (j4,false) [40]) [41]=PS at *;obtain ⟨pl,j5,b5⟩:=PS;simp only at hge5 hle5;clear hr hp7 ho7 P5 O5 R5 E5 G5 ND g5;go_wp2_with fail;refine (CK.out _ P7.out).mono ?_;rintro e w8 hr
       cases b5 with
       | true =>
        obtain rfl:=hr.bad rfl;refine ⟨rfl,?_⟩;exact hr.fail O7.out rfl (HBAD3.out j5 (HF3.out j5 rfl))
       | false =>
        obtain ⟨v,rfl,hp8,hk8⟩:=hr.ok rfl;obtain ⟨pp,pc,rfl,hpc8,hpm8⟩:=hk8.shape;obtain ⟨f1,r1,nd1,rg1,-,-⟩:=Zh.done hk8;have ho8:=hr.off;have hs8:=ho8.size;have hBC:B≤w7.heap.size:=G7.out.le;have hw7:=P7.out.lt;have P8:Hid (RdAt w8 rb lp cap ts j5):=hp8;have O8:Hid (Off [rb] w w8):=O7.out.trans ho8;have R8:Hid (Blk w8 w.heap.size #[.string ⟨#[]⟩,.int .i64 0,.slice none 0 0] 40):=R7.out.off ho8 hne;have E8:Hid (Blk w8 kb #[.string nm,.int .i64 ar,.slice cp acc.length cc] 40):=E7.out.off ho8 hner;have hpl8:pl.length≤9223372036854775807:=(by unfold maxLen at hpm8;omega);have cE1:w8.cell? ⟨kb,1,none⟩=some (.int .i64 ar):=E8.out.cell 1 _ rfl;by_cases hn4:(pl.length:Int)=ar
        · obtain ⟨C0,hC0⟩:∃ C0,C0=w7.heap.size:=⟨_,rfl⟩
          have G8:Hid (Zh 64 2 OCT w8 B C0 (.slice cp acc.length cc) acc):=(by show Zh _ _ _ _ _ _ _ _;rw [hC0];exact G7.out.off OCT.keeps ho8 hrB);have T8:Hid (Zy w8 108 6 (OXT w8) (.slice pp pl.length pc) pl f1∧f1.Nodup∧∀ a ∈ f1,C0≤a∧a<w8.heap.size):=⟨r1,nd1,fun a ha=>by rw [hC0];exact rg1 a ha⟩;have hB0:B≤C0:=(by omega);have hC8:C0≤w8.heap.size:=(by omega);have HF6:F3=((nl,ar,acc ++ [(pl,(pBody ts E (takeS ts (j5,false) [45,62])).1)]),(pBody ts E (takeS ts (j5,false) [45,62])).2):=HF5.out hn4;have CB:Hid (∀ w1,RdAt w1 rb lp cap ts j5→Calls Tryz.prog 76 #[.pointer (some ⟨rb,0,none⟩)] w1 (Rd ts rb lp cap w1 (pBody ts E (takeS ts (j5,false) [45,62])).2 (RoK w1 (pBody ts E (takeS ts (j5,false) [45,62])).1))):=fun w1 h1=>HB.out w1 rb lp cap j5 h1 hle5 (by omega);have g6:=((Zj ts (j5,false) [45,62]).trans (Zaa HG.out (takeS ts (j5,false) [45,62])));have hge3:j5≤(pBody ts E (takeS ts (j5,false) [45,62])).2.1:=g6.ge;have hle3:(pBody ts E (takeS ts (j5,false) [45,62])).2.1≤ts.length:=g6.le hle5;generalize pBody ts E (takeS ts (j5,false) [45,62])=BDZ at *;obtain ⟨bl,j3,b3⟩:=BDZ;simp only at hge3 hle3;have HF7:Hid (F3=((nl,ar,acc ++ [(pl,bl)]),(j3,b3))):=HF6;have HAL:Hid (acc.length≤100000000):=(by show _≤_;have:=HA.out;omega);clear hr hp8 hk8 r1 nd1 rg1 ho8 P7 O7 R7 E7 G7 CK HF3 HF4 HF5 HF6 g6 hC0 hpc8 hpm8;go_wp2_with fail;have l5:w8.cell? ⟨kb,2,none⟩=some (.slice cp acc.length cc):=E8.out.cell 2 _ rfl;refine wp_region_held_drew (S:=fun _=>True) (by kernel_rfl) trivial (fun hHeld=>?_);refine tkP 0 (v:=.pointer (some ⟨kb,2,none⟩)) rfl (by rfl) (fun w' hS=>by go_simp) hHeld ?_
          try simp only [sqP]
          refine tkP 2 (v:=.slice pp pl.length pc) rfl (by rfl) (fun w' hS=>by go_simp) hHeld ?_
          try simp only [sqP]
          refine tkP 3 (v:=.pointer (some ⟨rb,0,none⟩)) rfl (by rfl) (fun w' hS=>by go_simp) hHeld ?_
          try simp only [sqP]
          refine twoH 1 4 rfl rfl (fun K hK=>?_) (fun K hK=>?_)
          · go_simp
            refine hK.out _ _ trivial (fun _=>?_);clear hK K
            try simp only [sqP]
            refine oneH 4 rfl (fun K hK=>?_)
            go_simp
            go_at_call 76
            refine (CB.out _ P8.out.dr).mono ?_;rintro e w6 hr
            cases b3 with
            | true =>
             obtain rfl:=hr.bad rfl;refine ⟨rfl,?_⟩;exact hr.fail O8.out.drO rfl (HBAD3.out j3 (by rw [HF7.out]))
            | false =>
             obtain ⟨v,rfl,hp6,hk6⟩:=hr.ok rfl;obtain ⟨bp,bc,rfl,-,-⟩:=hk6.shape;obtain ⟨f2,r2,nd2,rg2,-,-⟩:=Zh.done hk6;have ho6:Off [rb] w8 w6:=Off.drI hr.off;have hs6:=ho6.size;have P6:Hid (RdAt w6 rb lp cap ts j3):=hp6;have O6:Hid (Off [rb] w w6):=O8.out.trans ho6;have R6:Hid (Blk w6 w.heap.size #[.string ⟨#[]⟩,.int .i64 0,.slice none 0 0] 40):=R8.out.off ho6 hne;have E6:Hid (Blk w6 kb #[.string nm,.int .i64 ar,.slice cp acc.length cc] 40):=E8.out.off ho6 hner;have G6:Hid (Zh 64 2 OCT w6 B C0 (.slice cp acc.length cc) acc):=G8.out.off OCT.keeps ho6 hrB
             have C6:Hid (OCT w6 [.slice pp pl.length pc,.slice bp bl.length bc] (pl,bl) (f1 ++ f2)∧(f1 ++ f2).Nodup∧∀ a ∈ f1 ++ f2,C0≤a∧a<w6.heap.size):=⟨OCT.mk (ZcL T8.out.1 ho6 (fun a ha=>by have:=T8.out.2.2 a ha;omega)) r2,List.nodup_append.2 ⟨T8.out.2.1,nd2,fun a ha b hb=>by have:=T8.out.2.2 a ha;have:=rg2 b hb;simp only [Zb6] at this;omega⟩,fun a ha=>by
              rcases List.mem_append.1 ha with h | h
              · have:=T8.out.2.2 a h;omega
              · have:=rg2 a h;simp only [Zb6] at this;omega⟩
             have KA:Below w6.heap.size w6 (w6.alloc (.cells #[.slice pp pl.length pc,.slice bp bl.length bc] 64)):=(sqN _ _);have S6:Hid (B≤w6.heap.size):=(by show _≤_;omega);have E6a:Hid (Blk (w6.alloc (.cells #[.slice pp pl.length pc,.slice bp bl.length bc] 64)) kb #[.string nm,.int .i64 ar,.slice cp acc.length cc] 40):=E6.out.next KA;have e5:w6.cell? ⟨kb,2,none⟩=some (.slice cp acc.length cc):=E6.out.cell 2 _ rfl;have f5:(w6.alloc (.cells #[.slice pp pl.length pc,.slice bp bl.length bc] 64)).cell? ⟨kb,2,none⟩=some (.slice cp acc.length cc):=E6a.out.cell 2 _ rfl;clear hr hp6 hk6 r2 nd2 rg2 ho6 KA;refine hK.out _ _ trivial (fun _=>?_);clear hK K
             try simp only [sqP]
             refine oneH 5 rfl (fun K hK=>?_)
             go_simp
             refine hK.out _ _ trivial (fun _=>?_);clear hK K
             try simp only [sqP]
             refine oneH 6 rfl (fun K hK=>?_)
             go_simp
             refine hK.out _ _ trivial (fun _=>?_);clear hK K
             try simp only [sqP]
             refine oneH 7 rfl (fun K hK=>?_);refine ZaR OCT.keeps 38 64 2 48 _ (by rfl) _ _ (by rfl) Tryz.underlying38 Zat rfl (by decide) (by decide) B C0 (.slice cp acc.length cc) acc (by rfl) [.slice pp pl.length pc,.slice bp bl.length bc] _ (by rfl) (by rfl) (pl,bl) (f1 ++ f2) G6.out C6.out.1 C6.out.2.1 C6.out.2.2 rfl ZaX (by have:=HAL.out;omega) ?_;intro g9 q9 w9 hg9 hb9 ht9;have KA:Below w6.heap.size w6 (w6.alloc (.cells #[.slice pp pl.length pc,.slice bp bl.length bc] 64)):=(sqN _ _);have hb:Below B w6 w9:=(KA.mono S6.out).trans hb9;have hkl:=E6.out.lt;have E8:Hid (Blk w9 kb #[.string nm,.int .i64 ar,.slice cp acc.length cc] 40):=(ht9 kb (by omega) (G6.out.boxNe E6.out (by decide))).trans E6a.out;have hon:Zv kb w9 (w9.setCell ⟨kb,2,none⟩ (.slice (some ⟨g9,0,none⟩) (acc.length+1) q9)):=Zv.set;have P9:Hid (RdAt (w9.setCell ⟨kb,2,none⟩ (.slice (some ⟨g9,0,none⟩) (acc.length+1) q9)) rb lp cap ts j3):=(P6.out.below hb hrB).only hon (by omega);have O9:Hid (Off [rb] w (w9.setCell ⟨kb,2,none⟩ (.slice (some ⟨g9,0,none⟩) (acc.length+1) q9))):=(O6.out.under (by omega) hb).only hon (by omega);have R9:Hid (Blk (w9.setCell ⟨kb,2,none⟩ (.slice (some ⟨g9,0,none⟩) (acc.length+1) q9)) w.heap.size #[.string ⟨#[]⟩,.int .i64 0,.slice none 0 0] 40):=(R6.out.below hb (by omega)).only hon (by omega);have E9:Hid (Blk (w9.setCell ⟨kb,2,none⟩ (.slice (some ⟨g9,0,none⟩) (acc.length+1) q9)) kb #[.string nm,.int .i64 ar,(.slice (some ⟨g9,0,none⟩) (acc.length+1) q9)] 40):=E8.out.same (j:=2) rfl;have G9:Hid (Zh 64 2 OCT (w9.setCell ⟨kb,2,none⟩ (.slice (some ⟨g9,0,none⟩) (acc.length+1) q9)) B (w9.setCell ⟨kb,2,none⟩ (.slice (some ⟨g9,0,none⟩) (acc.length+1) q9)).heap.size (.slice (some ⟨g9,0,none⟩) (acc.length+1) q9) (acc ++ [(pl,bl)])):=(hg9.onlyT E8.out (by decide) hon).more (sqR _) (Nat.le_of_eq hon.size.symm) (sqR _);have s5:w9.cell? ⟨kb,2,none⟩=some (.slice cp acc.length cc):=E8.out.cell 2 _ rfl;have t5:=E8.out.frozen 2;clear hg9 hb9 ht9 KA hb hon;refine hK.out _ _ trivial (fun _=>?_);clear hK K
             try simp only [sqP]
             refine oneH 8 rfl (fun K hK=>?_)
             go_simp
             refine hK.out _ _ trivial (fun _=>?_);clear hK K
             try simp only [sqP]
             refine oneH 9 rfl (fun K hK=>?_)
             go_simp
             refine hK.out _ _ trivial (fun _=>?_);clear hK K s5 t5;refine wpAnyH_done (by kernel_rfl) ?_ _;go_wp2_with fail;have HA1:(acc ++ [(pl,bl)]).length=acc.length+1:=(by simp);have HA9:Hid ((acc ++ [(pl,bl)]).length≤1+j3):=(by show _≤_;have:=HA.out;rw [HA1];omega);have HN9:Hid (acc ++ [(pl,bl)]≠[]):=(by show _≠_;simp)
             have HQ9:Hid ((if isS ts (j3,false) [59] then Zab ts E k (nl,ar,acc ++ [(pl,bl)]) (j3+1,false) else ((nl,ar,acc ++ [(pl,bl)]),(j3,false)))=RC):=by
              show _=_;rw [HQ3.out,HF7.out]
              rfl
             exact ⟨⟨k,j3,acc ++ [(pl,bl)],some ⟨g9,0,none⟩,q9,P9,O9,R9,(by rw [HA1];exact E9),(by rw [HA1];exact G9),HN9,HA9,HQ9,hle3,by omega,by omega⟩,by rw [P9.out.pos,HPO.out];omega⟩
          · go_simp
            go_at_call 76
            refine (CB.out _ P8.out.dr).mono ?_;rintro e w6 hr
            cases b3 with
            | true =>
             obtain rfl:=hr.bad rfl;refine ⟨rfl,?_⟩;exact hr.fail O8.out.drO rfl (HBAD3.out j3 (by rw [HF7.out]))
            | false =>
             obtain ⟨v,rfl,hp6,hk6⟩:=hr.ok rfl;obtain ⟨bp,bc,rfl,-,-⟩:=hk6.shape;obtain ⟨f2,r2,nd2,rg2,-,-⟩:=Zh.done hk6;have ho6:Off [rb] w8 w6:=Off.drI hr.off;have hs6:=ho6.size;have P6:Hid (RdAt w6 rb lp cap ts j3):=hp6;have O6:Hid (Off [rb] w w6):=O8.out.trans ho6;have R6:Hid (Blk w6 w.heap.size #[.string ⟨#[]⟩,.int .i64 0,.slice none 0 0] 40):=R8.out.off ho6 hne;have E6:Hid (Blk w6 kb #[.string nm,.int .i64 ar,.slice cp acc.length cc] 40):=E8.out.off ho6 hner;have G6:Hid (Zh 64 2 OCT w6 B C0 (.slice cp acc.length cc) acc):=G8.out.off OCT.keeps ho6 hrB
             have C6:Hid (OCT w6 [.slice pp pl.length pc,.slice bp bl.length bc] (pl,bl) (f1 ++ f2)∧(f1 ++ f2).Nodup∧∀ a ∈ f1 ++ f2,C0≤a∧a<w6.heap.size):=⟨OCT.mk (ZcL T8.out.1 ho6 (fun a ha=>by have:=T8.out.2.2 a ha;omega)) r2,List.nodup_append.2 ⟨T8.out.2.1,nd2,fun a ha b hb=>by have:=T8.out.2.2 a ha;have:=rg2 b hb;simp only [Zb6] at this;omega⟩,fun a ha=>by
              rcases List.mem_append.1 ha with h | h
              · have:=T8.out.2.2 a h;omega
              · have:=rg2 a h;simp only [Zb6] at this;omega⟩
             have KA:Below w6.heap.size w6 (w6.alloc (.cells #[.slice pp pl.length pc,.slice bp bl.length bc] 64)):=(sqN _ _);have S6:Hid (B≤w6.heap.size):=(by show _≤_;omega);have E6a:Hid (Blk (w6.alloc (.cells #[.slice pp pl.length pc,.slice bp bl.length bc] 64)) kb #[.string nm,.int .i64 ar,.slice cp acc.length cc] 40):=E6.out.next KA;have e5:w6.cell? ⟨kb,2,none⟩=some (.slice cp acc.length cc):=E6.out.cell 2 _ rfl;have f5:(w6.alloc (.cells #[.slice pp pl.length pc,.slice bp bl.length bc] 64)).cell? ⟨kb,2,none⟩=some (.slice cp acc.length cc):=E6a.out.cell 2 _ rfl;clear hr hp6 hk6 r2 nd2 rg2 ho6 KA;refine hK.out _ _ trivial (fun _=>?_);clear hK K
             try simp only [sqP]
             refine twoH 1 5 rfl rfl (fun K hK=>?_) (fun K hK=>?_)
             · go_simp
               refine hK.out _ _ trivial (fun _=>?_);clear hK K
               try simp only [sqP]
               refine oneH 5 rfl (fun K hK=>?_)
               go_simp
               refine hK.out _ _ trivial (fun _=>?_);clear hK K
               try simp only [sqP]
               refine oneH 6 rfl (fun K hK=>?_)
               go_simp
               refine hK.out _ _ trivial (fun _=>?_);clear hK K
               try simp only [sqP]
               refine oneH 7 rfl (fun K hK=>?_);refine ZaR OCT.keeps 38 64 2 48 _ (by rfl) _ _ (by rfl) Tryz.underlying38 Zat rfl (by decide) (by decide) B C0 (.slice cp acc.length cc) acc (by rfl) [.slice pp pl.length pc,.slice bp bl.length bc] _ (by rfl) (by rfl) (pl,bl) (f1 ++ f2) G6.out C6.out.1 C6.out.2.1 C6.out.2.2 rfl ZaX (by have:=HAL.out;omega) ?_;intro g9 q9 w9 hg9 hb9 ht9;have KA:Below w6.heap.size w6 (w6.alloc (.cells #[.slice pp pl.length pc,.slice bp bl.length bc] 64)):=(sqN _ _);have hb:Below B w6 w9:=(KA.mono S6.out).trans hb9;have hkl:=E6.out.lt;have E8:Hid (Blk w9 kb #[.string nm,.int .i64 ar,.slice cp acc.length cc] 40):=(ht9 kb (by omega) (G6.out.boxNe E6.out (by decide))).trans E6a.out;have hon:Zv kb w9 (w9.setCell ⟨kb,2,none⟩ (.slice (some ⟨g9,0,none⟩) (acc.length+1) q9)):=Zv.set;have P9:Hid (RdAt (w9.setCell ⟨kb,2,none⟩ (.slice (some ⟨g9,0,none⟩) (acc.length+1) q9)) rb lp cap ts j3):=(P6.out.below hb hrB).only hon (by omega);have O9:Hid (Off [rb] w (w9.setCell ⟨kb,2,none⟩ (.slice (some ⟨g9,0,none⟩) (acc.length+1) q9))):=(O6.out.under (by omega) hb).only hon (by omega);have R9:Hid (Blk (w9.setCell ⟨kb,2,none⟩ (.slice (some ⟨g9,0,none⟩) (acc.length+1) q9)) w.heap.size #[.string ⟨#[]⟩,.int .i64 0,.slice none 0 0] 40):=(R6.out.below hb (by omega)).only hon (by omega);have E9:Hid (Blk (w9.setCell ⟨kb,2,none⟩ (.slice (some ⟨g9,0,none⟩) (acc.length+1) q9)) kb #[.string nm,.int .i64 ar,(.slice (some ⟨g9,0,none⟩) (acc.length+1) q9)] 40):=E8.out.same (j:=2) rfl;have G9:Hid (Zh 64 2 OCT (w9.setCell ⟨kb,2,none⟩ (.slice (some ⟨g9,0,none⟩) (acc.length+1) q9)) B (w9.setCell ⟨kb,2,none⟩ (.slice (some ⟨g9,0,none⟩) (acc.length+1) q9)).heap.size (.slice (some ⟨g9,0,none⟩) (acc.length+1) q9) (acc ++ [(pl,bl)])):=(hg9.onlyT E8.out (by decide) hon).more (sqR _) (Nat.le_of_eq hon.size.symm) (sqR _);have s5:w9.cell? ⟨kb,2,none⟩=some (.slice cp acc.length cc):=E8.out.cell 2 _ rfl;have t5:=E8.out.frozen 2;clear hg9 hb9 ht9 KA hb hon;refine hK.out _ _ trivial (fun _=>?_);clear hK K
               try simp only [sqP]
               refine oneH 8 rfl (fun K hK=>?_)
               go_simp
               refine hK.out _ _ trivial (fun _=>?_);clear hK K
               try simp only [sqP]
               refine oneH 9 rfl (fun K hK=>?_)
               go_simp
               refine hK.out _ _ trivial (fun _=>?_);clear hK K s5 t5;refine wpAnyH_done (by kernel_rfl) ?_ _;go_wp2_with fail;have HA1:(acc ++ [(pl,bl)]).length=acc.length+1:=(by simp);have HA9:Hid ((acc ++ [(pl,bl)]).length≤1+j3):=(by show _≤_;have:=HA.out;rw [HA1];omega);have HN9:Hid (acc ++ [(pl,bl)]≠[]):=(by show _≠_;simp)
               have HQ9:Hid ((if isS ts (j3,false) [59] then Zab ts E k (nl,ar,acc ++ [(pl,bl)]) (j3+1,false) else ((nl,ar,acc ++ [(pl,bl)]),(j3,false)))=RC):=by
                show _=_;rw [HQ3.out,HF7.out]
                rfl
               exact ⟨⟨k,j3,acc ++ [(pl,bl)],some ⟨g9,0,none⟩,q9,P9,O9,R9,(by rw [HA1];exact E9),(by rw [HA1];exact G9),HN9,HA9,HQ9,hle3,by omega,by omega⟩,by rw [P9.out.pos,HPO.out];omega⟩
             · go_simp
               refine hK.out _ _ trivial (fun _=>?_);clear hK K
               try simp only [sqP]
               refine twoH 1 6 rfl rfl (fun K hK=>?_) (fun K hK=>?_)
               · go_simp
                 refine hK.out _ _ trivial (fun _=>?_);clear hK K
                 try simp only [sqP]
                 refine oneH 6 rfl (fun K hK=>?_)
                 go_simp
                 refine hK.out _ _ trivial (fun _=>?_);clear hK K
                 try simp only [sqP]
                 refine oneH 7 rfl (fun K hK=>?_);refine ZaR OCT.keeps 38 64 2 48 _ (by rfl) _ _ (by rfl) Tryz.underlying38 Zat rfl (by decide) (by decide) B C0 (.slice cp acc.length cc) acc (by rfl) [.slice pp pl.length pc,.slice bp bl.length bc] _ (by rfl) (by rfl) (pl,bl) (f1 ++ f2) G6.out C6.out.1 C6.out.2.1 C6.out.2.2 rfl ZaX (by have:=HAL.out;omega) ?_;intro g9 q9 w9 hg9 hb9 ht9;have KA:Below w6.heap.size w6 (w6.alloc (.cells #[.slice pp pl.length pc,.slice bp bl.length bc] 64)):=(sqN _ _);have hb:Below B w6 w9:=(KA.mono S6.out).trans hb9;have hkl:=E6.out.lt;have E8:Hid (Blk w9 kb #[.string nm,.int .i64 ar,.slice cp acc.length cc] 40):=(ht9 kb (by omega) (G6.out.boxNe E6.out (by decide))).trans E6a.out;have hon:Zv kb w9 (w9.setCell ⟨kb,2,none⟩ (.slice (some ⟨g9,0,none⟩) (acc.length+1) q9)):=Zv.set;have P9:Hid (RdAt (w9.setCell ⟨kb,2,none⟩ (.slice (some ⟨g9,0,none⟩) (acc.length+1) q9)) rb lp cap ts j3):=(P6.out.below hb hrB).only hon (by omega);have O9:Hid (Off [rb] w (w9.setCell ⟨kb,2,none⟩ (.slice (some ⟨g9,0,none⟩) (acc.length+1) q9))):=(O6.out.under (by omega) hb).only hon (by omega);have R9:Hid (Blk (w9.setCell ⟨kb,2,none⟩ (.slice (some ⟨g9,0,none⟩) (acc.length+1) q9)) w.heap.size #[.string ⟨#[]⟩,.int .i64 0,.slice none 0 0] 40):=(R6.out.below hb (by omega)).only hon (by omega);have E9:Hid (Blk (w9.setCell ⟨kb,2,none⟩ (.slice (some ⟨g9,0,none⟩) (acc.length+1) q9)) kb #[.string nm,.int .i64 ar,(.slice (some ⟨g9,0,none⟩) (acc.length+1) q9)] 40):=E8.out.same (j:=2) rfl;have G9:Hid (Zh 64 2 OCT (w9.setCell ⟨kb,2,none⟩ (.slice (some ⟨g9,0,none⟩) (acc.length+1) q9)) B (w9.setCell ⟨kb,2,none⟩ (.slice (some ⟨g9,0,none⟩) (acc.length+1) q9)).heap.size (.slice (some ⟨g9,0,none⟩) (acc.length+1) q9) (acc ++ [(pl,bl)])):=(hg9.onlyT E8.out (by decide) hon).more (sqR _) (Nat.le_of_eq hon.size.symm) (sqR _);have s5:w9.cell? ⟨kb,2,none⟩=some (.slice cp acc.length cc):=E8.out.cell 2 _ rfl;have t5:=E8.out.frozen 2;clear hg9 hb9 ht9 KA hb hon;refine hK.out _ _ trivial (fun _=>?_);clear hK K
                 try simp only [sqP]
                 refine oneH 8 rfl (fun K hK=>?_)
                 go_simp
                 refine hK.out _ _ trivial (fun _=>?_);clear hK K
                 try simp only [sqP]
                 refine oneH 9 rfl (fun K hK=>?_)
                 go_simp
                 refine hK.out _ _ trivial (fun _=>?_);clear hK K s5 t5;refine wpAnyH_done (by kernel_rfl) ?_ _;go_wp2_with fail;have HA1:(acc ++ [(pl,bl)]).length=acc.length+1:=(by simp);have HA9:Hid ((acc ++ [(pl,bl)]).length≤1+j3):=(by show _≤_;have:=HA.out;rw [HA1];omega);have HN9:Hid (acc ++ [(pl,bl)]≠[]):=(by show _≠_;simp)
                 have HQ9:Hid ((if isS ts (j3,false) [59] then Zab ts E k (nl,ar,acc ++ [(pl,bl)]) (j3+1,false) else ((nl,ar,acc ++ [(pl,bl)]),(j3,false)))=RC):=by
                  show _=_;rw [HQ3.out,HF7.out]
                  rfl
                 exact ⟨⟨k,j3,acc ++ [(pl,bl)],some ⟨g9,0,none⟩,q9,P9,O9,R9,(by rw [HA1];exact E9),(by rw [HA1];exact G9),HN9,HA9,HQ9,hle3,by omega,by omega⟩,by rw [P9.out.pos,HPO.out];omega⟩
               · go_simp
                 refine hK.out _ _ trivial (fun _=>?_);clear hK K
                 try simp only [sqP]
                 refine oneH 1 rfl (fun K hK=>?_)
                 go_simp
                 refine hK.out _ _ trivial (fun _=>?_);clear hK K
                 try simp only [sqP]
                 refine oneH 7 rfl (fun K hK=>?_);refine ZaR OCT.keeps 38 64 2 48 _ (by rfl) _ _ (by rfl) Tryz.underlying38 Zat rfl (by decide) (by decide) B C0 (.slice cp acc.length cc) acc (by rfl) [.slice pp pl.length pc,.slice bp bl.length bc] _ (by rfl) (by rfl) (pl,bl) (f1 ++ f2) G6.out C6.out.1 C6.out.2.1 C6.out.2.2 rfl ZaX (by have:=HAL.out;omega) ?_;intro g9 q9 w9 hg9 hb9 ht9;have KA:Below w6.heap.size w6 (w6.alloc (.cells #[.slice pp pl.length pc,.slice bp bl.length bc] 64)):=(sqN _ _);have hb:Below B w6 w9:=(KA.mono S6.out).trans hb9;have hkl:=E6.out.lt;have E8:Hid (Blk w9 kb #[.string nm,.int .i64 ar,.slice cp acc.length cc] 40):=(ht9 kb (by omega) (G6.out.boxNe E6.out (by decide))).trans E6a.out;have hon:Zv kb w9 (w9.setCell ⟨kb,2,none⟩ (.slice (some ⟨g9,0,none⟩) (acc.length+1) q9)):=Zv.set;have P9:Hid (RdAt (w9.setCell ⟨kb,2,none⟩ (.slice (some ⟨g9,0,none⟩) (acc.length+1) q9)) rb lp cap ts j3):=(P6.out.below hb hrB).only hon (by omega);have O9:Hid (Off [rb] w (w9.setCell ⟨kb,2,none⟩ (.slice (some ⟨g9,0,none⟩) (acc.length+1) q9))):=(O6.out.under (by omega) hb).only hon (by omega);have R9:Hid (Blk (w9.setCell ⟨kb,2,none⟩ (.slice (some ⟨g9,0,none⟩) (acc.length+1) q9)) w.heap.size #[.string ⟨#[]⟩,.int .i64 0,.slice none 0 0] 40):=(R6.out.below hb (by omega)).only hon (by omega);have E9:Hid (Blk (w9.setCell ⟨kb,2,none⟩ (.slice (some ⟨g9,0,none⟩) (acc.length+1) q9)) kb #[.string nm,.int .i64 ar,(.slice (some ⟨g9,0,none⟩) (acc.length+1) q9)] 40):=E8.out.same (j:=2) rfl;have G9:Hid (Zh 64 2 OCT (w9.setCell ⟨kb,2,none⟩ (.slice (some ⟨g9,0,none⟩) (acc.length+1) q9)) B (w9.setCell ⟨kb,2,none⟩ (.slice (some ⟨g9,0,none⟩) (acc.length+1) q9)).heap.size (.slice (some ⟨g9,0,none⟩) (acc.length+1) q9) (acc ++ [(pl,bl)])):=(hg9.onlyT E8.out (by decide) hon).more (sqR _) (Nat.le_of_eq hon.size.symm) (sqR _);have s5:w9.cell? ⟨kb,2,none⟩=some (.slice cp acc.length cc):=E8.out.cell 2 _ rfl;have t5:=E8.out.frozen 2;clear hg9 hb9 ht9 KA hb hon;refine hK.out _ _ trivial (fun _=>?_);clear hK K
                 try simp only [sqP]
                 refine oneH 8 rfl (fun K hK=>?_)
                 go_simp
                 refine hK.out _ _ trivial (fun _=>?_);clear hK K
                 try simp only [sqP]
                 refine oneH 9 rfl (fun K hK=>?_)
                 go_simp
                 refine hK.out _ _ trivial (fun _=>?_);clear hK K s5 t5;refine wpAnyH_done (by kernel_rfl) ?_ _;go_wp2_with fail;have HA1:(acc ++ [(pl,bl)]).length=acc.length+1:=(by simp);have HA9:Hid ((acc ++ [(pl,bl)]).length≤1+j3):=(by show _≤_;have:=HA.out;rw [HA1];omega);have HN9:Hid (acc ++ [(pl,bl)]≠[]):=(by show _≠_;simp)
                 have HQ9:Hid ((if isS ts (j3,false) [59] then Zab ts E k (nl,ar,acc ++ [(pl,bl)]) (j3+1,false) else ((nl,ar,acc ++ [(pl,bl)]),(j3,false)))=RC):=by
                  show _=_;rw [HQ3.out,HF7.out]
                  rfl
                 exact ⟨⟨k,j3,acc ++ [(pl,bl)],some ⟨g9,0,none⟩,q9,P9,O9,R9,(by rw [HA1];exact E9),(by rw [HA1];exact G9),HN9,HA9,HQ9,hle3,by omega,by omega⟩,by rw [P9.out.pos,HPO.out];omega⟩
        · have HF6:Hid (F3.2=(j5,true)):=HF4.out hn4
          have MF:Hid (∀ w1,RdAt w1 rb lp cap ts j5→Calls Tryz.prog 77 #[.pointer (some ⟨rb,0,none⟩)] w1 fun e w'=>e=.returned (.agg #[.int .i64 (misL ts j5)])∧Below w1.heap.size w1 w'):=fun w1 h1=>ZbG w1 rb lp cap ts j5 h1 hlen;clear hr hp8 hk8 r1 nd1 rg1 ho8 P7 O7 R7 E7 G7 CK HF3 HF4 HF5 hpc8 hpm8;go_wp2_with fail;refine (MF.out _ P8.out).mono ?_;rintro e w9 ⟨rfl,hb9⟩;have O9:Hid (Off [rb] w w9):=O8.out.trans (Off.of_below hb9);have HX:Hid (RES.2=(j5,true)):=HBAD3.out j5 HF6.out;clear hb9;go_wp2_with fail;refine ⟨rfl,?_⟩;exact ⟨O9.out,fun e=>(by rw [HX.out] at e;cases e),fun _=>(by rw [HX.out];rfl)⟩
end Go.Proofs.YtacioihbhkcdcaaGreatDoor
