/-
  PImplM
-/
import Derived.Test.YtacioihbhkcdcaaGreatDoorP19
import Derived.Test.YtacioihbhkcdcaaGreatDoorP27
set_option maxHeartbeats 16000000
set_option linter.unusedVariables false
set_option maxRecDepth 100000
namespace Go.Proofs.YtacioihbhkcdcaaGreatDoor
open Go.ChangeShapes Go.WideShapes Go.ChangeAt Go.RowKit
section
open Go.Proofs.Tryz
theorem Zdl (k n:Int) (t m:ByteArray) (cs:List Cl):lfX (.mk k n t m [] cs)=true:=by rw [Zia];simp
theorem Zc7 {k n:Int} {t m:ByteArray} {ks:List Ex} {cs:List Cl} (hk:4<=k/\k≠5) (h:∀ x ∈ ks,lfX x=true):lfX (.mk k n t m ks cs)=true:=by
 rw [Zia];have h1:¬ (0<=k/\k<=3):=(by omega);have h2:ks.all lfX=true:=List.all_eq_true.2 h;simp [h1,hk.2,h2]
def LfE (E:St->Ex × St):Prop:=∀ st,lfX (E st).1=true
section
variable {ts:List Tok} {E:St->Ex × St}
theorem ZgV (hE:LfE E):∀ (k:Nat) (acc:List Ex) (st:St),(∀ x ∈ acc,lfX x=true)->∀ x ∈ (Zap ts E k acc st).1,lfX x=true
 | 0,acc,st,h=>h
 | k+1,acc,st,h=>by
  unfold Zap
  split
  . refine ZgV hE k _ _ (λx hx=>?_)
    rcases List.mem_append.1 hx with hx | hx
    . exact h x hx
    . rw [List.mem_singleton.1 hx];exact hE _
  . exact h
theorem ZgW (hE:LfE E) (st:St):∀ x ∈ (pBody ts E st).1,lfX x=true:=ZgV hE _ _ _ (λx hx=>by rw [List.mem_singleton.1 hx];exact hE _)
theorem ZgX (hE:LfE E) (st:St) (fin:List UInt8):∀ x ∈ (pSome ts E st fin).1,lfX x=true:=by
 unfold pSome
 split
 . intro x hx;simp at hx
 . exact ZgW hE st
theorem Zib:∀ (l:List Ex) (t:Ex),(∀ x ∈ l,lfX x=true)->lfX t=true->lfX (l.foldr ZaT t)=true
 | [],t,_,h=>h
 | x :: l,t,hl,h=>by
  rw [List.foldr_cons];refine Zc7 (by omega) (λy hy=>?_);simp only [List.mem_cons,List.not_mem_nil,or_false] at hy
  rcases hy with rfl | rfl
  . exact hl _ (by simp)
  . exact Zib l t (λz hz=>hl z (by simp [hz])) h
theorem Zi3 (hE:LfE E) (st:St):lfX (pList ts E st).1=true:=by
 unfold pList
 split
 . exact Zdl _ _ _ _ _
 . refine Zib _ _ (ZgW hE st) ?_
   unfold ZbJ
   split
   . exact hE _
   . exact Zdl _ _ _ _ _
theorem Zci (hE:LfE E):LfE (ZT ts E):=λst=>by
 unfold ZT
 split
 . exact Zdl _ _ _ _ _
 split
 . exact Zdl _ _ _ _ _
 split
 . unfold pName
   split
   . exact Zc7 (by omega) (ZgX hE _ _)
   . exact Zdl _ _ _ _ _
 split
 . exact Zdl _ _ _ _ _
 split
 . exact Zc7 (by omega) (ZgX hE _ _)
 split
 . exact Zi3 hE _
 split
 . exact Zc7 (by omega) (λx hx=>by rw [List.mem_singleton.1 hx];exact hE _)
 split
 . exact hE _
 . exact Zdl _ _ _ _ _
end
theorem ZjF (s:List UInt8) {x y:Ex} (hx:lfX x=true) (hy:lfX y=true):lfX (opE s x y)=true:=Zc7 (by omega) (λz hz=>by
 simp only [List.mem_cons,List.not_mem_nil,or_false] at hz
 rcases hz with rfl | rfl
 . exact hx
 . exact hy)
theorem Ze0 {ts:List Tok} {signs:List (List UInt8)} {sub:St->Ex × St} (hs:LfE sub):∀ (k:Nat) (x:Ex) (st:St),lfX x=true->lfX (pOps ts signs sub k x st).1=true
 | 0,x,st,h=>h
 | k+1,x,st,h=>by
  unfold pOps
  split
  . exact Ze0 hs k _ _ (ZjF _ h (hs _))
  . exact h
theorem Zgf {ts:List Tok} {E:St->Ex × St} (hE:LfE E):LfE (pSum ts E):=λst=>Ze0 (λst=>Ze0 (Zci hE) _ _ _ (Zci hE st)) _ _ _ (Ze0 (Zci hE) _ _ _ (Zci hE st))
theorem Zgg {ts:List Tok} {E:St->Ex × St} (hE:LfE E):LfE (pCmp ts E):=λst=>by
 unfold pCmp
 split
 . exact ZjF _ (Zgf hE st) (Zgf hE _)
 . exact Zgf hE st
theorem Zi4 (ts:List Tok):∀ n,LfE (pE ts n)
 | 0=>λst=>Zdl _ _ _ _ _
 | n+1=>λst=>by
  show lfX (pExp ts (pE ts n) st).1=true;unfold pExp
  split
  . refine Zc7 (by omega) (λx hx=>?_)
    simp only [List.mem_cons,List.not_mem_nil,or_false] at hx
    rcases hx with rfl | rfl
    . exact Zgg (Zi4 ts n) st
    . exact Zi4 ts n _
  . exact Zgg (Zi4 ts n) st
theorem Zky {ts:List Tok} (hT:TsOk ts) {n:Nat} {E:St->Ex × St} (hE:PIe ts 113 n E) (hGE:ZV ts E) (hS:PIe ts 123 (n+1) (pCmp ts E)) (hG:ZV ts (pCmp ts E)) (hlf:LfE (pCmp ts E)):PIe ts 113 (n+1) (pExp ts E):=by
 intro w rb lp cap i hp hi hn;have hlen:=hT.len;have hwb:=hp.lt;have hne:w.heap.size≠rb:=(by omega);have P0:Hid (RdAt (w.alloc (.cells #[.int .i64 0,.int .i64 0,.string ⟨#[]⟩,.string ⟨#[]⟩,.slice none 0 0,.slice none 0 0] 108)) rb lp cap ts i):=hp.next ((sqN _ _));have R0:Hid (Blk (w.alloc (.cells #[.int .i64 0,.int .i64 0,.string ⟨#[]⟩,.string ⟨#[]⟩,.slice none 0 0,.slice none 0 0] 108)) w.heap.size #[.int .i64 0,.int .i64 0,.string ⟨#[]⟩,.string ⟨#[]⟩,.slice none 0 0,.slice none 0 0] 108):=Blk.new;have O0:Hid (Off [rb] w (w.alloc (.cells #[.int .i64 0,.int .i64 0,.string ⟨#[]⟩,.string ⟨#[]⟩,.slice none 0 0,.slice none 0 0] 108))):=Off.of_below ((sqN _ _));have S0:Hid (w.heap.size<(w.alloc (.cells #[.int .i64 0,.int .i64 0,.string ⟨#[]⟩,.string ⟨#[]⟩,.slice none 0 0,.slice none 0 0] 108)).heap.size):=(by show _<_;rw [Zg];omega);have HS:=hid hE;have HG:=hid hGE;have C0:Hid (∀ w1,RdAt w1 rb lp cap ts i->Calls prog 123 #[.pointer (some ⟨rb,0,none⟩)] w1 (Rd ts rb lp cap w1 (pCmp ts E (i,false)).2 (ExK w1 (pCmp ts E (i,false)).1))):=λw1 h1=>hS w1 rb lp cap i h1 hi hn;have g1:=hG (i,false);have hge:i<=(pCmp ts E (i,false)).2.1:=g1.ge;have hle:(pCmp ts E (i,false)).2.1<=ts.length:=g1.le hi;have HLF:Hid (lfX (pCmp ts E (i,false)).1=true):=hlf _;obtain ⟨RES,hRES⟩:∃ RES,RES=pExp ts E (i,false):=⟨_,rfl⟩;have HR:Hid (RES=if isS ts (pCmp ts E (i,false)).2 [61] && ZaJ (pCmp ts E (i,false)).1 then (.mk 9 0 (bs []) (bs []) [(pCmp ts E (i,false)).1,(E (adv (pCmp ts E (i,false)).2)).1] [],(E (adv (pCmp ts E (i,false)).2)).2) else pCmp ts E (i,false)):=hRES;rw [<-hRES];generalize pCmp ts E (i,false)=EE at *;obtain ⟨x1,s1,b1⟩:=EE;simp only at hge hle;clear hE hGE hlf;clear hS hG g1 hp hRES;go_enter func113,ntmps113;go_wp2_with fail;refine (C0.out _ P0.out).mono ?_;rintro e w1 hr
 cases b1 with
 | true =>
  obtain rfl:=hr.bad rfl;refine ⟨rfl,?_⟩;exact hr.fail O0.out rfl (by rw [HR.out];simp [ZaA])
 | false =>
  obtain ⟨v,rfl,hp1,cs1,f1,rfl,hx1,nd1,rg1⟩:=hr.ok rfl;obtain ⟨Xk,Xn,Xt,Xm,Xp,Xa,Xb,Xq,Xc,Xd,rfl⟩:=hx1.shape;have K1:Bz w1 (w1.alloc (.cells #[.int .i64 Xk,.int .i64 Xn,.string Xt,.string Xm,.slice Xp Xa Xb,.slice Xq Xc Xd] 108)):=(sqN _ _);have P1:=hid (hp1.next K1);have O1:Hid (Off [rb] w (w1.alloc (.cells #[.int .i64 Xk,.int .i64 Xn,.string Xt,.string Xm,.slice Xp Xa Xb,.slice Xq Xc Xd] 108))):=(O0.out.trans hr.off).trans (Off.of_below K1);have R1:Hid (Blk (w1.alloc (.cells #[.int .i64 Xk,.int .i64 Xn,.string Xt,.string Xm,.slice Xp Xa Xb,.slice Xq Xc Xd] 108)) w.heap.size #[.int .i64 0,.int .i64 0,.string ⟨#[]⟩,.string ⟨#[]⟩,.slice none 0 0,.slice none 0 0] 108):=(R0.out.off hr.off hne).next K1;have N1:Hid (Blk (w1.alloc (.cells #[.int .i64 Xk,.int .i64 Xn,.string Xt,.string Xm,.slice Xp Xa Xb,.slice Xq Xc Xd] 108)) w1.heap.size #[.int .i64 Xk,.int .i64 Xn,.string Xt,.string Xm,.slice Xp Xa Xb,.slice Xq Xc Xd] 108):=Blk.new;have X1:=hid (OXT.keeps _ _ _ _ _ hx1 (Zu.below K1 hx1.lt));have hz1:(w1.alloc (.cells #[.int .i64 Xk,.int .i64 Xn,.string Xt,.string Xm,.slice Xp Xa Xb,.slice Xq Xc Xd] 108)).heap.size=w1.heap.size+1:=(by simp only [Zg]);have hsz0:(w.alloc (.cells #[.int .i64 0,.int .i64 0,.string ⟨#[]⟩,.string ⟨#[]⟩,.slice none 0 0,.slice none 0 0] 108)).heap.size=w.heap.size+1:=(by simp only [Zg]);have hw1:w.heap.size+1<=w1.heap.size:=(by rw [<-hsz0];exact hr.off.size)
  have XG:Hid (∀ a ∈ f1,w.heap.size+1<=a/\a<(w1.alloc (.cells #[.int .i64 Xk,.int .i64 Xn,.string Xt,.string Xm,.slice Xp Xa Xb,.slice Xq Xc Xd] 108)).heap.size/\a≠w1.heap.size):=λa ha=>by have:=rg1 a ha;omega
  have X1N:=hid nd1;have hrn:rb<w1.heap.size:=(by omega);obtain ⟨nb,hnb⟩:∃ nb,nb=w1.heap.size:=⟨_,rfl⟩;rw [<-hnb] at N1 XG hrn hw1;have HNB:=hid hnb.symm;have hwn:w.heap.size≠nb:=(by omega);have hnr:nb≠rb:=(by omega);have hnw:Hid (nb<(w1.alloc (.cells #[.int .i64 Xk,.int .i64 Xn,.string Xt,.string Xm,.slice Xp Xa Xb,.slice Xq Xc Xd] 108)).heap.size):=(by show _<_;omega);clear hr hp1 hx1 nd1 rg1 K1 hz1 hsz0 hnb;go_wp2_with fail;rw [HNB.out];generalize w1.alloc (.cells #[.int .i64 Xk,.int .i64 Xn,.string Xt,.string Xm,.slice Xp Xa Xb,.slice Xq Xc Xd] 108)=wa at *;obtain ⟨x,hx⟩:∃ x,x=x1:=⟨_,rfl⟩;obtain ⟨j,hj0⟩:∃ j,j=s1:=⟨_,rfl⟩;obtain ⟨Xf,hXf⟩:∃ Xf,Xf=f1:=⟨_,rfl⟩;rw [<-hx,<-hXf] at X1;rw [<-hj0] at P1 hge hle;rw [<-hXf] at X1N XG;have HLX:Hid (lfX x=true):=(by rw [hx];exact HLF.out);have HR1:Hid (RES=if isS ts (j,false) [61] && ZaJ x then (.mk 9 0 (bs []) (bs []) [x,(E (j+1,false)).1] [],(E (j+1,false)).2) else (x,(j,false))):=(by rw [hx,hj0];exact HR.out);have XN:=hid X1N;clear HR P0 R0 O0 S0 hx hj0 hXf X1N HLF;have P0:=P1;have O0:=O1;have R0:=R1;have N0:=N1;have X0:=X1;have XR0:=XG;clear P1 O1 R1 N1 X1 XG;have AH:Hid (∀ w1,RdAt w1 rb lp cap ts j->Calls prog 112 #[.pointer (some ⟨rb,0,none⟩),.int .i64 3,.string ⟨#[61]⟩] w1 λe w'=>e=.returned (.bool (hit ts j 3 [61]))/\Bz w1 w'):=λw1 h1=>ZdX w1 rb lp cap ts j 3 ⟨#[61]⟩ h1 hle hlen (by simp)
  cases hc:isS ts (j,false) [61] with
  | false =>
   rw [<-Zc3] at hc;rw [hc] at AH
   have HY:Hid (RES=(x,(j,false))):=by
    show _=_;rw [HR1.out,<-Zc3,hc]
    rfl
   clear HR1;go_wp2_with fail;refine (AH.out _ P0.out).mono ?_;rintro e w2 ⟨rfl,hb⟩;have P2:=hid (P0.out.next hb);have O2:=hid (O0.out.trans (Off.of_below hb));have N2:=hid (N0.out.next hb);have R2:=hid (R0.out.next hb);have X2:=hid (OXT.keeps _ _ _ _ _ X0.out (Zu.below hb X0.out.lt))
   have XR:Hid (∀ a ∈ Xf,w.heap.size+1<=a/\a<w2.heap.size/\a≠nb):=λa ha=>by have:=XR0.out a ha;have:=hb.size;omega
   clear hb X0 XR0 N0 R0 P0 O0;have a0:w2.cell? ⟨nb,0,none⟩=some (.int .i64 Xk):=N2.out.cell 0 _ rfl;have a1:w2.cell? ⟨nb,1,none⟩=some (.int .i64 Xn):=N2.out.cell 1 _ rfl;have a2:w2.cell? ⟨nb,2,none⟩=some (.string Xt):=N2.out.cell 2 _ rfl;have a3:w2.cell? ⟨nb,3,none⟩=some (.string Xm):=N2.out.cell 3 _ rfl;have a4:w2.cell? ⟨nb,4,none⟩=some (.slice Xp Xa Xb):=N2.out.cell 4 _ rfl;have a5:w2.cell? ⟨nb,5,none⟩=some (.slice Xq Xc Xd):=N2.out.cell 5 _ rfl;have cR0:w2.cell? ⟨w.heap.size,0,none⟩=some (.int .i64 0):=R2.out.cell 0 _ rfl;have zR0:=R2.out.frozen 0;have cR1:w2.cell? ⟨w.heap.size,1,none⟩=some (.int .i64 0):=R2.out.cell 1 _ rfl;have zR1:=R2.out.frozen 1;have cR2:w2.cell? ⟨w.heap.size,2,none⟩=some (.string ⟨#[]⟩):=R2.out.cell 2 _ rfl;have zR2:=R2.out.frozen 2;have cR3:w2.cell? ⟨w.heap.size,3,none⟩=some (.string ⟨#[]⟩):=R2.out.cell 3 _ rfl;have zR3:=R2.out.frozen 3;have cR4:w2.cell? ⟨w.heap.size,4,none⟩=some (.slice none 0 0):=R2.out.cell 4 _ rfl;have zR4:=R2.out.frozen 4;have cR5:w2.cell? ⟨w.heap.size,5,none⟩=some (.slice none 0 0):=R2.out.cell 5 _ rfl;have zR5:=R2.out.frozen 5;go_wp2_with fail;have hon:=Zo (b:=w.heap.size) (w:=w2) (c0:=.int .i64 Xk) (c1:=.int .i64 Xn) (c2:=.string Xt) (c3:=.string Xm) (c4:=.slice Xp Xa Xb) (c5:=.slice Xq Xc Xd);have hbk:=Zx R2.out (.int .i64 Xk) (.int .i64 Xn) (.string Xt) (.string Xm) (.slice Xp Xa Xb) (.slice Xq Xc Xd);refine bodyPost_ret (v:=.agg #[.int .i64 Xk,.int .i64 Xn,.string Xt,.string Xm,.slice Xp Xa Xb,.slice Xq Xc Xd]) (results_cell_row (by rfl) _ _ w.heap.size 108 _ (0,0) _ (by rfl) hbk underlying108 rfl (by kernel_rfl)) rfl ?_;rw [HY.out];exact ⟨O2.out.only hon (sqR _),λ_=>⟨_,rfl,P2.out.only hon hwb,_,Xf,rfl,OXT.only (X2.out) hon (λha=>by have:=XR.out _ ha;omega),XN.out,λa ha=>⟨by have:=XR.out a ha;omega,by have:=XR.out a ha;have:=hon.size;omega⟩⟩,λe=>(by cases e)⟩
  | true =>
   obtain ⟨hlt,-⟩:=ZM hc;simp only at hlt;have hcS:=hc;rw [<-Zc3] at hc;rw [hc] at AH
   cases hq:ZaJ x with
   | false =>
    have HY:Hid (RES=(x,(j,false))):=by
     show _=_;rw [HR1.out,hq];simp
    clear HR1;go_wp2_with fail;refine (AH.out _ P0.out).mono ?_;rintro e w5 ⟨rfl,hb⟩;have P5:=hid (P0.out.next hb);have O5:=hid (O0.out.trans (Off.of_below hb));have N5:=hid (N0.out.next hb);have R5:=hid (R0.out.next hb);have X5:=hid (OXT.keeps _ _ _ _ _ X0.out (Zu.below hb X0.out.lt))
    have XR5:Hid (∀ a ∈ Xf,w.heap.size+1<=a/\a<w5.heap.size/\a≠nb):=λa ha=>by have:=XR0.out a ha;have:=hb.size;omega
    clear hb X0 XR0 N0 R0 P0 O0;have a0:w5.cell? ⟨nb,0,none⟩=some (.int .i64 Xk):=N5.out.cell 0 _ rfl;have a1:w5.cell? ⟨nb,1,none⟩=some (.int .i64 Xn):=N5.out.cell 1 _ rfl;have a2:w5.cell? ⟨nb,2,none⟩=some (.string Xt):=N5.out.cell 2 _ rfl;have a3:w5.cell? ⟨nb,3,none⟩=some (.string Xm):=N5.out.cell 3 _ rfl;have a4:w5.cell? ⟨nb,4,none⟩=some (.slice Xp Xa Xb):=N5.out.cell 4 _ rfl;have a5:w5.cell? ⟨nb,5,none⟩=some (.slice Xq Xc Xd):=N5.out.cell 5 _ rfl;have IP:=hid (ZcK X5.out HLX.out);rw [hq] at IP;go_wp2_with fail;refine IP.out.mono ?_;rintro e w2 ⟨rfl,hb⟩;clear a0 a1 a2 a3 a4 a5 IP;have P2:=hid (P5.out.next hb);have O2:=hid (O5.out.trans (Off.of_below hb));have N2:=hid (N5.out.next hb);have R2:=hid (R5.out.next hb);have X2:=hid (OXT.keeps _ _ _ _ _ X5.out (Zu.below hb X5.out.lt))
    have XR:Hid (∀ a ∈ Xf,w.heap.size+1<=a/\a<w2.heap.size/\a≠nb):=λa ha=>by have:=XR5.out a ha;have:=hb.size;omega
    clear hb X5 XR5 N5 R5 P5 O5;have a0:w2.cell? ⟨nb,0,none⟩=some (.int .i64 Xk):=N2.out.cell 0 _ rfl;have a1:w2.cell? ⟨nb,1,none⟩=some (.int .i64 Xn):=N2.out.cell 1 _ rfl;have a2:w2.cell? ⟨nb,2,none⟩=some (.string Xt):=N2.out.cell 2 _ rfl;have a3:w2.cell? ⟨nb,3,none⟩=some (.string Xm):=N2.out.cell 3 _ rfl;have a4:w2.cell? ⟨nb,4,none⟩=some (.slice Xp Xa Xb):=N2.out.cell 4 _ rfl;have a5:w2.cell? ⟨nb,5,none⟩=some (.slice Xq Xc Xd):=N2.out.cell 5 _ rfl;have cR0:w2.cell? ⟨w.heap.size,0,none⟩=some (.int .i64 0):=R2.out.cell 0 _ rfl;have zR0:=R2.out.frozen 0;have cR1:w2.cell? ⟨w.heap.size,1,none⟩=some (.int .i64 0):=R2.out.cell 1 _ rfl;have zR1:=R2.out.frozen 1;have cR2:w2.cell? ⟨w.heap.size,2,none⟩=some (.string ⟨#[]⟩):=R2.out.cell 2 _ rfl;have zR2:=R2.out.frozen 2;have cR3:w2.cell? ⟨w.heap.size,3,none⟩=some (.string ⟨#[]⟩):=R2.out.cell 3 _ rfl;have zR3:=R2.out.frozen 3;have cR4:w2.cell? ⟨w.heap.size,4,none⟩=some (.slice none 0 0):=R2.out.cell 4 _ rfl;have zR4:=R2.out.frozen 4;have cR5:w2.cell? ⟨w.heap.size,5,none⟩=some (.slice none 0 0):=R2.out.cell 5 _ rfl;have zR5:=R2.out.frozen 5;go_wp2_with fail;have hon:=Zo (b:=w.heap.size) (w:=w2) (c0:=.int .i64 Xk) (c1:=.int .i64 Xn) (c2:=.string Xt) (c3:=.string Xm) (c4:=.slice Xp Xa Xb) (c5:=.slice Xq Xc Xd);have hbk:=Zx R2.out (.int .i64 Xk) (.int .i64 Xn) (.string Xt) (.string Xm) (.slice Xp Xa Xb) (.slice Xq Xc Xd);refine bodyPost_ret (v:=.agg #[.int .i64 Xk,.int .i64 Xn,.string Xt,.string Xm,.slice Xp Xa Xb,.slice Xq Xc Xd]) (results_cell_row (by rfl) _ _ w.heap.size 108 _ (0,0) _ (by rfl) hbk underlying108 rfl (by kernel_rfl)) rfl ?_;rw [HY.out];exact ⟨O2.out.only hon (sqR _),λ_=>⟨_,rfl,P2.out.only hon hwb,_,Xf,rfl,OXT.only (X2.out) hon (λha=>by have:=XR.out _ ha;omega),XN.out,λa ha=>⟨by have:=XR.out a ha;omega,by have:=XR.out a ha;have:=hon.size;omega⟩⟩,λe=>(by cases e)⟩
   | true =>
    have g2:=HG.out (j+1,false);have hge2:j+1<=(E (j+1,false)).2.1:=g2.ge;have hle2:(E (j+1,false)).2.1<=ts.length:=g2.le hlt
    have HY:Hid (RES=(.mk 9 0 (bs []) (bs []) [x,(E (j+1,false)).1] [],(E (j+1,false)).2)):=by
     show _=_;rw [HR1.out,hq,hcS]
     rfl
    have CS:Hid (∀ w1,RdAt w1 rb lp cap ts (j+1)->Calls prog 113 #[.pointer (some ⟨rb,0,none⟩)] w1 (Rd ts rb lp cap w1 (E (j+1,false)).2 (ExK w1 (E (j+1,false)).1))):=λw1 h1=>HS.out w1 rb lp cap (j+1) h1 hlt (by omega);generalize E (j+1,false)=E2 at *;obtain ⟨y,j2,b2⟩:=E2;simp only at hge2 hle2;have NO:Hid (∀ w1,RdAt w1 rb lp cap ts j->Calls prog 70 #[.pointer (some ⟨rb,0,none⟩),.slice (some ⟨w1.heap.size,0,none⟩) 1 1] (w1.alloc (.cells #[.string ⟨#[61]⟩] 9)) (Rd ts rb lp cap w1 (takeS ts (j,false) [61]) λv _=>v=.tuple #[])):=λw1 h1=>ZW w1 rb lp cap ts j ⟨#[61]⟩ h1 hle hlen (by simp);have HTS:takeS ts (j,false) [61]=(j+1,false):=(by unfold takeS;rw [hcS];rfl);rw [HTS] at NO;clear HR1 g2 HTS;go_wp2_with fail;refine (AH.out _ P0.out).mono ?_;rintro e w5 ⟨rfl,hb⟩;have P5:=hid (P0.out.next hb);have O5:=hid (O0.out.trans (Off.of_below hb));have N5:=hid (N0.out.next hb);have R5:=hid (R0.out.next hb);have X5:=hid (OXT.keeps _ _ _ _ _ X0.out (Zu.below hb X0.out.lt))
    have XR5:Hid (∀ a ∈ Xf,w.heap.size+1<=a/\a<w5.heap.size/\a≠nb):=λa ha=>by have:=XR0.out a ha;have:=hb.size;omega
    clear hb X0 XR0 N0 R0 P0 O0;have a0:w5.cell? ⟨nb,0,none⟩=some (.int .i64 Xk):=N5.out.cell 0 _ rfl;have a1:w5.cell? ⟨nb,1,none⟩=some (.int .i64 Xn):=N5.out.cell 1 _ rfl;have a2:w5.cell? ⟨nb,2,none⟩=some (.string Xt):=N5.out.cell 2 _ rfl;have a3:w5.cell? ⟨nb,3,none⟩=some (.string Xm):=N5.out.cell 3 _ rfl;have a4:w5.cell? ⟨nb,4,none⟩=some (.slice Xp Xa Xb):=N5.out.cell 4 _ rfl;have a5:w5.cell? ⟨nb,5,none⟩=some (.slice Xq Xc Xd):=N5.out.cell 5 _ rfl;have IP:=hid (ZcK X5.out HLX.out);rw [hq] at IP;go_wp2_with fail;refine IP.out.mono ?_;rintro e w6 ⟨rfl,hb⟩;clear a0 a1 a2 a3 a4 a5 IP;have P6:=hid (P5.out.next hb);have O6:=hid (O5.out.trans (Off.of_below hb));have N6:=hid (N5.out.next hb);have R6:=hid (R5.out.next hb);have X6:=hid (OXT.keeps _ _ _ _ _ X5.out (Zu.below hb X5.out.lt))
    have XR6:Hid (∀ a ∈ Xf,w.heap.size+1<=a/\a<w6.heap.size/\a≠nb):=λa ha=>by have:=XR5.out a ha;have:=hb.size;omega
    clear hb X5 XR5 N5 R5 P5 O5;go_wp2_with fail;refine (NO.out w6 P6.out).mono ?_;rintro e w2 hr;obtain ⟨v,rfl,hp2,rfl⟩:=hr.ok rfl;have ho2:=hr.off;have P2:=hid hp2;have O2:=hid (O6.out.trans ho2);have N2:=hid (N6.out.off ho2 hnr);have R2:=hid (R6.out.off ho2 hne);have X2:=hid (X6.out.off ho2 (λa ha=>by have:=(XR6.out a ha).1;omega))
    have XR:Hid (∀ a ∈ Xf,w.heap.size+1<=a/\a<w2.heap.size/\a≠nb):=λa ha=>by have:=XR6.out a ha;have:=ho2.size;omega
    clear hr hp2 ho2 X6 XR6 N6 R6 P6 O6 NO;have S2n:Hid (nb<w2.heap.size/\w.heap.size+1<=nb):=⟨N2.out.lt,hw1⟩;go_wp2_with fail;have a0:w2.cell? ⟨nb,0,none⟩=some (.int .i64 Xk):=N2.out.cell 0 _ rfl;have a1:w2.cell? ⟨nb,1,none⟩=some (.int .i64 Xn):=N2.out.cell 1 _ rfl;have a2:w2.cell? ⟨nb,2,none⟩=some (.string Xt):=N2.out.cell 2 _ rfl;have a3:w2.cell? ⟨nb,3,none⟩=some (.string Xm):=N2.out.cell 3 _ rfl;have a4:w2.cell? ⟨nb,4,none⟩=some (.slice Xp Xa Xb):=N2.out.cell 4 _ rfl;have a5:w2.cell? ⟨nb,5,none⟩=some (.slice Xq Xc Xd):=N2.out.cell 5 _ rfl;refine wp_region_held_drew (S:=λ_=>True) (by kernel_rfl) trivial (λhHeld=>?_);refine tkP 1 (v:=.pointer (some ⟨rb,0,none⟩)) rfl (by rfl) (λw' hS=>by go_simp) hHeld ?_
    try simp only [sqP]
    refine twoH 0 2 rfl rfl (λK hK=>?_) (λK hK=>?_)
    . go_simp
      refine hK.out _ _ trivial (λ_=>?_);clear hK K
      try simp only [sqP]
      refine oneH 2 rfl (λK hK=>?_)
      go_simp
      go_at_call 113
      refine (CS.out _ P2.out.dr).mono ?_;rintro e w3 hr
      cases b2 with
      | true =>
       obtain rfl:=hr.bad rfl;refine ⟨rfl,?_⟩;exact hr.fail O2.out.drO rfl (by rw [HY.out])
      | false =>
       obtain ⟨v,rfl,hp3,cs3,Yf,rfl,hx3,nd3,rg3⟩:=hr.ok rfl;obtain ⟨Yk,Yn,Yt,Ym,Yp,Ya,Yb,Yq,Yc,Yd,rfl⟩:=hx3.shape;have ho3:Off [rb] w2 w3:=Off.drI hr.off;have N3:=hid (N2.out.off ho3 hnr);have X3:OXT w3 [.int .i64 Xk,.int .i64 Xn,.string Xt,.string Xm,.slice Xp Xa Xb,.slice Xq Xc Xd] x Xf:=X2.out.off ho3 (λa ha=>by have:=(XR.out a ha).1;omega);have Y3:∀ a ∈ Yf,w2.heap.size<=a/\a<w3.heap.size:=rg3;have K4:Bz w3 (w3.alloc (.cells #[.int .i64 Xk,.int .i64 Xn,.string Xt,.string Xm,.slice Xp Xa Xb,.slice Xq Xc Xd,.int .i64 Yk,.int .i64 Yn,.string Yt,.string Ym,.slice Yp Ya Yb,.slice Yq Yc Yd] 108)):=(sqN _ _);have P4:=hid (RdAt.next hp3 K4);have O4:Hid (Off [rb] w (w3.alloc (.cells #[.int .i64 Xk,.int .i64 Xn,.string Xt,.string Xm,.slice Xp Xa Xb,.slice Xq Xc Xd,.int .i64 Yk,.int .i64 Yn,.string Yt,.string Ym,.slice Yp Ya Yb,.slice Yq Yc Yd] 108))):=(O2.out.trans ho3).trans (Off.of_below K4);have R4:Hid (Blk (w3.alloc (.cells #[.int .i64 Xk,.int .i64 Xn,.string Xt,.string Xm,.slice Xp Xa Xb,.slice Xq Xc Xd,.int .i64 Yk,.int .i64 Yn,.string Yt,.string Ym,.slice Yp Ya Yb,.slice Yq Yc Yd] 108)) w.heap.size #[.int .i64 0,.int .i64 0,.string ⟨#[]⟩,.string ⟨#[]⟩,.slice none 0 0,.slice none 0 0] 108):=(R2.out.off ho3 hne).next K4;have XT:=OXT.mk (k:=9) (n:=0) (t:=bs []) (m:=bs []) (f2:=[]) (Zi (by omega) (by omega)) (Zi (by omega) (by omega)) ZA ZA (Zy.two X3 hx3) Zy.empty;rw [List.append_nil] at XT;have hs3:=ho3.size
       have V4:Hid ((w3.heap.size :: (Xf ++ Yf)).Nodup/\∀ a ∈ w3.heap.size :: (Xf ++ Yf),w.heap.size+1<=a/\a<(w3.alloc (.cells #[.int .i64 Xk,.int .i64 Xn,.string Xt,.string Xm,.slice Xp Xa Xb,.slice Xq Xc Xd,.int .i64 Yk,.int .i64 Yn,.string Yt,.string Ym,.slice Yp Ya Yb,.slice Yq Yc Yd] 108)).heap.size):=by
        refine ⟨?_,λa ha=>?_⟩
        . rw [List.nodup_cons,List.nodup_append]
          refine ⟨λh=>?_,XN.out,nd3,λa ha b hb e=>?_⟩
          . rcases List.mem_append.1 h with h | h
            . have:=XR.out _ h;omega
            . have:=Y3 _ h;omega
          . subst e
            have:=XR.out _ ha;have:=Y3 _ hb;omega
        . rw [Zg]
          rcases List.mem_cons.1 ha with rfl | h
          . have:=S2n.out;omega
          . rcases List.mem_append.1 h with h | h
            . have:=XR.out _ h;omega
            . have:=Y3 _ h;have:=S2n.out;omega
       have T4:=hid XT;have cN0:(w3.alloc (.cells #[.int .i64 Xk,.int .i64 Xn,.string Xt,.string Xm,.slice Xp Xa Xb,.slice Xq Xc Xd,.int .i64 Yk,.int .i64 Yn,.string Yt,.string Ym,.slice Yp Ya Yb,.slice Yq Yc Yd] 108)).cell? ⟨w.heap.size,0,none⟩=some (.int .i64 0):=R4.out.cell 0 _ rfl;have zN0:=R4.out.frozen 0;have cN1:(w3.alloc (.cells #[.int .i64 Xk,.int .i64 Xn,.string Xt,.string Xm,.slice Xp Xa Xb,.slice Xq Xc Xd,.int .i64 Yk,.int .i64 Yn,.string Yt,.string Ym,.slice Yp Ya Yb,.slice Yq Yc Yd] 108)).cell? ⟨w.heap.size,1,none⟩=some (.int .i64 0):=R4.out.cell 1 _ rfl;have zN1:=R4.out.frozen 1;have cN2:(w3.alloc (.cells #[.int .i64 Xk,.int .i64 Xn,.string Xt,.string Xm,.slice Xp Xa Xb,.slice Xq Xc Xd,.int .i64 Yk,.int .i64 Yn,.string Yt,.string Ym,.slice Yp Ya Yb,.slice Yq Yc Yd] 108)).cell? ⟨w.heap.size,2,none⟩=some (.string ⟨#[]⟩):=R4.out.cell 2 _ rfl;have zN2:=R4.out.frozen 2;have cN3:(w3.alloc (.cells #[.int .i64 Xk,.int .i64 Xn,.string Xt,.string Xm,.slice Xp Xa Xb,.slice Xq Xc Xd,.int .i64 Yk,.int .i64 Yn,.string Yt,.string Ym,.slice Yp Ya Yb,.slice Yq Yc Yd] 108)).cell? ⟨w.heap.size,3,none⟩=some (.string ⟨#[]⟩):=R4.out.cell 3 _ rfl;have zN3:=R4.out.frozen 3;have cN4:(w3.alloc (.cells #[.int .i64 Xk,.int .i64 Xn,.string Xt,.string Xm,.slice Xp Xa Xb,.slice Xq Xc Xd,.int .i64 Yk,.int .i64 Yn,.string Yt,.string Ym,.slice Yp Ya Yb,.slice Yq Yc Yd] 108)).cell? ⟨w.heap.size,4,none⟩=some (.slice none 0 0):=R4.out.cell 4 _ rfl;have zN4:=R4.out.frozen 4;have cN5:(w3.alloc (.cells #[.int .i64 Xk,.int .i64 Xn,.string Xt,.string Xm,.slice Xp Xa Xb,.slice Xq Xc Xd,.int .i64 Yk,.int .i64 Yn,.string Yt,.string Ym,.slice Yp Ya Yb,.slice Yq Yc Yd] 108)).cell? ⟨w.heap.size,5,none⟩=some (.slice none 0 0):=R4.out.cell 5 _ rfl;have zN5:=R4.out.frozen 5;clear hr hp3 hx3 nd3 rg3 ho3 X3 Y3 K4 XT hs3;refine hK.out _ _ trivial (λ_=>?_);clear hK K
       try simp only [sqP]
       refine oneH 3 rfl (λK hK=>?_)
       go_simp
       refine hK.out _ _ trivial (λ_=>?_);clear hK K
       try simp only [sqP]
       refine oneH 4 rfl (λK hK=>?_)
       go_simp
       refine hK.out _ _ trivial (λ_=>?_);clear hK K
       try simp only [sqP]
       refine oneH 5 rfl (λK hK=>?_)
       go_simp
       refine hK.out _ _ trivial (λ_=>?_);clear hK K;refine wpAnyH_done (by kernel_rfl) ?_ _;go_wp2_with fail;have hon:=Zo (b:=w.heap.size) (w:=(w3.alloc (.cells #[.int .i64 Xk,.int .i64 Xn,.string Xt,.string Xm,.slice Xp Xa Xb,.slice Xq Xc Xd,.int .i64 Yk,.int .i64 Yn,.string Yt,.string Ym,.slice Yp Ya Yb,.slice Yq Yc Yd] 108))) (c0:=.int .i64 9) (c1:=.int .i64 0) (c2:=.string ⟨#[]⟩) (c3:=.string ⟨#[]⟩) (c4:=.slice (some ⟨w3.heap.size,0,none⟩) 2 2) (c5:=.slice none 0 0);have hbk:=Zx R4.out (.int .i64 9) (.int .i64 0) (.string ⟨#[]⟩) (.string ⟨#[]⟩) (.slice (some ⟨w3.heap.size,0,none⟩) 2 2) (.slice none 0 0);refine bodyPost_ret (v:=.agg #[.int .i64 9,.int .i64 0,.string ⟨#[]⟩,.string ⟨#[]⟩,.slice (some ⟨w3.heap.size,0,none⟩) 2 2,.slice none 0 0]) (results_cell_row (by rfl) _ _ w.heap.size 108 _ (0,0) _ (by rfl) hbk underlying108 rfl (by kernel_rfl)) rfl ?_;rw [HY.out];exact ⟨O4.out.only hon (sqR _),λ_=>⟨_,rfl,P4.out.only hon hwb,_,(w3.heap.size :: (Xf ++ Yf)),rfl,OXT.only (T4.out) hon (λha=>by have:=V4.out.2 _ ha;omega),V4.out.1,λa ha=>⟨by have:=V4.out.2 a ha;omega,by have:=V4.out.2 a ha;have:=hon.size;omega⟩⟩,λe=>(by cases e)⟩
    . go_simp
      go_at_call 113
      refine (CS.out _ P2.out.dr).mono ?_;rintro e w3 hr
      cases b2 with
      | true =>
       obtain rfl:=hr.bad rfl;refine ⟨rfl,?_⟩;exact hr.fail O2.out.drO rfl (by rw [HY.out])
      | false =>
       obtain ⟨v,rfl,hp3,cs3,Yf,rfl,hx3,nd3,rg3⟩:=hr.ok rfl;obtain ⟨Yk,Yn,Yt,Ym,Yp,Ya,Yb,Yq,Yc,Yd,rfl⟩:=hx3.shape;have ho3:Off [rb] w2 w3:=Off.drI hr.off;have N3:=hid (N2.out.off ho3 hnr);have X3:OXT w3 [.int .i64 Xk,.int .i64 Xn,.string Xt,.string Xm,.slice Xp Xa Xb,.slice Xq Xc Xd] x Xf:=X2.out.off ho3 (λa ha=>by have:=(XR.out a ha).1;omega);have Y3:∀ a ∈ Yf,w2.heap.size<=a/\a<w3.heap.size:=rg3;have K4:Bz w3 (w3.alloc (.cells #[.int .i64 Xk,.int .i64 Xn,.string Xt,.string Xm,.slice Xp Xa Xb,.slice Xq Xc Xd,.int .i64 Yk,.int .i64 Yn,.string Yt,.string Ym,.slice Yp Ya Yb,.slice Yq Yc Yd] 108)):=(sqN _ _);have P4:=hid (RdAt.next hp3 K4);have O4:Hid (Off [rb] w (w3.alloc (.cells #[.int .i64 Xk,.int .i64 Xn,.string Xt,.string Xm,.slice Xp Xa Xb,.slice Xq Xc Xd,.int .i64 Yk,.int .i64 Yn,.string Yt,.string Ym,.slice Yp Ya Yb,.slice Yq Yc Yd] 108))):=(O2.out.trans ho3).trans (Off.of_below K4);have R4:Hid (Blk (w3.alloc (.cells #[.int .i64 Xk,.int .i64 Xn,.string Xt,.string Xm,.slice Xp Xa Xb,.slice Xq Xc Xd,.int .i64 Yk,.int .i64 Yn,.string Yt,.string Ym,.slice Yp Ya Yb,.slice Yq Yc Yd] 108)) w.heap.size #[.int .i64 0,.int .i64 0,.string ⟨#[]⟩,.string ⟨#[]⟩,.slice none 0 0,.slice none 0 0] 108):=(R2.out.off ho3 hne).next K4;have XT:=OXT.mk (k:=9) (n:=0) (t:=bs []) (m:=bs []) (f2:=[]) (Zi (by omega) (by omega)) (Zi (by omega) (by omega)) ZA ZA (Zy.two X3 hx3) Zy.empty;rw [List.append_nil] at XT;have hs3:=ho3.size
       have V4:Hid ((w3.heap.size :: (Xf ++ Yf)).Nodup/\∀ a ∈ w3.heap.size :: (Xf ++ Yf),w.heap.size+1<=a/\a<(w3.alloc (.cells #[.int .i64 Xk,.int .i64 Xn,.string Xt,.string Xm,.slice Xp Xa Xb,.slice Xq Xc Xd,.int .i64 Yk,.int .i64 Yn,.string Yt,.string Ym,.slice Yp Ya Yb,.slice Yq Yc Yd] 108)).heap.size):=by
        refine ⟨?_,λa ha=>?_⟩
        . rw [List.nodup_cons,List.nodup_append]
          refine ⟨λh=>?_,XN.out,nd3,λa ha b hb e=>?_⟩
          . rcases List.mem_append.1 h with h | h
            . have:=XR.out _ h;omega
            . have:=Y3 _ h;omega
          . subst e
            have:=XR.out _ ha;have:=Y3 _ hb;omega
        . rw [Zg]
          rcases List.mem_cons.1 ha with rfl | h
          . have:=S2n.out;omega
          . rcases List.mem_append.1 h with h | h
            . have:=XR.out _ h;omega
            . have:=Y3 _ h;have:=S2n.out;omega
       have T4:=hid XT;have cN0:(w3.alloc (.cells #[.int .i64 Xk,.int .i64 Xn,.string Xt,.string Xm,.slice Xp Xa Xb,.slice Xq Xc Xd,.int .i64 Yk,.int .i64 Yn,.string Yt,.string Ym,.slice Yp Ya Yb,.slice Yq Yc Yd] 108)).cell? ⟨w.heap.size,0,none⟩=some (.int .i64 0):=R4.out.cell 0 _ rfl;have zN0:=R4.out.frozen 0;have cN1:(w3.alloc (.cells #[.int .i64 Xk,.int .i64 Xn,.string Xt,.string Xm,.slice Xp Xa Xb,.slice Xq Xc Xd,.int .i64 Yk,.int .i64 Yn,.string Yt,.string Ym,.slice Yp Ya Yb,.slice Yq Yc Yd] 108)).cell? ⟨w.heap.size,1,none⟩=some (.int .i64 0):=R4.out.cell 1 _ rfl;have zN1:=R4.out.frozen 1;have cN2:(w3.alloc (.cells #[.int .i64 Xk,.int .i64 Xn,.string Xt,.string Xm,.slice Xp Xa Xb,.slice Xq Xc Xd,.int .i64 Yk,.int .i64 Yn,.string Yt,.string Ym,.slice Yp Ya Yb,.slice Yq Yc Yd] 108)).cell? ⟨w.heap.size,2,none⟩=some (.string ⟨#[]⟩):=R4.out.cell 2 _ rfl;have zN2:=R4.out.frozen 2;have cN3:(w3.alloc (.cells #[.int .i64 Xk,.int .i64 Xn,.string Xt,.string Xm,.slice Xp Xa Xb,.slice Xq Xc Xd,.int .i64 Yk,.int .i64 Yn,.string Yt,.string Ym,.slice Yp Ya Yb,.slice Yq Yc Yd] 108)).cell? ⟨w.heap.size,3,none⟩=some (.string ⟨#[]⟩):=R4.out.cell 3 _ rfl;have zN3:=R4.out.frozen 3;have cN4:(w3.alloc (.cells #[.int .i64 Xk,.int .i64 Xn,.string Xt,.string Xm,.slice Xp Xa Xb,.slice Xq Xc Xd,.int .i64 Yk,.int .i64 Yn,.string Yt,.string Ym,.slice Yp Ya Yb,.slice Yq Yc Yd] 108)).cell? ⟨w.heap.size,4,none⟩=some (.slice none 0 0):=R4.out.cell 4 _ rfl;have zN4:=R4.out.frozen 4;have cN5:(w3.alloc (.cells #[.int .i64 Xk,.int .i64 Xn,.string Xt,.string Xm,.slice Xp Xa Xb,.slice Xq Xc Xd,.int .i64 Yk,.int .i64 Yn,.string Yt,.string Ym,.slice Yp Ya Yb,.slice Yq Yc Yd] 108)).cell? ⟨w.heap.size,5,none⟩=some (.slice none 0 0):=R4.out.cell 5 _ rfl;have zN5:=R4.out.frozen 5;have b0:w3.cell? ⟨nb,0,none⟩=some (.int .i64 Xk):=N3.out.cell 0 _ rfl;have b1:w3.cell? ⟨nb,1,none⟩=some (.int .i64 Xn):=N3.out.cell 1 _ rfl;have b2:w3.cell? ⟨nb,2,none⟩=some (.string Xt):=N3.out.cell 2 _ rfl;have b3:w3.cell? ⟨nb,3,none⟩=some (.string Xm):=N3.out.cell 3 _ rfl;have b4:w3.cell? ⟨nb,4,none⟩=some (.slice Xp Xa Xb):=N3.out.cell 4 _ rfl;have b5:w3.cell? ⟨nb,5,none⟩=some (.slice Xq Xc Xd):=N3.out.cell 5 _ rfl;clear hr hp3 hx3 nd3 rg3 ho3 X3 Y3 K4 XT hs3;refine hK.out _ _ trivial (λ_=>?_);clear hK K
       try simp only [sqP]
       refine oneH 0 rfl (λK hK=>?_)
       go_simp
       refine hK.out _ _ trivial (λ_=>?_);clear hK K
       try simp only [sqP]
       refine oneH 3 rfl (λK hK=>?_)
       go_simp
       refine hK.out _ _ trivial (λ_=>?_);clear hK K
       try simp only [sqP]
       refine oneH 4 rfl (λK hK=>?_)
       go_simp
       refine hK.out _ _ trivial (λ_=>?_);clear hK K
       try simp only [sqP]
       refine oneH 5 rfl (λK hK=>?_)
       go_simp
       refine hK.out _ _ trivial (λ_=>?_);clear hK K;refine wpAnyH_done (by kernel_rfl) ?_ _;go_wp2_with fail;have hon:=Zo (b:=w.heap.size) (w:=(w3.alloc (.cells #[.int .i64 Xk,.int .i64 Xn,.string Xt,.string Xm,.slice Xp Xa Xb,.slice Xq Xc Xd,.int .i64 Yk,.int .i64 Yn,.string Yt,.string Ym,.slice Yp Ya Yb,.slice Yq Yc Yd] 108))) (c0:=.int .i64 9) (c1:=.int .i64 0) (c2:=.string ⟨#[]⟩) (c3:=.string ⟨#[]⟩) (c4:=.slice (some ⟨w3.heap.size,0,none⟩) 2 2) (c5:=.slice none 0 0);have hbk:=Zx R4.out (.int .i64 9) (.int .i64 0) (.string ⟨#[]⟩) (.string ⟨#[]⟩) (.slice (some ⟨w3.heap.size,0,none⟩) 2 2) (.slice none 0 0);refine bodyPost_ret (v:=.agg #[.int .i64 9,.int .i64 0,.string ⟨#[]⟩,.string ⟨#[]⟩,.slice (some ⟨w3.heap.size,0,none⟩) 2 2,.slice none 0 0]) (results_cell_row (by rfl) _ _ w.heap.size 108 _ (0,0) _ (by rfl) hbk underlying108 rfl (by kernel_rfl)) rfl ?_;rw [HY.out];exact ⟨O4.out.only hon (sqR _),λ_=>⟨_,rfl,P4.out.only hon hwb,_,(w3.heap.size :: (Xf ++ Yf)),rfl,OXT.only (T4.out) hon (λha=>by have:=V4.out.2 _ ha;omega),V4.out.1,λa ha=>⟨by have:=V4.out.2 a ha;omega,by have:=V4.out.2 a ha;have:=hon.size;omega⟩⟩,λe=>(by cases e)⟩
end
end Go.Proofs.YtacioihbhkcdcaaGreatDoor
