/-
  PImplO PImplP
-/
import Derived.Test.YtacioihbhkcdcaaGreatDoorP18
import Derived.Test.YtacioihbhkcdcaaGreatDoorP21
set_option maxHeartbeats 16000000
set_option linter.unusedVariables false
set_option maxRecDepth 100000
namespace Go.Proofs.YtacioihbhkcdcaaGreatDoor
open Go.ChangeShapes Go.WideShapes Go.ChangeAt Go.RowKit
section
open Go.Proofs.Tryz
def ClK (w:World) (c:Cl) (v:Value) (w':World):Prop:=∃ cs fp,v=.agg cs.toArray/\OCT w' cs c fp/\fp.Nodup/\∀ a ∈ fp,w.heap.size<=a/\a<w'.heap.size
def PIcl (ts:List Tok) (F:FuncId) (n:Nat) (C:St->Cl × St):Prop :=
 ∀ (w:World) (rb:Nat) (lp:Option Addr) (cap i:Nat),RdAt w rb lp cap ts i->i<=ts.length->ts.length - i<n ->
  Calls prog F #[.pointer (some ⟨rb,0,none⟩)] w (Rd ts rb lp cap w (C (i,false)).2 (ClK w (C (i,false)).1))
theorem Ze1 {ts:List Tok} (hT:TsOk ts) {n:Nat} {E:St->Ex × St} (hE:PIe ts 113 n E) (hG:ZV ts E) (hB:PIs ts 76 n (λst=>pBody ts E (takeS ts st [45,62]))):PIcl ts 167 n (pClause ts E):=by
 intro w rb lp cap i hp hi hn;have hlen:=hT.len;have hwb:=hp.lt;have hne:w.heap.size≠rb:=(by omega);have P0:Hid (RdAt (w.alloc (.cells #[.slice none 0 0,.slice none 0 0] 64)) rb lp cap ts i):=hp.next ((sqN _ _));have R0:Hid (Blk (w.alloc (.cells #[.slice none 0 0,.slice none 0 0] 64)) w.heap.size #[.slice none 0 0,.slice none 0 0] 64):=Blk.new;have O0:Hid (Off [rb] w (w.alloc (.cells #[.slice none 0 0,.slice none 0 0] 64))):=Off.of_below ((sqN _ _));have C0:Hid (∀ w1,RdAt w1 rb lp cap ts i->Calls prog 113 #[.pointer (some ⟨rb,0,none⟩)] w1 (Rd ts rb lp cap w1 (E (i,false)).2 (ExK w1 (E (i,false)).1))):=λw1 h1=>hE w1 rb lp cap i h1 hi hn;have g1:=hG (i,false);have hge:i<=(E (i,false)).2.1:=g1.ge;have hle:(E (i,false)).2.1<=ts.length:=g1.le hi;have HB:=hid hB
 have HBB:Hid (∀ j,(pBody ts E (takeS ts (j,true) [45,62])).2=(j,true)):=λj=>by rw [ZK];exact (Zaa hG (j,true)).bad rfl
 obtain ⟨RES,hRES⟩:∃ RES,RES=pClause ts E (i,false):=⟨_,rfl⟩;have HR:Hid (RES=(([(E (i,false)).1],(pBody ts E (takeS ts (E (i,false)).2 [45,62])).1),(pBody ts E (takeS ts (E (i,false)).2 [45,62])).2)):=hRES;rw [<-hRES];generalize E (i,false)=EE at *;obtain ⟨x,j,b1⟩:=EE;simp only at hge hle;clear hE hG hB hp g1 hRES;go_enter func167,ntmps167;go_wp2_with fail;refine (C0.out _ P0.out).mono ?_;rintro e w1 hr
 cases b1 with
 | true =>
  obtain rfl:=hr.bad rfl;refine ⟨rfl,?_⟩;exact hr.fail O0.out rfl (by rw [HR.out];exact HBB.out j)
 | false =>
  obtain ⟨v,rfl,hp1,cs1,Xf,rfl,hx1,nd1,rg1⟩:=hr.ok rfl;obtain ⟨Xk,Xn,Xt,Xm,Xp,Xa,Xb,Xq,Xc,Xd,rfl⟩:=hx1.shape;have K1:Bz w1 (w1.alloc (.cells #[.int .i64 Xk,.int .i64 Xn,.string Xt,.string Xm,.slice Xp Xa Xb,.slice Xq Xc Xd] 108)):=(sqN _ _);have P2:=hid (hp1.next K1);have O2:Hid (Off [rb] w (w1.alloc (.cells #[.int .i64 Xk,.int .i64 Xn,.string Xt,.string Xm,.slice Xp Xa Xb,.slice Xq Xc Xd] 108))):=(O0.out.trans hr.off).trans (Off.of_below K1);have R2:Hid (Blk (w1.alloc (.cells #[.int .i64 Xk,.int .i64 Xn,.string Xt,.string Xm,.slice Xp Xa Xb,.slice Xq Xc Xd] 108)) w.heap.size #[.slice none 0 0,.slice none 0 0] 64):=(R0.out.off hr.off hne).next K1;have N2:Hid (Blk (w1.alloc (.cells #[.int .i64 Xk,.int .i64 Xn,.string Xt,.string Xm,.slice Xp Xa Xb,.slice Xq Xc Xd] 108)) w1.heap.size #[.int .i64 Xk,.int .i64 Xn,.string Xt,.string Xm,.slice Xp Xa Xb,.slice Xq Xc Xd] 108):=Blk.new;have X2:=hid (OXT.keeps _ _ _ _ _ hx1 (Zu.below K1 hx1.lt));have hsz0:(w.alloc (.cells #[.slice none 0 0,.slice none 0 0] 64)).heap.size=w.heap.size+1:=(by simp only [Zg]);have hw1:w.heap.size+1<=w1.heap.size:=(by rw [<-hsz0];exact hr.off.size);have hz1:(w1.alloc (.cells #[.int .i64 Xk,.int .i64 Xn,.string Xt,.string Xm,.slice Xp Xa Xb,.slice Xq Xc Xd] 108)).heap.size=w1.heap.size+1:=(by simp only [Zg])
  have XR:Hid (∀ a ∈ Xf,w.heap.size+1<=a/\a<(w1.alloc (.cells #[.int .i64 Xk,.int .i64 Xn,.string Xt,.string Xm,.slice Xp Xa Xb,.slice Xq Xc Xd] 108)).heap.size/\a≠w1.heap.size):=λa ha=>by have:=rg1 a ha;omega
  have XN:=hid nd1;have hnr:w1.heap.size≠rb:=(by omega);have hrw2:rb<(w1.alloc (.cells #[.int .i64 Xk,.int .i64 Xn,.string Xt,.string Xm,.slice Xp Xa Xb,.slice Xq Xc Xd] 108)).heap.size:=(by omega);have hww2:w.heap.size+1<=(w1.alloc (.cells #[.int .i64 Xk,.int .i64 Xn,.string Xt,.string Xm,.slice Xp Xa Xb,.slice Xq Xc Xd] 108)).heap.size:=(by omega);have HY:Hid (RES=(([x],(pBody ts E (takeS ts (j,false) [45,62])).1),(pBody ts E (takeS ts (j,false) [45,62])).2)):=HR.out;have CB:Hid (∀ w1,RdAt w1 rb lp cap ts j->Calls prog 76 #[.pointer (some ⟨rb,0,none⟩)] w1 (Rd ts rb lp cap w1 (pBody ts E (takeS ts (j,false) [45,62])).2 (RoK w1 (pBody ts E (takeS ts (j,false) [45,62])).1))):=λw1 h1=>HB.out w1 rb lp cap j h1 hle (by omega);generalize pBody ts E (takeS ts (j,false) [45,62])=BD at *;obtain ⟨bl,j2,b2⟩:=BD;clear hr hp1 hx1 nd1 rg1 K1 hsz0 hz1 P0 O0 R0 HR HBB C0;go_wp2_with fail
  try unfold Bz
  generalize hnb:w1.heap.size=nb at *;generalize w1.alloc (.cells #[.int .i64 Xk,.int .i64 Xn,.string Xt,.string Xm,.slice Xp Xa Xb,.slice Xq Xc Xd] 108)=w2 at *;have K2:Bz w2 (w2.alloc (.cells #[.int .i64 Xk,.int .i64 Xn,.string Xt,.string Xm,.slice Xp Xa Xb,.slice Xq Xc Xd] 108)):=(sqN _ _);have P2a:=hid (P2.out.next K2);have O2a:Hid (Off [rb] w (w2.alloc (.cells #[.int .i64 Xk,.int .i64 Xn,.string Xt,.string Xm,.slice Xp Xa Xb,.slice Xq Xc Xd] 108))):=O2.out.trans (Off.of_below K2);have R2a:=hid (R2.out.next K2);clear hnb K2;have a0:w2.cell? ⟨nb,0,none⟩=some (.int .i64 Xk):=N2.out.cell 0 _ rfl;have a1:w2.cell? ⟨nb,1,none⟩=some (.int .i64 Xn):=N2.out.cell 1 _ rfl;have a2:w2.cell? ⟨nb,2,none⟩=some (.string Xt):=N2.out.cell 2 _ rfl;have a3:w2.cell? ⟨nb,3,none⟩=some (.string Xm):=N2.out.cell 3 _ rfl;have a4:w2.cell? ⟨nb,4,none⟩=some (.slice Xp Xa Xb):=N2.out.cell 4 _ rfl;have a5:w2.cell? ⟨nb,5,none⟩=some (.slice Xq Xc Xd):=N2.out.cell 5 _ rfl;refine wp_region_held_drew (S:=λ_=>True) (by kernel_rfl) trivial (λhHeld=>?_);refine tkP 2 (v:=.pointer (some ⟨rb,0,none⟩)) rfl (by rfl) (λw' hS=>by go_simp) hHeld ?_
  try simp only [sqP]
  refine twoH 0 3 rfl rfl (λK hK=>?_) (λK hK=>?_)
  . go_simp
    refine hK.out _ _ trivial (λ_=>?_);clear hK K
    try simp only [sqP]
    refine twoH 1 3 rfl rfl (λK hK=>?_) (λK hK=>?_)
    . go_simp
      refine hK.out _ _ trivial (λ_=>?_);clear hK K
      try simp only [sqP]
      refine oneH 3 rfl (λK hK=>?_)
      go_simp
      go_at_call 76
      refine (CB.out _ P2a.out.dr).mono ?_;rintro e w4 hr
      cases b2 with
      | true =>
       obtain rfl:=hr.bad rfl;refine ⟨rfl,?_⟩;exact hr.fail O2a.out.drO rfl (by rw [HY.out])
      | false =>
       obtain ⟨v,rfl,hp3,hk⟩:=hr.ok rfl;obtain ⟨bp,bc,rfl,-,-⟩:=hk.shape;obtain ⟨f2,r2,n2,g2,-,-⟩:=Zh.done hk;have ho3:Off [rb] (w2.alloc (.cells #[.int .i64 Xk,.int .i64 Xn,.string Xt,.string Xm,.slice Xp Xa Xb,.slice Xq Xc Xd] 108)) w4:=Off.drI hr.off;have hs4:=ho3.size;have hsa:(w2.alloc (.cells #[.int .i64 Xk,.int .i64 Xn,.string Xt,.string Xm,.slice Xp Xa Xb,.slice Xq Xc Xd] 108)).heap.size=w2.heap.size+1:=(by simp only [Zg])
       have g2':∀ a ∈ f2,w2.heap.size+1<=a/\a<w4.heap.size:=λa ha=>by have:=g2 a ha;rw [<-hsa];exact this
       have P4:Hid (RdAt w4 rb lp cap ts j2):=hp3;have O4:Hid (Off [rb] w w4):=O2a.out.trans ho3;have R4:=hid (R2a.out.off ho3 hne);have T4:Hid (OCT w4 [.slice (some ⟨w2.heap.size,0,none⟩) 1 1,.slice bp bl.length bc] ([x],bl) ((w2.heap.size :: Xf) ++ f2)/\((w2.heap.size :: Xf) ++ f2).Nodup/\∀ a ∈ (w2.heap.size :: Xf) ++ f2,w.heap.size+1<=a/\a<w4.heap.size):=⟨OCT.mk (ZgE X2.out ho3 hrw2 (λa ha=>by have:=(XR.out a ha).1;omega)) r2,dis1 XN.out n2 (λa ha=>(XR.out a ha).2.1) (λa ha=>by have:=g2' a ha;omega),rng (λa ha=>by have:=XR.out a ha;omega) (λa ha=>by have:=g2' a ha;omega) (by omega)⟩;have cR0:w4.cell? ⟨w.heap.size,0,none⟩=some (.slice none 0 0):=R4.out.cell 0 _ rfl;have zR0:=R4.out.frozen 0;have cR1:w4.cell? ⟨w.heap.size,1,none⟩=some (.slice none 0 0):=R4.out.cell 1 _ rfl;have zR1:=R4.out.frozen 1;clear hr hp3 hk r2 n2 g2 g2' ho3 hs4 hsa;refine hK.out _ _ trivial (λ_=>?_);clear hK K
       try simp only [sqP]
       refine oneH 4 rfl (λK hK=>?_)
       go_simp
       refine hK.out _ _ trivial (λ_=>?_);clear hK K
       try simp only [sqP]
       refine oneH 5 rfl (λK hK=>?_)
       go_simp
       refine hK.out _ _ trivial (λ_=>?_);clear hK K;refine wpAnyH_done (by kernel_rfl) ?_ _;go_wp2_with fail;have hon:Zv w.heap.size w4 ((w4.setCell ⟨w.heap.size,0,none⟩ (.slice (some ⟨w2.heap.size,0,none⟩) 1 1)).setCell ⟨w.heap.size,1,none⟩ (.slice bp bl.length bc)):=Zv.set.trans Zv.set;have hbk:=(R4.out.same (j:=0) (v:=.slice (some ⟨w2.heap.size,0,none⟩) 1 1) rfl).same (j:=1) (v:=.slice bp bl.length bc) rfl;refine bodyPost_ret (v:=.agg #[.slice (some ⟨w2.heap.size,0,none⟩) 1 1,.slice bp bl.length bc]) (results_cell_row (by rfl) _ _ w.heap.size 64 _ (0,0) _ (by rfl) hbk underlying64 rfl (by kernel_rfl)) rfl ?_;rw [HY.out];exact ⟨O4.out.only hon (sqR _),λ_=>⟨_,rfl,P4.out.only hon hwb,_,_,rfl,OCT.keeps _ _ _ _ _ T4.out.1 (hon.keep (λha=>by have:=T4.out.2.2 _ ha;omega)),T4.out.2.1,λa ha=>⟨by have:=T4.out.2.2 a ha;omega,by have:=T4.out.2.2 a ha;have:=hon.size;omega⟩⟩,λe=>(by cases e)⟩
    . go_simp
      go_at_call 76
      refine (CB.out _ P2.out.dr).mono ?_;rintro e w3 hr
      cases b2 with
      | true =>
       obtain rfl:=hr.bad rfl;refine ⟨rfl,?_⟩;exact hr.fail O2.out.drO rfl (by rw [HY.out])
      | false =>
       obtain ⟨v,rfl,hp3,hk⟩:=hr.ok rfl;obtain ⟨bp,bc,rfl,-,-⟩:=hk.shape;obtain ⟨f2,r2,n2,g2,-,-⟩:=Zh.done hk;have ho3:Off [rb] w2 w3:=Off.drI hr.off;have hs3:=ho3.size;have X3:OXT w3 [.int .i64 Xk,.int .i64 Xn,.string Xt,.string Xm,.slice Xp Xa Xb,.slice Xq Xc Xd] x Xf:=X2.out.off ho3 (λa ha=>by have:=(XR.out a ha).1;omega);have N3:=hid (N2.out.off ho3 hnr);have K4:Bz w3 (w3.alloc (.cells #[.int .i64 Xk,.int .i64 Xn,.string Xt,.string Xm,.slice Xp Xa Xb,.slice Xq Xc Xd] 108)):=(sqN _ _);have hsa:(w3.alloc (.cells #[.int .i64 Xk,.int .i64 Xn,.string Xt,.string Xm,.slice Xp Xa Xb,.slice Xq Xc Xd] 108)).heap.size=w3.heap.size+1:=(by simp only [Zg]);have P4:Hid (RdAt (w3.alloc (.cells #[.int .i64 Xk,.int .i64 Xn,.string Xt,.string Xm,.slice Xp Xa Xb,.slice Xq Xc Xd] 108)) rb lp cap ts j2):=RdAt.next hp3 K4;have O4:Hid (Off [rb] w (w3.alloc (.cells #[.int .i64 Xk,.int .i64 Xn,.string Xt,.string Xm,.slice Xp Xa Xb,.slice Xq Xc Xd] 108))):=(O2.out.trans ho3).trans (Off.of_below K4);have R4:Hid (Blk (w3.alloc (.cells #[.int .i64 Xk,.int .i64 Xn,.string Xt,.string Xm,.slice Xp Xa Xb,.slice Xq Xc Xd] 108)) w.heap.size #[.slice none 0 0,.slice none 0 0] 64):=(R2.out.off ho3 hne).next K4;have g2':∀ a ∈ f2,w2.heap.size<=a/\a<w3.heap.size:=g2;have T4:Hid (OCT (w3.alloc (.cells #[.int .i64 Xk,.int .i64 Xn,.string Xt,.string Xm,.slice Xp Xa Xb,.slice Xq Xc Xd] 108)) [.slice (some ⟨w3.heap.size,0,none⟩) 1 1,.slice bp bl.length bc] ([x],bl) ((w3.heap.size :: Xf) ++ f2)/\((w3.heap.size :: Xf) ++ f2).Nodup/\∀ a ∈ (w3.heap.size :: Xf) ++ f2,w.heap.size+1<=a/\a<(w3.alloc (.cells #[.int .i64 Xk,.int .i64 Xn,.string Xt,.string Xm,.slice Xp Xa Xb,.slice Xq Xc Xd] 108)).heap.size):=⟨OCT.mk (Zy.one1 X3) (r2.keepX (Zu.below K4 (λa ha=>(g2' a ha).2))),dis2 XN.out n2 (λa ha=>⟨(XR.out a ha).1,(XR.out a ha).2.1⟩) g2' (sqR _) hs3,by rw [hsa];exact rng (λa ha=>by have:=XR.out a ha;omega) (λa ha=>by have:=g2' a ha;omega) (by omega)⟩;have cR0:(w3.alloc (.cells #[.int .i64 Xk,.int .i64 Xn,.string Xt,.string Xm,.slice Xp Xa Xb,.slice Xq Xc Xd] 108)).cell? ⟨w.heap.size,0,none⟩=some (.slice none 0 0):=R4.out.cell 0 _ rfl;have zR0:=R4.out.frozen 0;have cR1:(w3.alloc (.cells #[.int .i64 Xk,.int .i64 Xn,.string Xt,.string Xm,.slice Xp Xa Xb,.slice Xq Xc Xd] 108)).cell? ⟨w.heap.size,1,none⟩=some (.slice none 0 0):=R4.out.cell 1 _ rfl;have zR1:=R4.out.frozen 1;clear hr hp3 hk r2 n2 g2 g2' ho3 hs3 hsa X3 K4;refine hK.out _ _ trivial (λ_=>?_);clear hK K
       try simp only [sqP]
       refine oneH 1 rfl (λK hK=>?_)
       go_simp
       refine hK.out _ _ trivial (λ_=>?_);clear hK K
       try simp only [sqP]
       refine oneH 4 rfl (λK hK=>?_)
       go_simp
       refine hK.out _ _ trivial (λ_=>?_);clear hK K
       try simp only [sqP]
       refine oneH 5 rfl (λK hK=>?_)
       go_simp
       refine hK.out _ _ trivial (λ_=>?_);clear hK K;refine wpAnyH_done (by kernel_rfl) ?_ _;go_wp2_with fail;have hon:Zv w.heap.size (w3.alloc (.cells #[.int .i64 Xk,.int .i64 Xn,.string Xt,.string Xm,.slice Xp Xa Xb,.slice Xq Xc Xd] 108)) (((w3.alloc (.cells #[.int .i64 Xk,.int .i64 Xn,.string Xt,.string Xm,.slice Xp Xa Xb,.slice Xq Xc Xd] 108)).setCell ⟨w.heap.size,0,none⟩ (.slice (some ⟨w3.heap.size,0,none⟩) 1 1)).setCell ⟨w.heap.size,1,none⟩ (.slice bp bl.length bc)):=Zv.set.trans Zv.set;have hbk:=(R4.out.same (j:=0) (v:=.slice (some ⟨w3.heap.size,0,none⟩) 1 1) rfl).same (j:=1) (v:=.slice bp bl.length bc) rfl;refine bodyPost_ret (v:=.agg #[.slice (some ⟨w3.heap.size,0,none⟩) 1 1,.slice bp bl.length bc]) (results_cell_row (by rfl) _ _ w.heap.size 64 _ (0,0) _ (by rfl) hbk underlying64 rfl (by kernel_rfl)) rfl ?_;rw [HY.out];exact ⟨O4.out.only hon (sqR _),λ_=>⟨_,rfl,P4.out.only hon hwb,_,_,rfl,OCT.keeps _ _ _ _ _ T4.out.1 (hon.keep (λha=>by have:=T4.out.2.2 _ ha;omega)),T4.out.2.1,λa ha=>⟨by have:=T4.out.2.2 a ha;omega,by have:=T4.out.2.2 a ha;have:=hon.size;omega⟩⟩,λe=>(by cases e)⟩
  . go_simp
    go_at_call 76
    refine (CB.out _ P2.out.dr).mono ?_;rintro e w3 hr
    cases b2 with
    | true =>
     obtain rfl:=hr.bad rfl;refine ⟨rfl,?_⟩;exact hr.fail O2.out.drO rfl (by rw [HY.out])
    | false =>
     obtain ⟨v,rfl,hp3,hk⟩:=hr.ok rfl;obtain ⟨bp,bc,rfl,-,-⟩:=hk.shape;obtain ⟨f2,r2,n2,g2,-,-⟩:=Zh.done hk;have ho3:Off [rb] w2 w3:=Off.drI hr.off;have hs3:=ho3.size;have X3:OXT w3 [.int .i64 Xk,.int .i64 Xn,.string Xt,.string Xm,.slice Xp Xa Xb,.slice Xq Xc Xd] x Xf:=X2.out.off ho3 (λa ha=>by have:=(XR.out a ha).1;omega);have N3:=hid (N2.out.off ho3 hnr);have K4:Bz w3 (w3.alloc (.cells #[.int .i64 Xk,.int .i64 Xn,.string Xt,.string Xm,.slice Xp Xa Xb,.slice Xq Xc Xd] 108)):=(sqN _ _);have hsa:(w3.alloc (.cells #[.int .i64 Xk,.int .i64 Xn,.string Xt,.string Xm,.slice Xp Xa Xb,.slice Xq Xc Xd] 108)).heap.size=w3.heap.size+1:=(by simp only [Zg]);have P4:Hid (RdAt (w3.alloc (.cells #[.int .i64 Xk,.int .i64 Xn,.string Xt,.string Xm,.slice Xp Xa Xb,.slice Xq Xc Xd] 108)) rb lp cap ts j2):=RdAt.next hp3 K4;have O4:Hid (Off [rb] w (w3.alloc (.cells #[.int .i64 Xk,.int .i64 Xn,.string Xt,.string Xm,.slice Xp Xa Xb,.slice Xq Xc Xd] 108))):=(O2.out.trans ho3).trans (Off.of_below K4);have R4:Hid (Blk (w3.alloc (.cells #[.int .i64 Xk,.int .i64 Xn,.string Xt,.string Xm,.slice Xp Xa Xb,.slice Xq Xc Xd] 108)) w.heap.size #[.slice none 0 0,.slice none 0 0] 64):=(R2.out.off ho3 hne).next K4;have g2':∀ a ∈ f2,w2.heap.size<=a/\a<w3.heap.size:=g2;have T4:Hid (OCT (w3.alloc (.cells #[.int .i64 Xk,.int .i64 Xn,.string Xt,.string Xm,.slice Xp Xa Xb,.slice Xq Xc Xd] 108)) [.slice (some ⟨w3.heap.size,0,none⟩) 1 1,.slice bp bl.length bc] ([x],bl) ((w3.heap.size :: Xf) ++ f2)/\((w3.heap.size :: Xf) ++ f2).Nodup/\∀ a ∈ (w3.heap.size :: Xf) ++ f2,w.heap.size+1<=a/\a<(w3.alloc (.cells #[.int .i64 Xk,.int .i64 Xn,.string Xt,.string Xm,.slice Xp Xa Xb,.slice Xq Xc Xd] 108)).heap.size):=⟨OCT.mk (Zy.one1 X3) (r2.keepX (Zu.below K4 (λa ha=>(g2' a ha).2))),dis2 XN.out n2 (λa ha=>⟨(XR.out a ha).1,(XR.out a ha).2.1⟩) g2' (sqR _) hs3,by rw [hsa];exact rng (λa ha=>by have:=XR.out a ha;omega) (λa ha=>by have:=g2' a ha;omega) (by omega)⟩;have cR0:(w3.alloc (.cells #[.int .i64 Xk,.int .i64 Xn,.string Xt,.string Xm,.slice Xp Xa Xb,.slice Xq Xc Xd] 108)).cell? ⟨w.heap.size,0,none⟩=some (.slice none 0 0):=R4.out.cell 0 _ rfl;have zR0:=R4.out.frozen 0;have cR1:(w3.alloc (.cells #[.int .i64 Xk,.int .i64 Xn,.string Xt,.string Xm,.slice Xp Xa Xb,.slice Xq Xc Xd] 108)).cell? ⟨w.heap.size,1,none⟩=some (.slice none 0 0):=R4.out.cell 1 _ rfl;have zR1:=R4.out.frozen 1;have b0:w3.cell? ⟨nb,0,none⟩=some (.int .i64 Xk):=N3.out.cell 0 _ rfl;have b1:w3.cell? ⟨nb,1,none⟩=some (.int .i64 Xn):=N3.out.cell 1 _ rfl;have b2:w3.cell? ⟨nb,2,none⟩=some (.string Xt):=N3.out.cell 2 _ rfl;have b3:w3.cell? ⟨nb,3,none⟩=some (.string Xm):=N3.out.cell 3 _ rfl;have b4:w3.cell? ⟨nb,4,none⟩=some (.slice Xp Xa Xb):=N3.out.cell 4 _ rfl;have b5:w3.cell? ⟨nb,5,none⟩=some (.slice Xq Xc Xd):=N3.out.cell 5 _ rfl;clear hr hp3 hk r2 n2 g2 g2' ho3 hs3 hsa X3 K4;refine hK.out _ _ trivial (λ_=>?_);clear hK K
     try simp only [sqP]
     refine oneH 0 rfl (λK hK=>?_)
     go_simp
     refine hK.out _ _ trivial (λ_=>?_);clear hK K
     try simp only [sqP]
     refine oneH 1 rfl (λK hK=>?_)
     go_simp
     refine hK.out _ _ trivial (λ_=>?_);clear hK K
     try simp only [sqP]
     refine oneH 4 rfl (λK hK=>?_)
     go_simp
     refine hK.out _ _ trivial (λ_=>?_);clear hK K
     try simp only [sqP]
     refine oneH 5 rfl (λK hK=>?_)
     go_simp
     refine hK.out _ _ trivial (λ_=>?_);clear hK K;refine wpAnyH_done (by kernel_rfl) ?_ _;go_wp2_with fail;have hon:Zv w.heap.size (w3.alloc (.cells #[.int .i64 Xk,.int .i64 Xn,.string Xt,.string Xm,.slice Xp Xa Xb,.slice Xq Xc Xd] 108)) (((w3.alloc (.cells #[.int .i64 Xk,.int .i64 Xn,.string Xt,.string Xm,.slice Xp Xa Xb,.slice Xq Xc Xd] 108)).setCell ⟨w.heap.size,0,none⟩ (.slice (some ⟨w3.heap.size,0,none⟩) 1 1)).setCell ⟨w.heap.size,1,none⟩ (.slice bp bl.length bc)):=Zv.set.trans Zv.set;have hbk:=(R4.out.same (j:=0) (v:=.slice (some ⟨w3.heap.size,0,none⟩) 1 1) rfl).same (j:=1) (v:=.slice bp bl.length bc) rfl;refine bodyPost_ret (v:=.agg #[.slice (some ⟨w3.heap.size,0,none⟩) 1 1,.slice bp bl.length bc]) (results_cell_row (by rfl) _ _ w.heap.size 64 _ (0,0) _ (by rfl) hbk underlying64 rfl (by kernel_rfl)) rfl ?_;rw [HY.out];exact ⟨O4.out.only hon (sqR _),λ_=>⟨_,rfl,P4.out.only hon hwb,_,_,rfl,OCT.keeps _ _ _ _ _ T4.out.1 (hon.keep (λha=>by have:=T4.out.2.2 _ ha;omega)),T4.out.2.1,λa ha=>⟨by have:=T4.out.2.2 a ha;omega,by have:=T4.out.2.2 a ha;have:=hon.size;omega⟩⟩,λe=>(by cases e)⟩
theorem OCT.shapeP {w:World} {cs:List Value} {c:Cl} {fp:List Nat} (h:OCT w cs c fp):∃ y1 y2 y3 y4 y5 y6,cs = [.slice y1 y2 y3,.slice y4 y5 y6]:=by
 obtain ⟨D,pv,bv,f1,f2,rfl,-,h1,h2⟩:=h;obtain ⟨p1,q1,rfl,-⟩:=h1.shape;obtain ⟨p2,q2,rfl,-⟩:=h2.shape;exact ⟨_,_,_,_,_,_,rfl⟩
theorem Zh.le {α:Type} {e:TypeId} {c:Nat} {O:World->List Value->α->List Nat->Prop} {w:World} {B C:Nat} {v:Value} {xs:List α} (h:Zh e c O w B C v xs):B<=C:=by
 obtain ⟨-,-,-,-,-,-,-,-,h1,-⟩:=h;exact h1
theorem Zdm (ts:List Tok) (E:St->Ex × St) (k:Nat) (acc:List Cl) (j:Nat):Zal ts E (k+1) acc (j,false)=if isS ts (pClause ts E (j,false)).2 [59] then Zal ts E k (acc ++ [(pClause ts E (j,false)).1]) (adv (pClause ts E (j,false)).2) else (acc ++ [(pClause ts E (j,false)).1],(pClause ts E (j,false)).2):=rfl
theorem Zi5 {ts:List Tok} (hT:TsOk ts) {n:Nat} {E:St->Ex × St} (hE:PIe ts 113 n E) (hG:ZV ts E) (hC:PIcl ts 167 n (pClause ts E)):PIe ts 165 n (pCase ts E):=by
 intro w rb lp cap i hp hi hn;have hlen:=hT.len;have hwb:=hp.lt;have hne:w.heap.size≠rb:=(by omega);have P0:Hid (RdAt (w.alloc (.cells #[.int .i64 0,.int .i64 0,.string ⟨#[]⟩,.string ⟨#[]⟩,.slice none 0 0,.slice none 0 0] 108)) rb lp cap ts i):=hp.next ((sqN _ _));have R0:Hid (Blk (w.alloc (.cells #[.int .i64 0,.int .i64 0,.string ⟨#[]⟩,.string ⟨#[]⟩,.slice none 0 0,.slice none 0 0] 108)) w.heap.size #[.int .i64 0,.int .i64 0,.string ⟨#[]⟩,.string ⟨#[]⟩,.slice none 0 0,.slice none 0 0] 108):=Blk.new;have O0:Hid (Off [rb] w (w.alloc (.cells #[.int .i64 0,.int .i64 0,.string ⟨#[]⟩,.string ⟨#[]⟩,.slice none 0 0,.slice none 0 0] 108))):=Off.of_below ((sqN _ _));have C0:Hid (∀ w1,RdAt w1 rb lp cap ts i->Calls prog 113 #[.pointer (some ⟨rb,0,none⟩)] w1 (Rd ts rb lp cap w1 (E (i,false)).2 (ExK w1 (E (i,false)).1))):=λw1 h1=>hE w1 rb lp cap i h1 hi hn;have g1:=hG (i,false);have hge:i<=(E (i,false)).2.1:=g1.ge;have hle:(E (i,false)).2.1<=ts.length:=g1.le hi;have HC:=hid hC;have HG:Hid (ZV ts E):=hG;obtain ⟨RES,hRES⟩:∃ RES,RES=pCase ts E (i,false):=⟨_,rfl⟩;have HR:Hid (RES=(.mk 10 0 (bs []) (bs []) [(E (i,false)).1] (pCases ts E (takeS ts (E (i,false)).2 [111,102])).1,takeS ts (pCases ts E (takeS ts (E (i,false)).2 [111,102])).2 [101,110,100])):=hRES;rw [<-hRES];have HBC:Hid (∀ j,(pCases ts E (j,true)).2=(j,true)):=λj=>(ZbK hG _ _ (j,true)).bad rfl;generalize E (i,false)=EE at *;obtain ⟨x1,j1,b1⟩:=EE;simp only at hge hle;clear hE hG hC hp g1 hRES;go_enter func165,ntmps165;go_wp2_with fail;refine (C0.out _ P0.out).mono ?_;rintro e w1 hr
 cases b1 with
 | true =>
  obtain rfl:=hr.bad rfl;refine ⟨rfl,?_⟩;exact hr.fail O0.out rfl (by rw [HR.out];simp only [ZK,HBC.out])
 | false =>
  obtain ⟨v,rfl,hp1,cs1,Xf,rfl,hx1,nd1,rg1⟩:=hr.ok rfl;obtain ⟨Xk,Xn,Xt,Xm,Xp,Xa,Xb,Xq,Xc,Xd,rfl⟩:=hx1.shape;have ho1:Off [rb] w w1:=O0.out.trans hr.off;have hsz0:(w.alloc (.cells #[.int .i64 0,.int .i64 0,.string ⟨#[]⟩,.string ⟨#[]⟩,.slice none 0 0,.slice none 0 0] 108)).heap.size=w.heap.size+1:=(by simp only [Zg]);have hw1:w.heap.size+1<=w1.heap.size:=(by rw [<-hsz0];exact hr.off.size)
  have rg1':∀ a ∈ Xf,w.heap.size+1<=a/\a<w1.heap.size:=λa ha=>by have:=rg1 a ha;rw [hsz0] at this;exact this
  have KE:Bz w1 ((w1.alloc (.cells #[.int .i64 Xk,.int .i64 Xn,.string Xt,.string Xm,.slice Xp Xa Xb,.slice Xq Xc Xd] 108)).alloc (.cells #[.int .i64 10,.int .i64 0,.string ⟨#[]⟩,.string ⟨#[]⟩,.slice (some ⟨w1.heap.size,0,none⟩) 1 1,.slice none 0 0] 108)):=((sqN _ _)).alloc (by simp only [Zg];omega) _;have hze:((w1.alloc (.cells #[.int .i64 Xk,.int .i64 Xn,.string Xt,.string Xm,.slice Xp Xa Xb,.slice Xq Xc Xd] 108)).alloc (.cells #[.int .i64 10,.int .i64 0,.string ⟨#[]⟩,.string ⟨#[]⟩,.slice (some ⟨w1.heap.size,0,none⟩) 1 1,.slice none 0 0] 108)).heap.size=w1.heap.size+2:=(by simp only [Zg]);have PE:=hid (hp1.next KE);have OE:Hid (Off [rb] w ((w1.alloc (.cells #[.int .i64 Xk,.int .i64 Xn,.string Xt,.string Xm,.slice Xp Xa Xb,.slice Xq Xc Xd] 108)).alloc (.cells #[.int .i64 10,.int .i64 0,.string ⟨#[]⟩,.string ⟨#[]⟩,.slice (some ⟨w1.heap.size,0,none⟩) 1 1,.slice none 0 0] 108))):=ho1.trans (Off.of_below KE);have RE:Hid (Blk ((w1.alloc (.cells #[.int .i64 Xk,.int .i64 Xn,.string Xt,.string Xm,.slice Xp Xa Xb,.slice Xq Xc Xd] 108)).alloc (.cells #[.int .i64 10,.int .i64 0,.string ⟨#[]⟩,.string ⟨#[]⟩,.slice (some ⟨w1.heap.size,0,none⟩) 1 1,.slice none 0 0] 108)) w.heap.size #[.int .i64 0,.int .i64 0,.string ⟨#[]⟩,.string ⟨#[]⟩,.slice none 0 0,.slice none 0 0] 108):=(R0.out.off hr.off hne).next KE
  have EE:Hid (Blk ((w1.alloc (.cells #[.int .i64 Xk,.int .i64 Xn,.string Xt,.string Xm,.slice Xp Xa Xb,.slice Xq Xc Xd] 108)).alloc (.cells #[.int .i64 10,.int .i64 0,.string ⟨#[]⟩,.string ⟨#[]⟩,.slice (some ⟨w1.heap.size,0,none⟩) 1 1,.slice none 0 0] 108)) (w1.heap.size+1) #[.int .i64 10,.int .i64 0,.string ⟨#[]⟩,.string ⟨#[]⟩,.slice (some ⟨w1.heap.size,0,none⟩) 1 1,.slice none 0 0] 108):=by
   have:=Blk.new (w:=w1.alloc (.cells #[.int .i64 Xk,.int .i64 Xn,.string Xt,.string Xm,.slice Xp Xa Xb,.slice Xq Xc Xd] 108)) (cs:=#[.int .i64 10,.int .i64 0,.string ⟨#[]⟩,.string ⟨#[]⟩,.slice (some ⟨w1.heap.size,0,none⟩) 1 1,.slice none 0 0]) (t:=108);simp only [Zg] at this;exact this
  have KEE:Hid (Zh 108 6 OXT ((w1.alloc (.cells #[.int .i64 Xk,.int .i64 Xn,.string Xt,.string Xm,.slice Xp Xa Xb,.slice Xq Xc Xd] 108)).alloc (.cells #[.int .i64 10,.int .i64 0,.string ⟨#[]⟩,.string ⟨#[]⟩,.slice (some ⟨w1.heap.size,0,none⟩) 1 1,.slice none 0 0] 108)) (w.heap.size+1) (w1.heap.size+1) (.slice (some ⟨w1.heap.size,0,none⟩) 1 1) [x1]):=(Zh.one hx1 nd1 rg1' hw1).next OXT.keeps ((sqN _ _));have hner:w1.heap.size+1≠rb:=(by omega)
  have NO:Hid (Calls prog 70 #[.pointer (some ⟨rb,0,none⟩),.slice (some ⟨w1.heap.size+1+1,0,none⟩) 1 1] (((w1.alloc (.cells #[.int .i64 Xk,.int .i64 Xn,.string Xt,.string Xm,.slice Xp Xa Xb,.slice Xq Xc Xd] 108)).alloc (.cells #[.int .i64 10,.int .i64 0,.string ⟨#[]⟩,.string ⟨#[]⟩,.slice (some ⟨w1.heap.size,0,none⟩) 1 1,.slice none 0 0] 108)).alloc (.cells #[.string ⟨#[111,102]⟩] 9)) (Rd ts rb lp cap ((w1.alloc (.cells #[.int .i64 Xk,.int .i64 Xn,.string Xt,.string Xm,.slice Xp Xa Xb,.slice Xq Xc Xd] 108)).alloc (.cells #[.int .i64 10,.int .i64 0,.string ⟨#[]⟩,.string ⟨#[]⟩,.slice (some ⟨w1.heap.size,0,none⟩) 1 1,.slice none 0 0] 108)) (takeS ts (j1,false) [111,102]) λv _=>v=.tuple #[])):=by
   have:=ZW ((w1.alloc (.cells #[.int .i64 Xk,.int .i64 Xn,.string Xt,.string Xm,.slice Xp Xa Xb,.slice Xq Xc Xd] 108)).alloc (.cells #[.int .i64 10,.int .i64 0,.string ⟨#[]⟩,.string ⟨#[]⟩,.slice (some ⟨w1.heap.size,0,none⟩) 1 1,.slice none 0 0] 108)) rb lp cap ts j1 ⟨#[111,102]⟩ PE.out hle hlen (by simp);simp only [Zg] at this;exact this
  have HY:Hid (RES=(.mk 10 0 (bs []) (bs []) [x1] (pCases ts E (takeS ts (j1,false) [111,102])).1,takeS ts (pCases ts E (takeS ts (j1,false) [111,102])).2 [101,110,100])):=HR.out;have g2:=Zj ts (j1,false) [111,102];have hge2:j1<=(takeS ts (j1,false) [111,102]).1:=g2.ge;have hle2:(takeS ts (j1,false) [111,102]).1<=ts.length:=g2.le hle;generalize takeS ts (j1,false) [111,102]=s2 at *;obtain ⟨j,b2⟩:=s2;simp only at hge2 hle2;clear hr hp1 hx1 nd1 rg1 rg1' ho1 hsz0 KE P0 R0 O0 C0 HR g2;go_wp2_with fail;refine NO.out.mono ?_;rintro e w2 hr
  cases b2 with
  | true =>
   obtain rfl:=hr.bad rfl;refine ⟨rfl,?_⟩;exact hr.fail OE.out rfl (by rw [HY.out];simp only [HBC.out,ZK])
  | false =>
   obtain ⟨v,rfl,hp2,rfl⟩:=hr.ok rfl;have ho2:=hr.off;have hze2:=ho2.size;rw [hze] at hze2;generalize w1.heap.size=kb at *;have P2:=hid hp2;have O2:=hid (OE.out.trans ho2);have R2:=hid (RE.out.off ho2 hne);have E2:=hid (EE.out.off ho2 hner);have K2:=hid (KEE.out.off OXT.keeps ho2 (by omega));obtain ⟨B,hB⟩:∃ B,B=w2.heap.size:=⟨_,rfl⟩;have hkB:kb+1<B:=(by omega);have hrB:rb<B:=(by omega);have G2:Hid (Zh 64 2 OCT w2 B w2.heap.size (.slice none 0 0) []):=Zh.none (by omega) (sqR _);obtain ⟨acc,hacc⟩:∃ acc:List Cl,acc = []:=⟨_,rfl⟩;obtain ⟨cp,hcp⟩:∃ cp:Option Addr,cp=none:=⟨_,rfl⟩;obtain ⟨cc,hcc⟩:∃ cc:Nat,cc=0:=⟨_,rfl⟩;have hcv:(Value.slice none 0 0)=.slice cp acc.length cc:=(by rw [hacc,hcp,hcc];rfl);have HAL:Hid (acc.length<=100000000):=(by rw [hacc];show 0<=_;omega);have HAC:Hid (acc.length<=j):=(by rw [hacc];show 0<=_;omega);rw [hcv,<-hacc] at G2;rw [hcv] at E2;have HY1:Hid (pCases ts E (j,false)=if isS ts (pClause ts E (j,false)).2 [59] then Zal ts E ts.length (acc ++ [(pClause ts E (j,false)).1]) (adv (pClause ts E (j,false)).2) else (acc ++ [(pClause ts E (j,false)).1],(pClause ts E (j,false)).2)):=(by rw [hacc];exact Zdm ts E ts.length [] j);obtain ⟨RC,hRC⟩:∃ RC,RC=pCases ts E (j,false):=⟨_,rfl⟩;rw [<-hRC] at HY HY1;have g3:=Zbt HG.out (j,false);have hge3:j<=(pClause ts E (j,false)).2.1:=g3.ge;have hle3:(pClause ts E (j,false)).2.1<=ts.length:=g3.le hle2;have CS:Hid (∀ w1,RdAt w1 rb lp cap ts j->Calls prog 167 #[.pointer (some ⟨rb,0,none⟩)] w1 (Rd ts rb lp cap w1 (pClause ts E (j,false)).2 (ClK w1 (pClause ts E (j,false)).1))):=λw1 h1=>HC.out w1 rb lp cap j h1 hle2 (by omega);generalize pClause ts E (j,false)=PC at *;obtain ⟨c2,j2,b2⟩:=PC;simp only at hge3 hle3;clear hr hp2 ho2 hze hze2 PE OE RE EE KEE NO hacc hcp hcc hcv hRC g3;go_wp2_with fail
   go_cut [] from 11 to 17 (λwc=>∃ (g9 q9:Nat),b2=false/\Hid (RdAt wc rb lp cap ts j2)/\Hid (Off [rb] w wc)/\Hid (Blk wc w.heap.size #[.int .i64 0,.int .i64 0,.string ⟨#[]⟩,.string ⟨#[]⟩,.slice none 0 0,.slice none 0 0] 108)/\Hid (Blk wc (kb+1) #[.int .i64 10,.int .i64 0,.string ⟨#[]⟩,.string ⟨#[]⟩,.slice (some ⟨kb,0,none⟩) 1 1,.slice (some ⟨g9,0,none⟩) (acc.length+1) q9] 108)/\Hid (Zh 108 6 OXT wc (w.heap.size+1) (kb+1) (.slice (some ⟨kb,0,none⟩) 1 1) [x1])/\Hid (Zh 64 2 OCT wc B wc.heap.size (.slice (some ⟨g9,0,none⟩) (acc.length+1) q9) (acc ++ [c2])))
   case first =>
    have l5:w2.cell? ⟨kb+1,5,none⟩=some (.slice cp acc.length cc):=E2.out.cell 5 _ rfl;refine wp_region_held_drew (S:=λ_=>True) (by kernel_rfl) trivial (λhHeld=>?_);refine tkP 0 (v:=.pointer (some ⟨kb+1,5,none⟩)) rfl (by rfl) (λw' hS=>by go_simp) hHeld ?_
    try simp only [sqP]
    refine tkP 2 (v:=.pointer (some ⟨rb,0,none⟩)) rfl (by rfl) (λw' hS=>by go_simp) hHeld ?_
    try simp only [sqP]
    refine twoH 1 3 rfl rfl (λK hK=>?_) (λK hK=>?_)
    . go_simp
      refine hK.out _ _ trivial (λ_=>?_);clear hK K
      try simp only [sqP]
      refine oneH 3 rfl (λK hK=>?_)
      go_simp
      go_at_call 167
      refine (CS.out _ P2.out.dr).mono ?_;rintro e w6 hr
      cases b2 with
      | true =>
       obtain rfl:=hr.bad rfl;refine ⟨rfl,?_⟩;exact hr.fail O2.out.drO rfl (by rw [HY.out,HY1.out];simp only [ZaA,ZK,Bool.false_eq_true,if_false])
      | false =>
       obtain ⟨v,rfl,hp6,ccs,cf,rfl,hx6,nd6,rg6⟩:=hr.ok rfl;obtain ⟨y1,y2,y3,y4,y5,y6,rfl⟩:=OCT.shapeP hx6;have ho6:Off [rb] w2 w6:=Off.drI hr.off;have P6:=hid hp6;have O6:=hid (O2.out.trans ho6);have R6:=hid (R2.out.off ho6 hne);have E6:=hid (E2.out.off ho6 hner);have K6:=hid (K2.out.off OXT.keeps ho6 (by omega));have G6:=hid (G2.out.off OCT.keeps ho6 hrB);have C6:Hid (OCT w6 [.slice y1 y2 y3,.slice y4 y5 y6] c2 cf/\cf.Nodup/\∀ a ∈ cf,w2.heap.size<=a/\a<w6.heap.size):=⟨hx6,nd6,rg6⟩;have KA:Bz w6 (w6.alloc (.cells #[.slice y1 y2 y3,.slice y4 y5 y6] 64)):=(sqN _ _);have S6:=hid (Nat.le_trans (G2.out.le) ho6.size);have E6a:=hid (E6.out.next KA);have e5:w6.cell? ⟨kb+1,5,none⟩=some (.slice cp acc.length cc):=E6.out.cell 5 _ rfl;have f5:(w6.alloc (.cells #[.slice y1 y2 y3,.slice y4 y5 y6] 64)).cell? ⟨kb+1,5,none⟩=some (.slice cp acc.length cc):=E6a.out.cell 5 _ rfl;clear hr hp6 hx6 nd6 rg6 ho6 KA;refine hK.out _ _ trivial (λ_=>?_);clear hK K
       try simp only [sqP]
       refine oneH 4 rfl (λK hK=>?_)
       go_simp
       refine hK.out _ _ trivial (λ_=>?_);clear hK K
       try simp only [sqP]
       refine oneH 5 rfl (λK hK=>?_);refine Zac OCT.keeps 38 64 2 48 _ (by rfl) _ _ (by rfl) underlying38 Zat rfl (by decide) (by decide) B w2.heap.size (.slice cp acc.length cc) acc (by rfl) [.slice y1 y2 y3,.slice y4 y5 y6] _ (by rfl) (by rfl) c2 cf G6.out C6.out.1 C6.out.2.1 C6.out.2.2 rfl ZaX (by have:=HAL.out;omega) ?_;intro g9 q9 w9 hg9 hb9;have KA:Bz w6 (w6.alloc (.cells #[.slice y1 y2 y3,.slice y4 y5 y6] 64)):=(sqN _ _);have hb:Below B w6 w9:=(KA.mono S6.out).trans hb9;have E8:=hid (E6.out.below hb hkB);have hon:Zv (kb+1) w9 (w9.setCell ⟨kb+1,5,none⟩ (.slice (some ⟨g9,0,none⟩) (acc.length+1) q9)):=Zv.set;have P9:Hid (RdAt (w9.setCell ⟨kb+1,5,none⟩ (.slice (some ⟨g9,0,none⟩) (acc.length+1) q9)) rb lp cap ts j2):=(P6.out.below hb hrB).only hon (by omega);have O9:Hid (Off [rb] w (w9.setCell ⟨kb+1,5,none⟩ (.slice (some ⟨g9,0,none⟩) (acc.length+1) q9))):=(O6.out.under (by omega) hb).only hon (by omega);have R9:Hid (Blk (w9.setCell ⟨kb+1,5,none⟩ (.slice (some ⟨g9,0,none⟩) (acc.length+1) q9)) w.heap.size #[.int .i64 0,.int .i64 0,.string ⟨#[]⟩,.string ⟨#[]⟩,.slice none 0 0,.slice none 0 0] 108):=(R6.out.below hb (by omega)).only hon (by omega);have E9:Hid (Blk (w9.setCell ⟨kb+1,5,none⟩ (.slice (some ⟨g9,0,none⟩) (acc.length+1) q9)) (kb+1) #[.int .i64 10,.int .i64 0,.string ⟨#[]⟩,.string ⟨#[]⟩,.slice (some ⟨kb,0,none⟩) 1 1,.slice (some ⟨g9,0,none⟩) (acc.length+1) q9] 108):=E8.out.same (j:=5) rfl;have K9:Hid (Zh 108 6 OXT (w9.setCell ⟨kb+1,5,none⟩ (.slice (some ⟨g9,0,none⟩) (acc.length+1) q9)) (w.heap.size+1) (kb+1) (.slice (some ⟨kb,0,none⟩) 1 1) [x1]):=(K6.out.keep OXT.keeps hb.size (λa h1 h2=>hb.block a (by omega))).only OXT.keeps hon (.inr (sqR _));have G9:Hid (Zh 64 2 OCT (w9.setCell ⟨kb+1,5,none⟩ (.slice (some ⟨g9,0,none⟩) (acc.length+1) q9)) B (w9.setCell ⟨kb+1,5,none⟩ (.slice (some ⟨g9,0,none⟩) (acc.length+1) q9)).heap.size (.slice (some ⟨g9,0,none⟩) (acc.length+1) q9) (acc ++ [c2])):=(hg9.only OCT.keeps hon (.inl hkB)).more (sqR _) (Nat.le_of_eq hon.size.symm) (sqR _);have s5:w9.cell? ⟨kb+1,5,none⟩=some (.slice cp acc.length cc):=E8.out.cell 5 _ rfl;have t5:=E8.out.frozen 5;clear hg9 hb9 KA hb hon;refine hK.out _ _ trivial (λ_=>?_);clear hK K
       try simp only [sqP]
       refine oneH 6 rfl (λK hK=>?_)
       go_simp
       refine hK.out _ _ trivial (λ_=>?_);clear hK K
       try simp only [sqP]
       refine oneH 7 rfl (λK hK=>?_)
       go_simp
       refine hK.out _ _ trivial (λ_=>?_);clear hK K s5 t5;refine wpAnyH_done (by kernel_rfl) ?_ _;go_wp2_with fail
       go_meet
       case rel=>exact ⟨g9,q9,(by first | trivial | rfl),P9,O9,R9,E9,K9,G9⟩
    . go_simp
      go_at_call 167
      refine (CS.out _ P2.out.dr).mono ?_;rintro e w6 hr
      cases b2 with
      | true =>
       obtain rfl:=hr.bad rfl;refine ⟨rfl,?_⟩;exact hr.fail O2.out.drO rfl (by rw [HY.out,HY1.out];simp only [ZaA,ZK,Bool.false_eq_true,if_false])
      | false =>
       obtain ⟨v,rfl,hp6,ccs,cf,rfl,hx6,nd6,rg6⟩:=hr.ok rfl;obtain ⟨y1,y2,y3,y4,y5,y6,rfl⟩:=OCT.shapeP hx6;have ho6:Off [rb] w2 w6:=Off.drI hr.off;have P6:=hid hp6;have O6:=hid (O2.out.trans ho6);have R6:=hid (R2.out.off ho6 hne);have E6:=hid (E2.out.off ho6 hner);have K6:=hid (K2.out.off OXT.keeps ho6 (by omega));have G6:=hid (G2.out.off OCT.keeps ho6 hrB);have C6:Hid (OCT w6 [.slice y1 y2 y3,.slice y4 y5 y6] c2 cf/\cf.Nodup/\∀ a ∈ cf,w2.heap.size<=a/\a<w6.heap.size):=⟨hx6,nd6,rg6⟩;have KA:Bz w6 (w6.alloc (.cells #[.slice y1 y2 y3,.slice y4 y5 y6] 64)):=(sqN _ _);have S6:=hid (Nat.le_trans (G2.out.le) ho6.size);have E6a:=hid (E6.out.next KA);have e5:w6.cell? ⟨kb+1,5,none⟩=some (.slice cp acc.length cc):=E6.out.cell 5 _ rfl;have f5:(w6.alloc (.cells #[.slice y1 y2 y3,.slice y4 y5 y6] 64)).cell? ⟨kb+1,5,none⟩=some (.slice cp acc.length cc):=E6a.out.cell 5 _ rfl;clear hr hp6 hx6 nd6 rg6 ho6 KA;refine hK.out _ _ trivial (λ_=>?_);clear hK K
       try simp only [sqP]
       refine twoH 1 4 rfl rfl (λK hK=>?_) (λK hK=>?_)
       . go_simp
         refine hK.out _ _ trivial (λ_=>?_);clear hK K
         try simp only [sqP]
         refine oneH 4 rfl (λK hK=>?_)
         go_simp
         refine hK.out _ _ trivial (λ_=>?_);clear hK K
         try simp only [sqP]
         refine oneH 5 rfl (λK hK=>?_);refine Zac OCT.keeps 38 64 2 48 _ (by rfl) _ _ (by rfl) underlying38 Zat rfl (by decide) (by decide) B w2.heap.size (.slice cp acc.length cc) acc (by rfl) [.slice y1 y2 y3,.slice y4 y5 y6] _ (by rfl) (by rfl) c2 cf G6.out C6.out.1 C6.out.2.1 C6.out.2.2 rfl ZaX (by have:=HAL.out;omega) ?_;intro g9 q9 w9 hg9 hb9;have KA:Bz w6 (w6.alloc (.cells #[.slice y1 y2 y3,.slice y4 y5 y6] 64)):=(sqN _ _);have hb:Below B w6 w9:=(KA.mono S6.out).trans hb9;have E8:=hid (E6.out.below hb hkB);have hon:Zv (kb+1) w9 (w9.setCell ⟨kb+1,5,none⟩ (.slice (some ⟨g9,0,none⟩) (acc.length+1) q9)):=Zv.set;have P9:Hid (RdAt (w9.setCell ⟨kb+1,5,none⟩ (.slice (some ⟨g9,0,none⟩) (acc.length+1) q9)) rb lp cap ts j2):=(P6.out.below hb hrB).only hon (by omega);have O9:Hid (Off [rb] w (w9.setCell ⟨kb+1,5,none⟩ (.slice (some ⟨g9,0,none⟩) (acc.length+1) q9))):=(O6.out.under (by omega) hb).only hon (by omega);have R9:Hid (Blk (w9.setCell ⟨kb+1,5,none⟩ (.slice (some ⟨g9,0,none⟩) (acc.length+1) q9)) w.heap.size #[.int .i64 0,.int .i64 0,.string ⟨#[]⟩,.string ⟨#[]⟩,.slice none 0 0,.slice none 0 0] 108):=(R6.out.below hb (by omega)).only hon (by omega);have E9:Hid (Blk (w9.setCell ⟨kb+1,5,none⟩ (.slice (some ⟨g9,0,none⟩) (acc.length+1) q9)) (kb+1) #[.int .i64 10,.int .i64 0,.string ⟨#[]⟩,.string ⟨#[]⟩,.slice (some ⟨kb,0,none⟩) 1 1,.slice (some ⟨g9,0,none⟩) (acc.length+1) q9] 108):=E8.out.same (j:=5) rfl;have K9:Hid (Zh 108 6 OXT (w9.setCell ⟨kb+1,5,none⟩ (.slice (some ⟨g9,0,none⟩) (acc.length+1) q9)) (w.heap.size+1) (kb+1) (.slice (some ⟨kb,0,none⟩) 1 1) [x1]):=(K6.out.keep OXT.keeps hb.size (λa h1 h2=>hb.block a (by omega))).only OXT.keeps hon (.inr (sqR _));have G9:Hid (Zh 64 2 OCT (w9.setCell ⟨kb+1,5,none⟩ (.slice (some ⟨g9,0,none⟩) (acc.length+1) q9)) B (w9.setCell ⟨kb+1,5,none⟩ (.slice (some ⟨g9,0,none⟩) (acc.length+1) q9)).heap.size (.slice (some ⟨g9,0,none⟩) (acc.length+1) q9) (acc ++ [c2])):=(hg9.only OCT.keeps hon (.inl hkB)).more (sqR _) (Nat.le_of_eq hon.size.symm) (sqR _);have s5:w9.cell? ⟨kb+1,5,none⟩=some (.slice cp acc.length cc):=E8.out.cell 5 _ rfl;have t5:=E8.out.frozen 5;clear hg9 hb9 KA hb hon;refine hK.out _ _ trivial (λ_=>?_);clear hK K
         try simp only [sqP]
         refine oneH 6 rfl (λK hK=>?_)
         go_simp
         refine hK.out _ _ trivial (λ_=>?_);clear hK K
         try simp only [sqP]
         refine oneH 7 rfl (λK hK=>?_)
         go_simp
         refine hK.out _ _ trivial (λ_=>?_);clear hK K s5 t5;refine wpAnyH_done (by kernel_rfl) ?_ _;go_wp2_with fail
         go_meet
         case rel=>exact ⟨g9,q9,(by first | trivial | rfl),P9,O9,R9,E9,K9,G9⟩
       . go_simp
         refine hK.out _ _ trivial (λ_=>?_);clear hK K
         try simp only [sqP]
         refine oneH 1 rfl (λK hK=>?_)
         go_simp
         refine hK.out _ _ trivial (λ_=>?_);clear hK K
         try simp only [sqP]
         refine oneH 5 rfl (λK hK=>?_);refine Zac OCT.keeps 38 64 2 48 _ (by rfl) _ _ (by rfl) underlying38 Zat rfl (by decide) (by decide) B w2.heap.size (.slice cp acc.length cc) acc (by rfl) [.slice y1 y2 y3,.slice y4 y5 y6] _ (by rfl) (by rfl) c2 cf G6.out C6.out.1 C6.out.2.1 C6.out.2.2 rfl ZaX (by have:=HAL.out;omega) ?_;intro g9 q9 w9 hg9 hb9;have KA:Bz w6 (w6.alloc (.cells #[.slice y1 y2 y3,.slice y4 y5 y6] 64)):=(sqN _ _);have hb:Below B w6 w9:=(KA.mono S6.out).trans hb9;have E8:=hid (E6.out.below hb hkB);have hon:Zv (kb+1) w9 (w9.setCell ⟨kb+1,5,none⟩ (.slice (some ⟨g9,0,none⟩) (acc.length+1) q9)):=Zv.set;have P9:Hid (RdAt (w9.setCell ⟨kb+1,5,none⟩ (.slice (some ⟨g9,0,none⟩) (acc.length+1) q9)) rb lp cap ts j2):=(P6.out.below hb hrB).only hon (by omega);have O9:Hid (Off [rb] w (w9.setCell ⟨kb+1,5,none⟩ (.slice (some ⟨g9,0,none⟩) (acc.length+1) q9))):=(O6.out.under (by omega) hb).only hon (by omega);have R9:Hid (Blk (w9.setCell ⟨kb+1,5,none⟩ (.slice (some ⟨g9,0,none⟩) (acc.length+1) q9)) w.heap.size #[.int .i64 0,.int .i64 0,.string ⟨#[]⟩,.string ⟨#[]⟩,.slice none 0 0,.slice none 0 0] 108):=(R6.out.below hb (by omega)).only hon (by omega);have E9:Hid (Blk (w9.setCell ⟨kb+1,5,none⟩ (.slice (some ⟨g9,0,none⟩) (acc.length+1) q9)) (kb+1) #[.int .i64 10,.int .i64 0,.string ⟨#[]⟩,.string ⟨#[]⟩,.slice (some ⟨kb,0,none⟩) 1 1,.slice (some ⟨g9,0,none⟩) (acc.length+1) q9] 108):=E8.out.same (j:=5) rfl;have K9:Hid (Zh 108 6 OXT (w9.setCell ⟨kb+1,5,none⟩ (.slice (some ⟨g9,0,none⟩) (acc.length+1) q9)) (w.heap.size+1) (kb+1) (.slice (some ⟨kb,0,none⟩) 1 1) [x1]):=(K6.out.keep OXT.keeps hb.size (λa h1 h2=>hb.block a (by omega))).only OXT.keeps hon (.inr (sqR _));have G9:Hid (Zh 64 2 OCT (w9.setCell ⟨kb+1,5,none⟩ (.slice (some ⟨g9,0,none⟩) (acc.length+1) q9)) B (w9.setCell ⟨kb+1,5,none⟩ (.slice (some ⟨g9,0,none⟩) (acc.length+1) q9)).heap.size (.slice (some ⟨g9,0,none⟩) (acc.length+1) q9) (acc ++ [c2])):=(hg9.only OCT.keeps hon (.inl hkB)).more (sqR _) (Nat.le_of_eq hon.size.symm) (sqR _);have s5:w9.cell? ⟨kb+1,5,none⟩=some (.slice cp acc.length cc):=E8.out.cell 5 _ rfl;have t5:=E8.out.frozen 5;clear hg9 hb9 KA hb hon;refine hK.out _ _ trivial (λ_=>?_);clear hK K
         try simp only [sqP]
         refine oneH 6 rfl (λK hK=>?_)
         go_simp
         refine hK.out _ _ trivial (λ_=>?_);clear hK K
         try simp only [sqP]
         refine oneH 7 rfl (λK hK=>?_)
         go_simp
         refine hK.out _ _ trivial (λ_=>?_);clear hK K s5 t5;refine wpAnyH_done (by kernel_rfl) ?_ _;go_wp2_with fail
         go_meet
         case rel=>exact ⟨g9,q9,(by first | trivial | rfl),P9,O9,R9,E9,K9,G9⟩
   case rest =>
    obtain ⟨g9,q9,rfl,P9,O9,R9,E9,K9,G9⟩:=hcut;have HQ0:=hid HY1.out.symm;have HA1:(acc ++ [c2]).length=acc.length+1:=(by simp);have HA0:Hid ((acc ++ [c2]).length<=1+j2):=(by show _<=_;have:=HAC.out;rw [HA1];omega);rw [<-HA1] at G9 E9;clear P2 O2 R2 E2 K2 G2 CS HY1;generalize acc ++ [c2]=acc0 at *;clear HA1 HAL HAC;go_wp2_with fail
    go_loopw [] (λwr=>∃ (k j:Nat) (acc:List Cl) (cp:Option Addr) (cc:Nat),Hid (RdAt wr rb lp cap ts j)/\Hid (Off [rb] w wr)/\Hid (Blk wr w.heap.size #[.int .i64 0,.int .i64 0,.string ⟨#[]⟩,.string ⟨#[]⟩,.slice none 0 0,.slice none 0 0] 108)/\Hid (Blk wr (kb+1) #[.int .i64 10,.int .i64 0,.string ⟨#[]⟩,.string ⟨#[]⟩,.slice (some ⟨kb,0,none⟩) 1 1,.slice cp acc.length cc] 108)/\Hid (Zh 108 6 OXT wr (w.heap.size+1) (kb+1) (.slice (some ⟨kb,0,none⟩) 1 1) [x1])/\Hid (Zh 64 2 OCT wr B wr.heap.size (.slice cp acc.length cc) acc)/\Hid (acc.length<=1+j)/\Hid ((if isS ts (j,false) [59] then Zal ts E k acc (j+1,false) else (acc,(j,false)))=RC)/\j<=ts.length/\i<=j/\ts.length<k+(j+1)) (λwr=>ts.length+1 - posM wr rb)
    case atStart=>exact ⟨ts.length,j2,acc0,_,q9,P9,O9,R9,E9,K9,G9,HA0,HQ0,hle3,by omega,by omega⟩
    case round =>
     clear P9 O9 R9 E9 K9 G9 HA0 HQ0;obtain ⟨k,j,acc,cp,cc,P3,O3,R3,E3,K3,G3,HA,HQ,hj,hij,hkj⟩:=hrel;have HAL:Hid (acc.length<=100000000):=(by show _<=_;have:=HA.out;omega);have SG:=hid (ZZ wr rb lp cap ts j ⟨#[59]⟩ P3.out hj hlen (by simp));have HPO:=hid P3.out.pos
     cases hc:isS ts (j,false) [59] with
     | false =>
      rw [hc] at SG HQ;have HRC:Hid (RC=(acc,(j,false))):=HQ.out.symm;have NE:Hid (∀ w1,RdAt w1 rb lp cap ts j->Calls prog 70 #[.pointer (some ⟨rb,0,none⟩),.slice (some ⟨w1.heap.size,0,none⟩) 1 1] (w1.alloc (.cells #[.string ⟨#[101,110,100]⟩] 9)) (Rd ts rb lp cap w1 (takeS ts (j,false) [101,110,100]) λv _=>v=.tuple #[])):=λw1 h1=>ZW w1 rb lp cap ts j ⟨#[101,110,100]⟩ h1 hj hlen (by simp);have HYF:Hid (RES=(.mk 10 0 (bs []) (bs []) [x1] acc,takeS ts (j,false) [101,110,100])):=(by show _=_;rw [HY.out,HRC.out]);generalize takeS ts (j,false) [101,110,100]=s4 at *;obtain ⟨j4,b4⟩:=s4;clear HQ HRC HA HAL hc hkj;go_wp2_with fail;refine SG.out.mono ?_;rintro e w5 ⟨rfl,hp5,ho5⟩;have P5:=hid hp5;have O5:=hid (O3.out.trans ho5);have R5:=hid (R3.out.off ho5 hne);have E5:=hid (E3.out.off ho5 hner);have K5:=hid (K3.out.off OXT.keeps ho5 (by omega));have G5:Hid (Zh 64 2 OCT w5 B w5.heap.size (.slice cp acc.length cc) acc):=(G3.out.off OCT.keeps ho5 hrB).more (sqR _) ho5.size (sqR _);clear hp5 ho5 P3 O3 R3 E3 K3 G3 SG;go_wp2_with fail;refine (NE.out w5 P5.out).mono ?_;rintro e w7 hr
      cases b4 with
      | true =>
       obtain rfl:=hr.bad rfl;refine ⟨rfl,?_⟩;exact hr.fail O5.out rfl (by rw [HYF.out])
      | false =>
       obtain ⟨v,rfl,hp7,rfl⟩:=hr.ok rfl;have ho7:=hr.off;have P7:=hid hp7;have O7:=hid (O5.out.trans ho7);have R7:=hid (R5.out.off ho7 hne);have E7:=hid (E5.out.off ho7 hner);have K7:=hid (K5.out.off OXT.keeps ho7 (by omega));have G7:Hid (Zh 64 2 OCT w7 B w7.heap.size (.slice cp acc.length cc) acc):=(G5.out.off OCT.keeps ho7 hrB).more (sqR _) ho7.size (sqR _);have ce0:w7.cell? ⟨(kb+1),0,none⟩=some (.int .i64 10):=E7.out.cell 0 _ rfl;have ce1:w7.cell? ⟨(kb+1),1,none⟩=some (.int .i64 0):=E7.out.cell 1 _ rfl;have ce2:w7.cell? ⟨(kb+1),2,none⟩=some (.string ⟨#[]⟩):=E7.out.cell 2 _ rfl;have ce3:w7.cell? ⟨(kb+1),3,none⟩=some (.string ⟨#[]⟩):=E7.out.cell 3 _ rfl;have ce4:w7.cell? ⟨(kb+1),4,none⟩=some (.slice (some ⟨kb,0,none⟩) 1 1):=E7.out.cell 4 _ rfl;have ce5:w7.cell? ⟨(kb+1),5,none⟩=some (.slice cp acc.length cc):=E7.out.cell 5 _ rfl;have cR0:w7.cell? ⟨w.heap.size,0,none⟩=some (.int .i64 0):=R7.out.cell 0 _ rfl;have zR0:=R7.out.frozen 0;have cR1:w7.cell? ⟨w.heap.size,1,none⟩=some (.int .i64 0):=R7.out.cell 1 _ rfl;have zR1:=R7.out.frozen 1;have cR2:w7.cell? ⟨w.heap.size,2,none⟩=some (.string ⟨#[]⟩):=R7.out.cell 2 _ rfl;have zR2:=R7.out.frozen 2;have cR3:w7.cell? ⟨w.heap.size,3,none⟩=some (.string ⟨#[]⟩):=R7.out.cell 3 _ rfl;have zR3:=R7.out.frozen 3;have cR4:w7.cell? ⟨w.heap.size,4,none⟩=some (.slice none 0 0):=R7.out.cell 4 _ rfl;have zR4:=R7.out.frozen 4;have cR5:w7.cell? ⟨w.heap.size,5,none⟩=some (.slice none 0 0):=R7.out.cell 5 _ rfl;have zR5:=R7.out.frozen 5;obtain ⟨f1,r1,n1,g1,-,-⟩:=Zh.done K7.out;obtain ⟨f2,r2,n2,g2,-,-⟩:=Zh.done G7.out
       have FT:Hid (OXT w7 [.int .i64 10,.int .i64 0,.string ⟨#[]⟩,.string ⟨#[]⟩,.slice (some ⟨kb,0,none⟩) 1 1,.slice cp acc.length cc] (.mk 10 0 (bs []) (bs []) [x1] acc) (f1 ++ f2)/\(f1 ++ f2).Nodup/\∀ a ∈ f1 ++ f2,w.heap.size+1<=a/\a<w7.heap.size):=⟨OXT.mk (Zi (by omega) (by omega)) (Zi (by omega) (by omega)) ZA ZA r1 r2,List.nodup_append.2 ⟨n1,n2,λa ha b hb=>by have:=g1 a ha;have:=g2 b hb;omega⟩,λa ha=>by
        rcases List.mem_append.1 ha with h | h
        . have:=g1 a h;have:=E7.out.lt;omega
        . have:=g2 a h;omega⟩
       clear r1 n1 g1 r2 n2 g2 hr hp7 ho7;go_wp2_with fail;have hon:=Zo (b:=w.heap.size) (w:=w7) (c0:=.int .i64 10) (c1:=.int .i64 0) (c2:=.string ⟨#[]⟩) (c3:=.string ⟨#[]⟩) (c4:=.slice (some ⟨kb,0,none⟩) 1 1) (c5:=.slice cp acc.length cc);have hbk:=Zx R7.out (.int .i64 10) (.int .i64 0) (.string ⟨#[]⟩) (.string ⟨#[]⟩) (.slice (some ⟨kb,0,none⟩) 1 1) (.slice cp acc.length cc);refine bodyPost_ret (v:=.agg #[.int .i64 10,.int .i64 0,.string ⟨#[]⟩,.string ⟨#[]⟩,.slice (some ⟨kb,0,none⟩) 1 1,.slice cp acc.length cc]) (results_cell_row (by rfl) _ _ w.heap.size 108 _ (0,0) _ (by rfl) hbk underlying108 rfl (by kernel_rfl)) rfl ?_;rw [HYF.out];exact ⟨O7.out.only hon (sqR _),λ_=>⟨_,rfl,P7.out.only hon hwb,_,(f1 ++ f2),rfl,OXT.only (FT.out.1) hon (λha=>by have:=FT.out.2.2 _ ha;omega),FT.out.2.1,λa ha=>⟨by have:=FT.out.2.2 a ha;omega,by have:=FT.out.2.2 a ha;have:=hon.size;omega⟩⟩,λe=>(by cases e)⟩
     | true =>
      rw [hc] at SG HQ;obtain ⟨hlt,-⟩:=ZM hc;simp only at hlt;obtain ⟨k,rfl⟩:∃ k',k=k'+1:=⟨k - 1,by omega⟩
      have HY1:Hid (RC=if isS ts (pClause ts E (j+1,false)).2 [59] then Zal ts E k (acc ++ [(pClause ts E (j+1,false)).1]) (adv (pClause ts E (j+1,false)).2) else (acc ++ [(pClause ts E (j+1,false)).1],(pClause ts E (j+1,false)).2)):=by
       show _=_;rw [<-HQ.out];exact Zdm ts E k acc (j+1)
      have g3:=Zbt HG.out (j+1,false);have hge3:j+1<=(pClause ts E (j+1,false)).2.1:=g3.ge;have hle3:(pClause ts E (j+1,false)).2.1<=ts.length:=g3.le hlt;have CS:Hid (∀ w1,RdAt w1 rb lp cap ts (j+1)->Calls prog 167 #[.pointer (some ⟨rb,0,none⟩)] w1 (Rd ts rb lp cap w1 (pClause ts E (j+1,false)).2 (ClK w1 (pClause ts E (j+1,false)).1))):=λw1 h1=>HC.out w1 rb lp cap (j+1) h1 hlt (by omega);generalize pClause ts E (j+1,false)=PC at *;obtain ⟨c2,j2,b2⟩:=PC;simp only at hge3 hle3;clear HQ g3 hc;go_wp2_with fail;refine SG.out.mono ?_;rintro e w5 ⟨rfl,hp5,ho5⟩;have P5:=hid hp5;have O5:=hid (O3.out.trans ho5);have R5:=hid (R3.out.off ho5 hne);have E5:=hid (E3.out.off ho5 hner);have K5:=hid (K3.out.off OXT.keeps ho5 (by omega));have G5:Hid (Zh 64 2 OCT w5 B w5.heap.size (.slice cp acc.length cc) acc):=(G3.out.off OCT.keeps ho5 hrB).more (sqR _) ho5.size (sqR _);clear hp5 ho5 P3 O3 R3 E3 K3 G3 SG;go_wp2_with fail;have l5:w5.cell? ⟨kb+1,5,none⟩=some (.slice cp acc.length cc):=E5.out.cell 5 _ rfl;refine wp_region_held_drew (S:=λ_=>True) (by kernel_rfl) trivial (λhHeld=>?_);refine tkP 0 (v:=.pointer (some ⟨kb+1,5,none⟩)) rfl (by rfl) (λw' hS=>by go_simp) hHeld ?_
      try simp only [sqP]
      refine tkP 2 (v:=.pointer (some ⟨rb,0,none⟩)) rfl (by rfl) (λw' hS=>by go_simp) hHeld ?_
      try simp only [sqP]
      refine twoH 1 3 rfl rfl (λK hK=>?_) (λK hK=>?_)
      . go_simp
        refine hK.out _ _ trivial (λ_=>?_);clear hK K
        try simp only [sqP]
        refine oneH 3 rfl (λK hK=>?_)
        go_simp
        go_at_call 167
        refine (CS.out _ P5.out.dr).mono ?_;rintro e w6 hr
        cases b2 with
        | true =>
         obtain rfl:=hr.bad rfl;refine ⟨rfl,?_⟩;exact hr.fail O5.out.drO rfl (by rw [HY.out,HY1.out];simp only [ZaA,ZK,Bool.false_eq_true,if_false])
        | false =>
         obtain ⟨v,rfl,hp6,ccs,cf,rfl,hx6,nd6,rg6⟩:=hr.ok rfl;obtain ⟨y1,y2,y3,y4,y5,y6,rfl⟩:=OCT.shapeP hx6;have ho6:Off [rb] w5 w6:=Off.drI hr.off;have P6:=hid hp6;have O6:=hid (O5.out.trans ho6);have R6:=hid (R5.out.off ho6 hne);have E6:=hid (E5.out.off ho6 hner);have K6:=hid (K5.out.off OXT.keeps ho6 (by omega));have G6:=hid (G5.out.off OCT.keeps ho6 hrB);have C6:Hid (OCT w6 [.slice y1 y2 y3,.slice y4 y5 y6] c2 cf/\cf.Nodup/\∀ a ∈ cf,w5.heap.size<=a/\a<w6.heap.size):=⟨hx6,nd6,rg6⟩;have KA:Bz w6 (w6.alloc (.cells #[.slice y1 y2 y3,.slice y4 y5 y6] 64)):=(sqN _ _);have S6:=hid (Nat.le_trans (G5.out.le) ho6.size);have E6a:=hid (E6.out.next KA);have e5:w6.cell? ⟨kb+1,5,none⟩=some (.slice cp acc.length cc):=E6.out.cell 5 _ rfl;have f5:(w6.alloc (.cells #[.slice y1 y2 y3,.slice y4 y5 y6] 64)).cell? ⟨kb+1,5,none⟩=some (.slice cp acc.length cc):=E6a.out.cell 5 _ rfl;clear hr hp6 hx6 nd6 rg6 ho6 KA;refine hK.out _ _ trivial (λ_=>?_);clear hK K
         try simp only [sqP]
         refine oneH 4 rfl (λK hK=>?_)
         go_simp
         refine hK.out _ _ trivial (λ_=>?_);clear hK K
         try simp only [sqP]
         refine oneH 5 rfl (λK hK=>?_);refine Zac OCT.keeps 38 64 2 48 _ (by rfl) _ _ (by rfl) underlying38 Zat rfl (by decide) (by decide) B w5.heap.size (.slice cp acc.length cc) acc (by rfl) [.slice y1 y2 y3,.slice y4 y5 y6] _ (by rfl) (by rfl) c2 cf G6.out C6.out.1 C6.out.2.1 C6.out.2.2 rfl ZaX (by have:=HAL.out;omega) ?_;intro g9 q9 w9 hg9 hb9;have KA:Bz w6 (w6.alloc (.cells #[.slice y1 y2 y3,.slice y4 y5 y6] 64)):=(sqN _ _);have hb:Below B w6 w9:=(KA.mono S6.out).trans hb9;have E8:=hid (E6.out.below hb hkB);have hon:Zv (kb+1) w9 (w9.setCell ⟨kb+1,5,none⟩ (.slice (some ⟨g9,0,none⟩) (acc.length+1) q9)):=Zv.set;have P9:Hid (RdAt (w9.setCell ⟨kb+1,5,none⟩ (.slice (some ⟨g9,0,none⟩) (acc.length+1) q9)) rb lp cap ts j2):=(P6.out.below hb hrB).only hon (by omega);have O9:Hid (Off [rb] w (w9.setCell ⟨kb+1,5,none⟩ (.slice (some ⟨g9,0,none⟩) (acc.length+1) q9))):=(O6.out.under (by omega) hb).only hon (by omega);have R9:Hid (Blk (w9.setCell ⟨kb+1,5,none⟩ (.slice (some ⟨g9,0,none⟩) (acc.length+1) q9)) w.heap.size #[.int .i64 0,.int .i64 0,.string ⟨#[]⟩,.string ⟨#[]⟩,.slice none 0 0,.slice none 0 0] 108):=(R6.out.below hb (by omega)).only hon (by omega);have E9:Hid (Blk (w9.setCell ⟨kb+1,5,none⟩ (.slice (some ⟨g9,0,none⟩) (acc.length+1) q9)) (kb+1) #[.int .i64 10,.int .i64 0,.string ⟨#[]⟩,.string ⟨#[]⟩,.slice (some ⟨kb,0,none⟩) 1 1,.slice (some ⟨g9,0,none⟩) (acc.length+1) q9] 108):=E8.out.same (j:=5) rfl;have K9:Hid (Zh 108 6 OXT (w9.setCell ⟨kb+1,5,none⟩ (.slice (some ⟨g9,0,none⟩) (acc.length+1) q9)) (w.heap.size+1) (kb+1) (.slice (some ⟨kb,0,none⟩) 1 1) [x1]):=(K6.out.keep OXT.keeps hb.size (λa h1 h2=>hb.block a (by omega))).only OXT.keeps hon (.inr (sqR _));have G9:Hid (Zh 64 2 OCT (w9.setCell ⟨kb+1,5,none⟩ (.slice (some ⟨g9,0,none⟩) (acc.length+1) q9)) B (w9.setCell ⟨kb+1,5,none⟩ (.slice (some ⟨g9,0,none⟩) (acc.length+1) q9)).heap.size (.slice (some ⟨g9,0,none⟩) (acc.length+1) q9) (acc ++ [c2])):=(hg9.only OCT.keeps hon (.inl hkB)).more (sqR _) (Nat.le_of_eq hon.size.symm) (sqR _);have s5:w9.cell? ⟨kb+1,5,none⟩=some (.slice cp acc.length cc):=E8.out.cell 5 _ rfl;have t5:=E8.out.frozen 5;clear hg9 hb9 KA hb hon;refine hK.out _ _ trivial (λ_=>?_);clear hK K
         try simp only [sqP]
         refine oneH 6 rfl (λK hK=>?_)
         go_simp
         refine hK.out _ _ trivial (λ_=>?_);clear hK K
         try simp only [sqP]
         refine oneH 7 rfl (λK hK=>?_)
         go_simp
         refine hK.out _ _ trivial (λ_=>?_);clear hK K s5 t5;refine wpAnyH_done (by kernel_rfl) ?_ _;have HA1:(acc ++ [c2]).length=acc.length+1:=(by simp);have HA9:Hid ((acc ++ [c2]).length<=1+j2):=(by show _<=_;have:=HA.out;rw [HA1];omega);go_wp2_with fail;exact ⟨⟨k,j2,acc ++ [c2],some ⟨g9,0,none⟩,q9,P9,O9,R9,(by rw [HA1];exact E9),K9,(by rw [HA1];exact G9),HA9,HY1.out.symm,hle3,by omega,by omega⟩,by rw [P9.out.pos,HPO.out];omega⟩
      . go_simp
        go_at_call 167
        refine (CS.out _ P5.out.dr).mono ?_;rintro e w6 hr
        cases b2 with
        | true =>
         obtain rfl:=hr.bad rfl;refine ⟨rfl,?_⟩;exact hr.fail O5.out.drO rfl (by rw [HY.out,HY1.out];simp only [ZaA,ZK,Bool.false_eq_true,if_false])
        | false =>
         obtain ⟨v,rfl,hp6,ccs,cf,rfl,hx6,nd6,rg6⟩:=hr.ok rfl;obtain ⟨y1,y2,y3,y4,y5,y6,rfl⟩:=OCT.shapeP hx6;have ho6:Off [rb] w5 w6:=Off.drI hr.off;have P6:=hid hp6;have O6:=hid (O5.out.trans ho6);have R6:=hid (R5.out.off ho6 hne);have E6:=hid (E5.out.off ho6 hner);have K6:=hid (K5.out.off OXT.keeps ho6 (by omega));have G6:=hid (G5.out.off OCT.keeps ho6 hrB);have C6:Hid (OCT w6 [.slice y1 y2 y3,.slice y4 y5 y6] c2 cf/\cf.Nodup/\∀ a ∈ cf,w5.heap.size<=a/\a<w6.heap.size):=⟨hx6,nd6,rg6⟩;have KA:Bz w6 (w6.alloc (.cells #[.slice y1 y2 y3,.slice y4 y5 y6] 64)):=(sqN _ _);have S6:=hid (Nat.le_trans (G5.out.le) ho6.size);have E6a:=hid (E6.out.next KA);have e5:w6.cell? ⟨kb+1,5,none⟩=some (.slice cp acc.length cc):=E6.out.cell 5 _ rfl;have f5:(w6.alloc (.cells #[.slice y1 y2 y3,.slice y4 y5 y6] 64)).cell? ⟨kb+1,5,none⟩=some (.slice cp acc.length cc):=E6a.out.cell 5 _ rfl;clear hr hp6 hx6 nd6 rg6 ho6 KA;refine hK.out _ _ trivial (λ_=>?_);clear hK K
         try simp only [sqP]
         refine twoH 1 4 rfl rfl (λK hK=>?_) (λK hK=>?_)
         . go_simp
           refine hK.out _ _ trivial (λ_=>?_);clear hK K
           try simp only [sqP]
           refine oneH 4 rfl (λK hK=>?_)
           go_simp
           refine hK.out _ _ trivial (λ_=>?_);clear hK K
           try simp only [sqP]
           refine oneH 5 rfl (λK hK=>?_);refine Zac OCT.keeps 38 64 2 48 _ (by rfl) _ _ (by rfl) underlying38 Zat rfl (by decide) (by decide) B w5.heap.size (.slice cp acc.length cc) acc (by rfl) [.slice y1 y2 y3,.slice y4 y5 y6] _ (by rfl) (by rfl) c2 cf G6.out C6.out.1 C6.out.2.1 C6.out.2.2 rfl ZaX (by have:=HAL.out;omega) ?_;intro g9 q9 w9 hg9 hb9;have KA:Bz w6 (w6.alloc (.cells #[.slice y1 y2 y3,.slice y4 y5 y6] 64)):=(sqN _ _);have hb:Below B w6 w9:=(KA.mono S6.out).trans hb9;have E8:=hid (E6.out.below hb hkB);have hon:Zv (kb+1) w9 (w9.setCell ⟨kb+1,5,none⟩ (.slice (some ⟨g9,0,none⟩) (acc.length+1) q9)):=Zv.set;have P9:Hid (RdAt (w9.setCell ⟨kb+1,5,none⟩ (.slice (some ⟨g9,0,none⟩) (acc.length+1) q9)) rb lp cap ts j2):=(P6.out.below hb hrB).only hon (by omega);have O9:Hid (Off [rb] w (w9.setCell ⟨kb+1,5,none⟩ (.slice (some ⟨g9,0,none⟩) (acc.length+1) q9))):=(O6.out.under (by omega) hb).only hon (by omega);have R9:Hid (Blk (w9.setCell ⟨kb+1,5,none⟩ (.slice (some ⟨g9,0,none⟩) (acc.length+1) q9)) w.heap.size #[.int .i64 0,.int .i64 0,.string ⟨#[]⟩,.string ⟨#[]⟩,.slice none 0 0,.slice none 0 0] 108):=(R6.out.below hb (by omega)).only hon (by omega);have E9:Hid (Blk (w9.setCell ⟨kb+1,5,none⟩ (.slice (some ⟨g9,0,none⟩) (acc.length+1) q9)) (kb+1) #[.int .i64 10,.int .i64 0,.string ⟨#[]⟩,.string ⟨#[]⟩,.slice (some ⟨kb,0,none⟩) 1 1,.slice (some ⟨g9,0,none⟩) (acc.length+1) q9] 108):=E8.out.same (j:=5) rfl;have K9:Hid (Zh 108 6 OXT (w9.setCell ⟨kb+1,5,none⟩ (.slice (some ⟨g9,0,none⟩) (acc.length+1) q9)) (w.heap.size+1) (kb+1) (.slice (some ⟨kb,0,none⟩) 1 1) [x1]):=(K6.out.keep OXT.keeps hb.size (λa h1 h2=>hb.block a (by omega))).only OXT.keeps hon (.inr (sqR _));have G9:Hid (Zh 64 2 OCT (w9.setCell ⟨kb+1,5,none⟩ (.slice (some ⟨g9,0,none⟩) (acc.length+1) q9)) B (w9.setCell ⟨kb+1,5,none⟩ (.slice (some ⟨g9,0,none⟩) (acc.length+1) q9)).heap.size (.slice (some ⟨g9,0,none⟩) (acc.length+1) q9) (acc ++ [c2])):=(hg9.only OCT.keeps hon (.inl hkB)).more (sqR _) (Nat.le_of_eq hon.size.symm) (sqR _);have s5:w9.cell? ⟨kb+1,5,none⟩=some (.slice cp acc.length cc):=E8.out.cell 5 _ rfl;have t5:=E8.out.frozen 5;clear hg9 hb9 KA hb hon;refine hK.out _ _ trivial (λ_=>?_);clear hK K
           try simp only [sqP]
           refine oneH 6 rfl (λK hK=>?_)
           go_simp
           refine hK.out _ _ trivial (λ_=>?_);clear hK K
           try simp only [sqP]
           refine oneH 7 rfl (λK hK=>?_)
           go_simp
           refine hK.out _ _ trivial (λ_=>?_);clear hK K s5 t5;refine wpAnyH_done (by kernel_rfl) ?_ _;have HA1:(acc ++ [c2]).length=acc.length+1:=(by simp);have HA9:Hid ((acc ++ [c2]).length<=1+j2):=(by show _<=_;have:=HA.out;rw [HA1];omega);go_wp2_with fail;exact ⟨⟨k,j2,acc ++ [c2],some ⟨g9,0,none⟩,q9,P9,O9,R9,(by rw [HA1];exact E9),K9,(by rw [HA1];exact G9),HA9,HY1.out.symm,hle3,by omega,by omega⟩,by rw [P9.out.pos,HPO.out];omega⟩
         . go_simp
           refine hK.out _ _ trivial (λ_=>?_);clear hK K
           try simp only [sqP]
           refine oneH 1 rfl (λK hK=>?_)
           go_simp
           refine hK.out _ _ trivial (λ_=>?_);clear hK K
           try simp only [sqP]
           refine oneH 5 rfl (λK hK=>?_);refine Zac OCT.keeps 38 64 2 48 _ (by rfl) _ _ (by rfl) underlying38 Zat rfl (by decide) (by decide) B w5.heap.size (.slice cp acc.length cc) acc (by rfl) [.slice y1 y2 y3,.slice y4 y5 y6] _ (by rfl) (by rfl) c2 cf G6.out C6.out.1 C6.out.2.1 C6.out.2.2 rfl ZaX (by have:=HAL.out;omega) ?_;intro g9 q9 w9 hg9 hb9;have KA:Bz w6 (w6.alloc (.cells #[.slice y1 y2 y3,.slice y4 y5 y6] 64)):=(sqN _ _);have hb:Below B w6 w9:=(KA.mono S6.out).trans hb9;have E8:=hid (E6.out.below hb hkB);have hon:Zv (kb+1) w9 (w9.setCell ⟨kb+1,5,none⟩ (.slice (some ⟨g9,0,none⟩) (acc.length+1) q9)):=Zv.set;have P9:Hid (RdAt (w9.setCell ⟨kb+1,5,none⟩ (.slice (some ⟨g9,0,none⟩) (acc.length+1) q9)) rb lp cap ts j2):=(P6.out.below hb hrB).only hon (by omega);have O9:Hid (Off [rb] w (w9.setCell ⟨kb+1,5,none⟩ (.slice (some ⟨g9,0,none⟩) (acc.length+1) q9))):=(O6.out.under (by omega) hb).only hon (by omega);have R9:Hid (Blk (w9.setCell ⟨kb+1,5,none⟩ (.slice (some ⟨g9,0,none⟩) (acc.length+1) q9)) w.heap.size #[.int .i64 0,.int .i64 0,.string ⟨#[]⟩,.string ⟨#[]⟩,.slice none 0 0,.slice none 0 0] 108):=(R6.out.below hb (by omega)).only hon (by omega);have E9:Hid (Blk (w9.setCell ⟨kb+1,5,none⟩ (.slice (some ⟨g9,0,none⟩) (acc.length+1) q9)) (kb+1) #[.int .i64 10,.int .i64 0,.string ⟨#[]⟩,.string ⟨#[]⟩,.slice (some ⟨kb,0,none⟩) 1 1,.slice (some ⟨g9,0,none⟩) (acc.length+1) q9] 108):=E8.out.same (j:=5) rfl;have K9:Hid (Zh 108 6 OXT (w9.setCell ⟨kb+1,5,none⟩ (.slice (some ⟨g9,0,none⟩) (acc.length+1) q9)) (w.heap.size+1) (kb+1) (.slice (some ⟨kb,0,none⟩) 1 1) [x1]):=(K6.out.keep OXT.keeps hb.size (λa h1 h2=>hb.block a (by omega))).only OXT.keeps hon (.inr (sqR _));have G9:Hid (Zh 64 2 OCT (w9.setCell ⟨kb+1,5,none⟩ (.slice (some ⟨g9,0,none⟩) (acc.length+1) q9)) B (w9.setCell ⟨kb+1,5,none⟩ (.slice (some ⟨g9,0,none⟩) (acc.length+1) q9)).heap.size (.slice (some ⟨g9,0,none⟩) (acc.length+1) q9) (acc ++ [c2])):=(hg9.only OCT.keeps hon (.inl hkB)).more (sqR _) (Nat.le_of_eq hon.size.symm) (sqR _);have s5:w9.cell? ⟨kb+1,5,none⟩=some (.slice cp acc.length cc):=E8.out.cell 5 _ rfl;have t5:=E8.out.frozen 5;clear hg9 hb9 KA hb hon;refine hK.out _ _ trivial (λ_=>?_);clear hK K
           try simp only [sqP]
           refine oneH 6 rfl (λK hK=>?_)
           go_simp
           refine hK.out _ _ trivial (λ_=>?_);clear hK K
           try simp only [sqP]
           refine oneH 7 rfl (λK hK=>?_)
           go_simp
           refine hK.out _ _ trivial (λ_=>?_);clear hK K s5 t5;refine wpAnyH_done (by kernel_rfl) ?_ _;have HA1:(acc ++ [c2]).length=acc.length+1:=(by simp);have HA9:Hid ((acc ++ [c2]).length<=1+j2):=(by show _<=_;have:=HA.out;rw [HA1];omega);go_wp2_with fail;exact ⟨⟨k,j2,acc ++ [c2],some ⟨g9,0,none⟩,q9,P9,O9,R9,(by rw [HA1];exact E9),K9,(by rw [HA1];exact G9),HA9,HY1.out.symm,hle3,by omega,by omega⟩,by rw [P9.out.pos,HPO.out];omega⟩
end
end Go.Proofs.YtacioihbhkcdcaaGreatDoor
