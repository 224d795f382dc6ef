/-
  Mark ExMark RefMark FunMark RefHeld FunHeld ModMark MdHeld
-/
import Derived.Test.YtacioihbhkcdcaaGreatDoorP03
import Derived.OpenShut
import Derived.WalkSpells
import Derived.Lib.ItoaNum
set_option maxHeartbeats 16000000
set_option linter.unusedVariables false
set_option maxRecDepth 100000
namespace Go.Proofs.YtacioihbhkcdcaaGreatDoor
open Go.ChangeShapes Go.WideShapes Go.ChangeAt Go.RowKit
section
open Go.Proofs.Tryz
theorem Zjm {a b:List UInt8} (h:a=b):Ending.returned (.string ⟨a.toArray⟩)=.returned (.string ⟨b.toArray⟩):=by rw [h]
theorem Zb9:∀ (k u:Nat),u<10 ^ (k+1)->(Lib.decDigits u).length<=k+1
 | 0,u,h=>by
  rw [Lib.decDigits,dif_pos (by simpa using h)];simp
 | k+1,u,h=>by
  by_cases hu:u<10
  . rw [Lib.decDigits,dif_pos hu];simp
  . rw [Lib.decDigits,dif_neg hu,List.length_append]
    have:=Zb9 k (u / 10) (by rw [Nat.div_lt_iff_lt_mul (by omega)];rw [Nat.pow_succ] at h;exact h);simp only [List.length_cons,List.length_nil];omega
theorem Zkk (x:Nat) (l D:List UInt8) (h:Lib.decDigits x ++ l=D) :
 (x / 10≠0->Lib.decDigits (x / 10) ++ ((48+UInt8.ofNat (x % 10)) :: l)=D)/\(x / 10=0->(48+UInt8.ofNat (x % 10)) :: l=D):=by
 have e:∀ m:Nat,(48+UInt8.ofNat m)=UInt8.ofNat (48+m):=λm=>(UInt8.ofNat_add 48 m).symm;rw [e];refine ⟨λh0=>?_,λh0=>?_⟩
 . rw [Lib.decDigits,dif_neg (by omega)] at h
   rw [<-h];simp
 . rw [Lib.decDigits,dif_pos (by omega)] at h
   rw [<-h,Nat.mod_eq_of_lt (by omega)];rfl
theorem Zip (c:UInt8) (l:List UInt8):((⟨#[c]⟩:ByteArray) ++ ⟨l.toArray⟩)=⟨(c :: l).toArray⟩:=by
 apply ByteArray.ext;simp
theorem Zkl (wr:World) (x:Nat) :
 Sem.run prog (convert 125 9 (.slice (some ⟨wr.heap.size,0,none⟩) 1 1)) (wr.alloc (.cells #[.int .u8 (48+(x:Int) % 10)] 5)) =
  .ok (.string ⟨#[UInt8.ofNat (48+x % 10)]⟩) (wr.alloc (.cells #[.int .u8 (48+(x:Int) % 10)] 5)):=by
 refine Go.run_convert_bytes_back (P:=prog) _ _ _ 5 ⟨wr.heap.size,0,none⟩ 1 [UInt8.ofNat (48+x % 10)] underlying125 underlying5 underlying9 ?_;intro j hj;simp only [List.length_cons,List.length_nil] at hj;obtain rfl:j=0:=(by omega)
 have e:(UInt8.ofNat (48+x % 10)).toNat=48+x % 10:=by
  rw [UInt8.toNat_ofNat'];omega
 simp only [List.getElem_cons_zero,e];simp [Addr.add]
theorem ZfN (n:Nat) (w:World) (h0:1<=n) (h1:n<=1099511627776) :
 Calls prog 50 #[.int .i64 n] w λe w'=>e=.returned (.string ⟨(109 :: Lib.decDigits n).toArray⟩)/\Bz w w':=by
 have hD:(Lib.decDigits n).length<=13:=Zb9 12 n (by omega);have hz:¬ n=0:=(by omega);go_enter func50,ntmps50;go_wp2
 go_loopw [0,3] (λm o wr=>∃ (x:Nat) (l:List UInt8),m=.int .i64 x/\o=.string ⟨l.toArray⟩/\x<=n/\(x≠0->Lib.decDigits x ++ l=Lib.decDigits n)/\(x=0->l=Lib.decDigits n)/\Bz w wr) (λm _ _=>(intOf m).toNat)
 case atStart=>exact ⟨n,[],rfl,rfl,Nat.le_refl _,λ_=>by simp,λh=>by omega,Below.refl _ _⟩
 case round =>
  obtain ⟨x,l,rfl,rfl,hx,hr1,hr2,hb⟩:=hrel;have H1:=hid hr1;have H2:=hid hr2;have HB:=hid hb;clear hr1 hr2 hb;by_cases hxz:0<x
  . have hcat:=H1.out (by omega)
    have hll:l.length<=20:=(by have:=congrArg List.length hcat;rw [List.length_append] at this;omega);have HS:Hid _:=Zkk x l _ hcat;have hcv:=Zkl wr x;clear hcat H1 H2 hD;go_wp2;refine ⟨⟨x / 10,_,by go_num,by rw [Zip],by omega,HS.out.1,HS.out.2,HB.out.alloc HB.out.size _⟩,?_⟩;simp only [intOf];omega
  . have hl:l=Lib.decDigits n:=H2.out (by omega)
    have hll:l.length<=20:=(by rw [hl];omega);have HL:=hid hl;clear hl hD;go_wp2;go_ret;exact ⟨by rw [Zip];exact Zjm (by rw [HL.out]),HB.out⟩
def Zar (n:Nat):ByteArray:=⟨(109 :: Lib.decDigits n).toArray⟩
theorem ZdC {n:Nat} (h:n<=1099511627776):okS (Zar n):=by
 have hD:(Lib.decDigits n).length<=13:=Zb9 12 n (by omega);unfold okS Zar maxLen;show (109 :: Lib.decDigits n).toArray.size<=_;simp;omega
theorem Zg6 {n:Nat} (h:n<=1099511627776):okI n:=by
 show (Lit.int .i64 (n:Int)).wf=true;have h1:(n:Int)<=1099511627776:=(by omega);have h0:(0:Int)<=n:=(by omega);generalize (n:Int)=z at h1 h0;simp only [Lit.wf,Bool.and_eq_true,decide_eq_true_eq];exact ⟨Int.le_trans (by decide) h0,Int.le_trans h1 (by decide)⟩
theorem ZaF {w:World} (n:Nat) (z:Int) (hz:z=n) (h0:1<=n) (h1:n<=1099511627776) :
 Calls prog 50 #[.int .i64 z] w λe w'=>e=.returned (.string (Zar n))/\Bz w w':=by
 subst hz;exact ZfN n w h0 h1
def cntC (f:Ex->Nat) (c:Cl):Nat:=(c.1.map f).sum+(c.2.map f).sum
def cntE:Nat->Ex->Nat
 | 0,_=>0
 | d+1,e=>4+(e.kids.map (cntE d)).sum+(e.clauses.map (cntC (cntE d))).sum
def Zbr (m:Nat->Ex->Ex) (f:Ex->Nat) (k:Nat) (c:Cl):Cl:=(ZQ m f k c.1,ZQ m f (k+(c.1.map f).sum) c.2)
def Zak:Nat->Nat->Ex->Ex
 | 0,_,e=>e
 | d+1,k,e=>.mk k (k+1) (Zar (k+2)) (Zar (k+3)) (ZQ (Zak d) (cntE d) (k+4) e.kids) (ZQ (Zbr (Zak d) (cntE d)) (cntC (cntE d)) (k+4+(e.kids.map (cntE d)).sum) e.clauses)
def ZeE (d:Nat):Prop :=
 ∀ (w:World) (v:Value) (es:List Ex) (fp:List Nat) (k:Nat),Zy w 108 6 (OEx w d) v es fp->fp.Nodup->1<=k->k+(es.map (cntE d)).sum<=1099511627776 ->
  Calls prog 88 #[v,.int .i64 k] w λe w'=>e=.returned (.int .i64 ((k+(es.map (cntE d)).sum:Nat):Int))/\Zy w' 108 6 (OEx w' d) v (ZQ (Zak d) (cntE d) k es) fp/\Off fp w w'
def ZeF (d:Nat):Prop :=
 ∀ (w:World) (v:Value) (es:List Cl) (fp:List Nat) (k:Nat),Zy w 64 2 (OCls w d) v es fp->fp.Nodup->1<=k->k+(es.map (cntC (cntE d))).sum<=1099511627776 ->
  Calls prog 51 #[v,.int .i64 k] w λe w'=>e=.returned (.int .i64 ((k+(es.map (cntC (cntE d))).sum:Nat):Int))/\Zy w' 64 2 (OCls w' d) v (ZQ (Zbr (Zak d) (cntE d)) (cntC (cntE d)) k es) fp/\Off fp w w'
theorem ZeE.at {d:Nat} (h:ZeE d) {w:World} {v:Value} (es:List Ex) (fp:List Nat) (k:Nat) (z:Int) (hz:z=k) (ho:Zy w 108 6 (OEx w d) v es fp) (hn:fp.Nodup) (h1:1<=k) (hb:k+(es.map (cntE d)).sum<=1099511627776) :
 Calls prog 88 #[v,.int .i64 z] w λe w'=>e=.returned (.int .i64 ((k+(es.map (cntE d)).sum:Nat):Int))/\Zy w' 108 6 (OEx w' d) v (ZQ (Zak d) (cntE d) k es) fp/\Off fp w w':=by
 subst hz;exact h w v es fp k ho hn h1 hb
theorem ZeF.at {d:Nat} (h:ZeF d) {w:World} {v:Value} (es:List Cl) (fp:List Nat) (k:Nat) (z:Int) (hz:z=k) (ho:Zy w 64 2 (OCls w d) v es fp) (hn:fp.Nodup) (h1:1<=k) (hb:k+(es.map (cntC (cntE d))).sum<=1099511627776) :
 Calls prog 51 #[v,.int .i64 z] w λe w'=>e=.returned (.int .i64 ((k+(es.map (cntC (cntE d))).sum:Nat):Int))/\Zy w' 64 2 (OCls w' d) v (ZQ (Zbr (Zak d) (cntE d)) (cntC (cntE d)) k es) fp/\Off fp w w':=by
 subst hz;exact h w v es fp k ho hn h1 hb
theorem ZfO {d:Nat} (ihE:ZeE d):ZeF d:=by
 intro w v es fp k h hnd hk1 hkb;obtain ⟨p,cap,rfl,hcl,hcm⟩:=h.shape;have hnb:=sqM hcl hcm;have HL:Hid ((ZQ (Zbr (Zak d) (cntE d)) (cntC (cntE d)) k es).length=es.length):=ZX _ _ _ _;have HO:=hid h;have HND:Hid fp.Nodup:=hnd;have HKB:=hid hkb;generalize hn:es.length=n at *;have HN:=hid hn;clear h hnd hn hkb;go_enter func51,ntmps51;go_wp2
 go_loopw [1,5] (λkv iv wr=>∃ i kk:Nat,i<=n/\iv=.int .i64 i/\kv=.int .i64 kk/\Hid (kk=k+((es.take i).map (cntC (cntE d))).sum)/\Hid (Zy wr 64 2 (OCls wr d) (.slice p n cap) (mix i (ZQ (Zbr (Zak d) (cntE d)) (cntC (cntE d)) k es) es) fp)/\Hid (Off fp w wr)) (λ_ iv _=>n - (intOf iv).toNat)
 case atStart=>exact ⟨0,k,Nat.zero_le _,rfl,rfl,(by show k=_;simp),(by show Zy _ _ _ _ _ _ _;rw [Zds];exact HO.out),Off.refl _ _⟩
 case round =>
  obtain ⟨i,kk,hi,rfl,rfl,HK,HR,HF⟩:=hrel;by_cases hlt:i<n
  . obtain ⟨x,hxi⟩:=sqA (l:=es) (k:=i) HN.out hlt
    have hml:(mix i (ZQ (Zbr (Zak d) (cntE d)) (cntC (cntE d)) k es) es).length=n:=(by rw [Zce (by rw [HL.out,HN.out]),HN.out]);have hmx:(mix i (ZQ (Zbr (Zak d) (cntE d)) (cntC (cntE d)) k es) es)[i]?=some x:=(by rw [Zgy (by rw [HL.out,HN.out]) (by rw [HN.out];exact hlt)];exact hxi);have HMX:=hid hml
    rcases HR.out with hnil | ⟨hne,cells,g,cap',fps,ho,hv,hl,hfp,hat⟩
    . rw [hnil.1] at hml;simp at hml;omega
    rw [hml] at ho hv hl;obtain ⟨f,hf⟩:∃ f,fps[i]?=some f:=⟨fps[i]'(by rw [hl];exact hlt),List.getElem?_eq_getElem _⟩;obtain ⟨cs,hcs4,hcs,hx⟩:=hat i x f hmx hf
    cases hv
    have hlc:cells.length=n * 2:=ho.1;have hnp:=ZbN (hfp ▸ HND.out);have hsum:((es.take (i+1)).map (cntC (cntE d))).sum=((es.take i).map (cntC (cntE d))).sum+cntC (cntE d) x:=Zam _ es i x hxi;have hle:((es.take (i+1)).map (cntC (cntE d))).sum<=(es.map (cntC (cntE d))).sum:=ZaB _ es (i+1);have hkk:=HK.out;have hkb:=HKB.out;have hg0:g ∈ fp:=(by rw [hfp];simp)
    have hfs:∀ a ∈ f,a ∈ fp:=λa ha=>by rw [hfp];exact List.mem_cons_of_mem _ (List.mem_flatten.2 ⟨f,List.mem_of_getElem? hf,ha⟩)
    have hgf:g ∉ f:=(hnp.1 f (List.mem_of_getElem? hf)).1;have hfn:f.Nodup:=(hnp.1 f (List.mem_of_getElem? hf)).2
    have HMI:Hid ((ZQ (Zbr (Zak d) (cntE d)) (cntC (cntE d)) k es)[i]?=some ((Zbr (Zak d) (cntE d)) kk x)):=by
     show _=_;rw [Zbb _ _ _ _ _ _ hxi,<-HK.out]
    have HAT:=hid hat;have HNP:=hid hnp.2;have HNG:=hid hnp.1;have HFP:=hid hfp;have HNE:=hid hne;have HFS:Hid ((∀ a ∈ f,a ∈ fp)/\g ∈ fp/\g ∉ f/\f.Nodup):=⟨hfs,hg0,hgf,hfn⟩;have hki:(i:Int)<(n:Int):=(by omega);have hi0:=sqI i;clear hat hnp hfp hne hfs hg0 hgf hfn hml hmx HKB HO;obtain ⟨pv,bv,f1,f2,rfl,rfl,hp,hbd⟩:=hx;obtain ⟨pp,cp,hpv,_⟩:=hp.shape;subst hpv;obtain ⟨pb,cb,hbv,_⟩:=hbd.shape;subst hbv;have a0:=(ho.cellAt (i * 2) (by omega)).trans (hcs 0 (by omega));have a1:=(ho.cellAt (i * 2+1) (by omega)).trans (hcs 1 (by omega));simp at a0 a1;have hcx:cntC (cntE d) x=(x.1.map (cntE d)).sum+(x.2.map (cntE d)).sum:=rfl;have hn12:=List.nodup_append.1 HFS.out.2.2.2;have HP:=hid hp;have HBD:=hid hbd;have HOW:=hid ho;have HCS:=hid hcs;have HN12:=hid hn12.2.2;have HSUM:Hid (k+((es.take (i+1)).map (cntC (cntE d))).sum=kk+(x.1.map (cntE d)).sum+(x.2.map (cntE d)).sum):=(by show _=_;omega);have hk1':kk+(x.1.map (cntE d)).sum<=1099511627776:=(by omega);have hk2':kk+(x.1.map (cntE d)).sum+(x.2.map (cntE d)).sum<=1099511627776:=(by omega);have hgl:g<wr.heap.size:=Zbh ho rfl;have HK2:=hid hk2';have HK1:=hid hk1';have hk11:1<=kk:=(by omega);clear hp hbd ho hcs hcs4 hsum hle hkk hkb hcx hk1' hk2';go_wp2_with fail;refine (ihE.at x.1 f1 kk _ rfl HP.out hn12.1 hk11 HK1.out).mono ?_;rintro e w1 ⟨rfl,r1,off1⟩;have a1':w1.cell? ⟨g,i * 2+1,none⟩=some (.slice pb x.2.length cb):=(sqK (off1.block g hgl (λhm=>HFS.out.2.2.1 (by simp [hm])))).trans a1;have k2:Zu f2 wr w1:=off1.keep (λa ha=>⟨HBD.out.lt (λ_ _ _ h=>h.lt) a ha,λhm=>HN12.out a hm a ha rfl⟩);have HBD1:=hid (HBD.out.keep k2 (λcs x f _ hs h=>h.keep (k2.sub hs)));have R1:=hid r1;have OF1:=hid off1;clear r1 off1 k2 a0 a1;generalize hk2g:kk+(x.1.map (cntE d)).sum=k2 at *;have HK2G:=hid hk2g;have hk21:1<=k2:=(by omega);clear hk2g;go_wp2_with fail;refine (ihE.at x.2 f2 k2 _ rfl HBD1.out hn12.2.1 hk21 HK2.out).mono ?_;rintro e w2 ⟨rfl,r2,off2⟩;have hoff:Off (f1 ++ f2) wr w2:=(OF1.out.sub (λa ha=>by simp [ha])).trans (off2.sub (λa ha=>by simp [ha]));have hown:w2.ownsRow 0 64 2 (.slice (some ⟨g,0,none⟩) n cap) n cells:=ZbB HOW.out rfl (hoff.block g hgl HFS.out.2.2.1);have k1:Zu f1 w1 w2:=off2.keep (λa ha=>⟨R1.out.lt (λ_ _ _ h=>h.lt) a ha,λhm=>HN12.out a ha a hm rfl⟩)
    have hset:=Zy.set (R:=OCls wr d) (R':=OCls w2 d) (x':=Zbr (Zak d) (cntE d) kk x) (i:=i) (f:=f1 ++ f2) HNE.out (by rw [HMX.out];exact hown) (by rw [HMX.out]) (by rw [HMX.out];exact hl) HAT.out hf
     (λm hm=>rfl) [.slice pp x.1.length cp,.slice pb x.2.length cb] rfl (λj hj=>HCS.out j hj)
     ⟨_,_,f1,f2,rfl,rfl,R1.out.keep k1 (λcs x f _ hs h=>h.keep (k1.sub hs)),by rw [<-HK2G.out] at r2;exact r2⟩
     (λj y f' cs hj hf' h=>OCls.keep h (λa ha=>by
      have h3:=HNP.out j i f' _ hj hf' hf a ha
      exact hoff.block a (OCl.lt' h (λ_ _ _ h=>h.lt) a ha) h3))
    rw [Zdt (by rw [HL.out,HN.out]) HMI.out,<-HFP.out] at hset;have HSET:=hid hset;have HF2:=hid (HF.out.trans (hoff.sub HFS.out.1));clear hset hown r2 off2 hoff k1;go_wp2_with fail;exact ⟨⟨i+1,k2+(x.2.map (cntE d)).sum,by omega,by go_num,rfl,HSUM.out.symm,HSET,HF2⟩,by simp [intOf];omega⟩
  . obtain rfl:i=n:=by omega
    have HE:Hid (kk=k+(es.map (cntC (cntE d))).sum):=by
     have:=HK.out;rw [sqT HN.out] at this;exact this
    have HR2:Hid (Zy wr 64 2 (OCls wr d) (.slice p i cap) (ZQ (Zbr (Zak d) (cntE d)) (cntC (cntE d)) k es) fp):=by
     have:=HR.out;rw [ZeM (by rw [HL.out,HN.out]) (by rw [HN.out];exact Nat.le_refl _)] at this;exact this
    clear HR HO;go_wp2;go_ret;exact ⟨by rw [HE.out];rfl,HR2.out,HF.out⟩
theorem ZfP {d:Nat} (ihE:∀ d',d=d'+1->ZeE d') (ihC:∀ d',d=d'+1->ZeF d'):ZeE d:=by
 intro w v es fp k h hnd hk1 hkb;obtain ⟨p,cap,rfl,hcl,hcm⟩:=h.shape;have hnb:=sqM hcl hcm;have HL:Hid ((ZQ (Zak d) (cntE d) k es).length=es.length):=ZX _ _ _ _;have HO:=hid h;have HND:Hid fp.Nodup:=hnd;have HKB:=hid hkb;generalize hn:es.length=n at *;have HN:=hid hn;clear h hnd hn hkb;go_enter func88,ntmps88;go_wp2
 go_loopw [1,5] (λkv iv wr=>∃ i kk:Nat,i<=n/\iv=.int .i64 i/\kv=.int .i64 kk/\Hid (kk=k+((es.take i).map (cntE d)).sum)/\Hid (Zy wr 108 6 (OEx wr d) (.slice p n cap) (mix i (ZQ (Zak d) (cntE d) k es) es) fp)/\Hid (Off fp w wr)) (λ_ iv _=>n - (intOf iv).toNat)
 case atStart=>exact ⟨0,k,Nat.zero_le _,rfl,rfl,(by show k=_;simp),(by show Zy _ _ _ _ _ _ _;rw [Zds];exact HO.out),Off.refl _ _⟩
 case round =>
  obtain ⟨i,kk,hi,rfl,rfl,HK,HR,HF⟩:=hrel;by_cases hlt:i<n
  . obtain ⟨x,hxi⟩:=sqA (l:=es) (k:=i) HN.out hlt
    have hml:(mix i (ZQ (Zak d) (cntE d) k es) es).length=n:=(by rw [Zce (by rw [HL.out,HN.out]),HN.out]);have hmx:(mix i (ZQ (Zak d) (cntE d) k es) es)[i]?=some x:=(by rw [Zgy (by rw [HL.out,HN.out]) (by rw [HN.out];exact hlt)];exact hxi);have HMX:=hid hml
    rcases HR.out with hnil | ⟨hne,cells,g,cap',fps,ho,hv,hl,hfp,hat⟩
    . rw [hnil.1] at hml;simp at hml;omega
    rw [hml] at ho hv hl;obtain ⟨f,hf⟩:∃ f,fps[i]?=some f:=⟨fps[i]'(by rw [hl];exact hlt),List.getElem?_eq_getElem _⟩;obtain ⟨cs,hcs4,hcs,hx⟩:=hat i x f hmx hf
    cases hv
    have hlc:cells.length=n * 6:=ho.1;have hnp:=ZbN (hfp ▸ HND.out);have hsum:((es.take (i+1)).map (cntE d)).sum=((es.take i).map (cntE d)).sum+cntE d x:=Zam _ es i x hxi;have hle:((es.take (i+1)).map (cntE d)).sum<=(es.map (cntE d)).sum:=ZaB _ es (i+1);have hkk:=HK.out;have hkb:=HKB.out;have hg0:g ∈ fp:=(by rw [hfp];simp)
    have hfs:∀ a ∈ f,a ∈ fp:=λa ha=>by rw [hfp];exact List.mem_cons_of_mem _ (List.mem_flatten.2 ⟨f,List.mem_of_getElem? hf,ha⟩)
    have hgf:g ∉ f:=(hnp.1 f (List.mem_of_getElem? hf)).1;have hfn:f.Nodup:=(hnp.1 f (List.mem_of_getElem? hf)).2
    have HMI:Hid ((ZQ (Zak d) (cntE d) k es)[i]?=some ((Zak d) kk x)):=by
     show _=_;rw [Zbb _ _ _ _ _ _ hxi,<-HK.out]
    have HAT:=hid hat;have HNP:=hid hnp.2;have HNG:=hid hnp.1;have HFP:=hid hfp;have HNE:=hid hne;have HFS:Hid ((∀ a ∈ f,a ∈ fp)/\g ∈ fp/\g ∉ f/\f.Nodup):=⟨hfs,hg0,hgf,hfn⟩;have hki:(i:Int)<(n:Int):=(by omega);have hi0:=sqI i;clear hat hnp hfp hne hfs hg0 hgf hfn hml hmx HKB HO
    cases d with
    | zero=>exact hx.elim
    | succ d' =>
    obtain ⟨kv,cv,f1,f2,rfl,rfl,_,_,_,_,hkids,hcl'⟩:=hx;obtain ⟨pk,ck,hkv,_⟩:=hkids.shape;subst hkv;obtain ⟨pc,cc,hcv,_⟩:=hcl'.shape;subst hcv;have a0:=(ho.cellAt (i * 6) (by omega)).trans (hcs 0 (by omega));have a1:=(ho.cellAt (i * 6+1) (by omega)).trans (hcs 1 (by omega));simp at a0 a1;have z0:=ho.frozenAt (i * 6);have z1:=ho.frozenAt (i * 6+1);have s0:=ho.stored (i * 6) (.int .i64 kk);have s1:=s0.1.stored (i * 6+1) (.int .i64 ((kk:Int)+1));have hcx:cntE (d'+1) x=4+(x.kids.map (cntE d')).sum+(x.clauses.map (cntC (cntE d'))).sum:=rfl;have hn12:=List.nodup_append.1 HFS.out.2.2.2;have HKD:=hid hkids;have HCL:=hid hcl';have HS1:=hid s1.1;have HG1:=hid (Zea s0.2 s1.2);have HCS:=hid hcs;have HN12:=hid hn12.2.2;have HSUM:Hid (k+((es.take (i+1)).map (cntE (d'+1))).sum=kk+4+(x.kids.map (cntE d')).sum+(x.clauses.map (cntC (cntE d'))).sum):=(by show _=_;omega);have HK1:Hid (kk+4+(x.kids.map (cntE d')).sum<=1099511627776):=(by show _<=_;omega);have HK2:Hid (kk+4+(x.kids.map (cntE d')).sum+(x.clauses.map (cntC (cntE d'))).sum<=1099511627776):=(by show _<=_;omega);have hkk4:kk+4<=1099511627776:=(by omega);have hgl:g<wr.heap.size:=Zbh ho rfl;have hk11:1<=kk:=(by omega);clear s0 s1 hkids hcl' ho hcs hcs4 hsum hle hkk hkb hcx;go_wp2_with fail;refine (ZaF (kk+2) _ (by omega) (by omega) (by omega)).mono ?_;rintro e w1 ⟨rfl,hb⟩;have o2:=HS1.out.kept (Za1 (r:=none) hb) (Or.inr (by simp [Value.ownBlock]))
    have e2:w1.cell? ⟨g,i * 6+2,none⟩=some (.string x.text):=by
     rw [o2.cellAt (i * 6+2) (by omega),List.getElem?_set_ne (by omega),List.getElem?_set_ne (by omega)];exact HCS.out 2 (by omega)
    have z2:=o2.frozenAt (i * 6+2);have s3:=o2.stored (i * 6+2) (.string (Zar (kk+2)));have HS3:=hid s3.1;have HG3:=hid s3.2;have HB1:=hid hb;clear o2 s3 hb a0 a1 z0 z1;go_wp2_with fail;refine (ZaF (kk+3) _ (by omega) (by omega) (by omega)).mono ?_;rintro e w2 ⟨rfl,hb⟩;have o3:=HS3.out.kept (Za1 (r:=none) hb) (Or.inr (by simp [Value.ownBlock]))
    have e3:w2.cell? ⟨g,i * 6+3,none⟩=some (.string x.mod):=by
     rw [o3.cellAt (i * 6+3) (by omega),List.getElem?_set_ne (by omega),List.getElem?_set_ne (by omega),List.getElem?_set_ne (by omega)];exact HCS.out 3 (by omega)
    have z3:=o3.frozenAt (i * 6+3);have s4:=o3.stored (i * 6+3) (.string (Zar (kk+3)))
    have e4:(w2.setCell ⟨g,i * 6+3,none⟩ (.string (Zar (kk+3)))).cell? ⟨g,i * 6+4,none⟩=some (.slice pk x.kids.length ck):=by
     rw [s4.1.cellAt (i * 6+4) (by omega),List.getElem?_set_ne (by omega),List.getElem?_set_ne (by omega),List.getElem?_set_ne (by omega),List.getElem?_set_ne (by omega)];exact HCS.out 4 (by omega)
    have HS4:=hid s4.1;have HG4:=hid s4.2;have HB2:=hid hb;clear o3 s4 hb e2 z2;go_wp2_with fail;have hoff:Off [g] wr (w2.setCell ⟨g,i * 6+3,none⟩ (.string (Zar (kk+3)))):=(Off.of_grown HG1.out (by simp)).trans ((Off.of_below HB1.out).trans ((Off.of_grown HG3.out (by simp)).trans ((Off.of_below HB2.out).trans (Off.of_grown HG4.out (by simp)))));have hkeep:∀ f',g ∉ f'->(∀ a ∈ f',a<wr.heap.size)->Zu f' wr (w2.setCell ⟨g,i * 6+3,none⟩ (.string (Zar (kk+3)))):=λf' h1 h2=>hoff.keep (λa ha=>⟨h2 a ha,λhm=>h1 (by rw [List.mem_singleton] at hm;exact hm ▸ ha)⟩);have hk1:=hkeep f1 (λh=>HFS.out.2.2.1 (by simp [h])) (HKD.out.lt (λ_ _ _ h=>h.lt));have hk2:=hkeep f2 (λh=>HFS.out.2.2.1 (by simp [h])) (HCL.out.lt (λ_ _ _ h=>OCl.lt' h (λ_ _ _ h=>h.lt)));refine ((ihE d' rfl).at x.kids f1 (kk+4) _ (by omega) (HKD.out.keep hk1 (λcs x f' _ hs h=>h.keep (hk1.sub hs))) hn12.1 (by omega) HK1.out).mono ?_;rintro e w3 ⟨rfl,r3,off3⟩;have HOFF:=hid hoff;have HKP:=hid hkeep;have hgl3:g<(w2.setCell ⟨g,i * 6+3,none⟩ (.string (Zar (kk+3)))).heap.size:=Zbh HS4.out rfl;have hgf1:g ∉ f1:=λh=>HFS.out.2.2.1 (by simp [h]);have hown3:w3.ownsRow 0 108 6 (.slice (some ⟨g,0,none⟩) n cap) n ((((cells.set (i * 6) (.int .i64 kk)).set (i * 6+1) (.int .i64 ((kk:Int)+1))).set (i * 6+2) (.string (Zar (kk+2)))).set (i * 6+3) (.string (Zar (kk+3)))):=ZbB HS4.out rfl (off3.block g hgl3 hgf1)
    have e5:w3.cell? ⟨g,i * 6+5,none⟩=some (.slice pc x.clauses.length cc):=by
     rw [hown3.cellAt (i * 6+5) (by omega),List.getElem?_set_ne (by omega),List.getElem?_set_ne (by omega),List.getElem?_set_ne (by omega),List.getElem?_set_ne (by omega)];exact HCS.out 5 (by omega)
    have k23:Zu f2 (w2.setCell ⟨g,i * 6+3,none⟩ (.string (Zar (kk+3)))) w3:=off3.keep (λa ha=>⟨Nat.lt_of_lt_of_le (HCL.out.lt (λ_ _ _ h=>OCl.lt' h (λ_ _ _ h=>h.lt)) a ha) hoff.size,λhm=>HN12.out a hm a ha rfl⟩);have HCL3:Hid (Zy w3 64 2 (OCls w3 d') (.slice pc x.clauses.length cc) x.clauses f2):=(HCL.out.keep hk2 (λcs x f' _ hs h=>OCls.keep h (hk2.sub hs))).keep k23 (λcs x f' _ hs h=>OCls.keep h (k23.sub hs));have R3:=hid r3;have OF3:=hid off3;have HOW3:=hid hown3;clear r3 off3 k23 hown3 hk1 hk2 hoff hkeep e3 e4 z3 hgl3;generalize hk2g:kk+4+(x.kids.map (cntE d')).sum=k2 at *;have HK2G:=hid hk2g;have hk21:1<=k2:=(by omega);clear hk2g;go_wp2_with fail;refine ((ihC d' rfl).at x.clauses f2 k2 _ rfl HCL3.out hn12.2.1 hk21 HK2.out).mono ?_;rintro e w4 ⟨rfl,r4,off4⟩;have hgf2:g ∉ f2:=λh=>HFS.out.2.2.1 (by simp [h]);have hown:w4.ownsRow 0 108 6 (.slice (some ⟨g,0,none⟩) n cap) n ((((cells.set (i * 6) (.int .i64 kk)).set (i * 6+1) (.int .i64 ((kk:Int)+1))).set (i * 6+2) (.string (Zar (kk+2)))).set (i * 6+3) (.string (Zar (kk+3)))):=ZbB HOW3.out rfl (off4.block g (Zbh HOW3.out rfl) hgf2);have k34:Zu f1 w3 w4:=off4.keep (λa ha=>⟨R3.out.lt (λ_ _ _ h=>h.lt) a ha,λhm=>HN12.out a ha a hm rfl⟩);have hoff2:Off (f1 ++ f2) (w2.setCell ⟨g,i * 6+3,none⟩ (.string (Zar (kk+3)))) w4:=(OF3.out.sub (λa ha=>by simp [ha])).trans (off4.sub (λa ha=>by simp [ha]))
    have hset:=Zy.set (R:=OEx wr (d'+1)) (R':=OEx w4 (d'+1)) (x':=Zak (d'+1) kk x) (i:=i) (f:=f1 ++ f2) HNE.out (by rw [HMX.out];exact hown) (by rw [HMX.out]) (by rw [HMX.out];exact hl) HAT.out hf
     (λm hm=>by rw [List.getElem?_set_ne (by omega),List.getElem?_set_ne (by omega),List.getElem?_set_ne (by omega),List.getElem?_set_ne (by omega)])
     [.int .i64 kk,.int .i64 ((kk:Int)+1),.string (Zar (kk+2)),.string (Zar (kk+3)),.slice pk x.kids.length ck,.slice pc x.clauses.length cc] rfl
     (λj hj=>by
      match j,hj with
      | 0,_=>rw [List.getElem?_set_ne (by omega),List.getElem?_set_ne (by omega),List.getElem?_set_ne (by omega)];exact List.getElem?_set_self (by omega)
      | 1,_=>rw [List.getElem?_set_ne (by omega),List.getElem?_set_ne (by omega),List.getElem?_set_self (by rw [List.length_set];omega)];rfl
      | 2,_=>rw [List.getElem?_set_ne (by omega),List.getElem?_set_self (by rw [List.length_set,List.length_set];omega)];rfl
      | 3,_=>rw [List.getElem?_set_self (by rw [List.length_set,List.length_set,List.length_set];omega)];rfl
      | 4,_=>rw [List.getElem?_set_ne (by omega),List.getElem?_set_ne (by omega),List.getElem?_set_ne (by omega),List.getElem?_set_ne (by omega)];exact HCS.out 4 (by omega)
      | 5,_=>rw [List.getElem?_set_ne (by omega),List.getElem?_set_ne (by omega),List.getElem?_set_ne (by omega),List.getElem?_set_ne (by omega)];exact HCS.out 5 (by omega))
     ⟨_,_,f1,f2,rfl,rfl,Zg6 (by omega),Zg6 (n:=kk+1) (by omega),ZdC (by omega),ZdC (by omega),R3.out.keep k34 (λcs x f _ hs h=>h.keep (k34.sub hs)),by rw [<-HK2G.out] at r4;exact r4⟩
     (λj y f' cs hj hf' h=>h.keep (λa ha=>by
      have h1:=(HNG.out f' (List.mem_of_getElem? hf')).1;have h2:=h.lt a ha;have h3:=HNP.out j i f' _ hj hf' hf a ha
      exact (hoff2.block a (Nat.lt_of_lt_of_le h2 HOFF.out.size) h3).trans (HKP.out f' h1 h.lt a ha)))
    rw [Zdt (by rw [HL.out,HN.out]) HMI.out,<-HFP.out] at hset;have HSET:=hid hset;have HF2:=hid (HF.out.trans ((HOFF.out.sub (λa ha=>by rw [List.mem_singleton] at ha;exact ha ▸ HFS.out.2.1)).trans (hoff2.sub HFS.out.1)));clear hset hown r4 off4 hoff2 k34;go_wp2_with fail;exact ⟨⟨i+1,k2+(x.clauses.map (cntC (cntE d'))).sum,by omega,by go_num,rfl,HSUM.out.symm,HSET,HF2⟩,by simp [intOf];omega⟩
  . obtain rfl:i=n:=by omega
    have HE:Hid (kk=k+(es.map (cntE d)).sum):=by
     have:=HK.out;rw [sqT HN.out] at this;exact this
    have HR2:Hid (Zy wr 108 6 (OEx wr d) (.slice p i cap) (ZQ (Zak d) (cntE d) k es) fp):=by
     have:=HR.out;rw [ZeM (by rw [HL.out,HN.out]) (by rw [HN.out];exact Nat.le_refl _)] at this;exact this
    clear HR HO;go_wp2;go_ret;exact ⟨by rw [HE.out];rfl,HR2.out,HF.out⟩
theorem Zc9:∀ d,ZeE d
 | 0=>ZfP (λd' h=>by omega) (λd' h=>by omega)
 | d+1=>ZfP (λd' h=>by (obtain rfl:d=d':=by omega);exact Zc9 d) (λd' h=>by (obtain rfl:d=d':=by omega);exact ZfO (Zc9 d))
theorem ZhB (d:Nat):ZeF d:=ZfO (Zc9 d)
def cntR (_:Rf):Nat:=2
def Zca (k:Nat) (_:Rf):Rf:=⟨Zar k,((k:Int)+1)⟩
def Zg7 (d:Nat):Prop :=
 ∀ (w:World) (v:Value) (es:List Rf) (fp:List Nat) (k:Nat),Zy w 59 2 (ORf w d) v es fp->fp.Nodup->1<=k->k+(es.map cntR).sum<=1099511627776 ->
  Calls prog 20 #[v,.int .i64 k] w λe w'=>e=.returned (.int .i64 ((k+(es.map cntR).sum:Nat):Int))/\Zy w' 59 2 (ORf w' d) v (ZQ Zca cntR k es) fp/\Off fp w w'
theorem Ziq {d:Nat}  : Zg7 d:=by
 intro w v es fp k h hnd hk1 hkb;obtain ⟨p,cap,rfl,hcl,hcm⟩:=h.shape;have hnb:=sqM hcl hcm;have HL:Hid ((ZQ (Zca) (cntR) k es).length=es.length):=ZX _ _ _ _;have HO:=hid h;have HND:Hid fp.Nodup:=hnd;have HKB:=hid hkb;generalize hn:es.length=n at *;have HN:=hid hn;clear h hnd hn hkb;go_enter func20,ntmps20;go_wp2
 go_loopw [1,5] (λkv iv wr=>∃ i kk:Nat,i<=n/\iv=.int .i64 i/\kv=.int .i64 kk/\Hid (kk=k+((es.take i).map (cntR)).sum)/\Hid (Zy wr 59 2 (ORf wr d) (.slice p n cap) (mix i (ZQ (Zca) (cntR) k es) es) fp)/\Hid (Off fp w wr)) (λ_ iv _=>n - (intOf iv).toNat)
 case atStart=>exact ⟨0,k,Nat.zero_le _,rfl,rfl,(by show k=_;simp),(by show Zy _ _ _ _ _ _ _;rw [Zds];exact HO.out),Off.refl _ _⟩
 case round =>
  obtain ⟨i,kk,hi,rfl,rfl,HK,HR,HF⟩:=hrel;by_cases hlt:i<n
  . obtain ⟨x,hxi⟩:=sqA (l:=es) (k:=i) HN.out hlt
    have hml:(mix i (ZQ (Zca) (cntR) k es) es).length=n:=(by rw [Zce (by rw [HL.out,HN.out]),HN.out]);have hmx:(mix i (ZQ (Zca) (cntR) k es) es)[i]?=some x:=(by rw [Zgy (by rw [HL.out,HN.out]) (by rw [HN.out];exact hlt)];exact hxi);have HMX:=hid hml
    rcases HR.out with hnil | ⟨hne,cells,g,cap',fps,ho,hv,hl,hfp,hat⟩
    . rw [hnil.1] at hml;simp at hml;omega
    rw [hml] at ho hv hl;obtain ⟨f,hf⟩:∃ f,fps[i]?=some f:=⟨fps[i]'(by rw [hl];exact hlt),List.getElem?_eq_getElem _⟩;obtain ⟨cs,hcs4,hcs,hx⟩:=hat i x f hmx hf
    cases hv
    have hlc:cells.length=n * 2:=ho.1;have hnp:=ZbN (hfp ▸ HND.out);have hsum:((es.take (i+1)).map (cntR)).sum=((es.take i).map (cntR)).sum+cntR x:=Zam _ es i x hxi;have hle:((es.take (i+1)).map (cntR)).sum<=(es.map (cntR)).sum:=ZaB _ es (i+1);have hkk:=HK.out;have hkb:=HKB.out;have hg0:g ∈ fp:=(by rw [hfp];simp)
    have hfs:∀ a ∈ f,a ∈ fp:=λa ha=>by rw [hfp];exact List.mem_cons_of_mem _ (List.mem_flatten.2 ⟨f,List.mem_of_getElem? hf,ha⟩)
    have hgf:g ∉ f:=(hnp.1 f (List.mem_of_getElem? hf)).1;have hfn:f.Nodup:=(hnp.1 f (List.mem_of_getElem? hf)).2
    have HMI:Hid ((ZQ (Zca) (cntR) k es)[i]?=some ((Zca) kk x)):=by
     show _=_;rw [Zbb _ _ _ _ _ _ hxi,<-HK.out]
    have HAT:=hid hat;have HNP:=hid hnp.2;have HNG:=hid hnp.1;have HFP:=hid hfp;have HNE:=hid hne;have HFS:Hid ((∀ a ∈ f,a ∈ fp)/\g ∈ fp/\g ∉ f/\f.Nodup):=⟨hfs,hg0,hgf,hfn⟩;have hki:(i:Int)<(n:Int):=(by omega);have hi0:=sqI i;clear hat hnp hfp hne hfs hg0 hgf hfn hml hmx HKB HO;obtain ⟨⟨rfl,hrs,hri⟩,rfl⟩:=hx;have HCS:=hid hcs;have HOW:=hid ho;have hcx:cntR x=2:=rfl;have HSUM:Hid (k+((es.take (i+1)).map cntR).sum=kk+2):=(by show _=_;omega);have hkk2:kk+2<=1099511627776:=(by omega);have hgl:g<wr.heap.size:=Zbh ho rfl;have hk11:1<=kk:=(by omega);clear ho hcs hcs4 hsum hle hkk hkb hcx;go_wp2_with fail;refine (ZaF kk _ rfl (by omega) (by omega)).mono ?_;rintro e w1 ⟨rfl,hb⟩;have o1:=HOW.out.kept (Za1 (r:=none) hb) (Or.inr (by simp [Value.ownBlock]))
    have e0:w1.cell? ⟨g,i * 2,none⟩=some (.string x.name):=by
     rw [o1.cellAt (i * 2) (by omega)];exact HCS.out 0 (by omega)
    have z0:=o1.frozenAt (i * 2);have s1:=o1.stored (i * 2) (.string (Zar kk))
    have e1:(w1.setCell ⟨g,i * 2,none⟩ (.string (Zar kk))).cell? ⟨g,i * 2+1,none⟩=some (.int .i64 x.arity):=by
     rw [s1.1.cellAt (i * 2+1) (by omega),List.getElem?_set_ne (by omega)];exact HCS.out 1 (by omega)
    have z1:=s1.1.frozenAt (i * 2+1);have s2:=s1.1.stored (i * 2+1) (.int .i64 ((kk:Int)+1));have hoff:Off [g] wr ((w1.setCell ⟨g,i * 2,none⟩ (.string (Zar kk))).setCell ⟨g,i * 2+1,none⟩ (.int .i64 ((kk:Int)+1))):=(Off.of_below hb).trans ((Off.of_grown s1.2 (by simp)).trans (Off.of_grown s2.2 (by simp)))
    have hset:=Zy.set (R:=ORf wr d) (R':=ORf ((w1.setCell ⟨g,i * 2,none⟩ (.string (Zar kk))).setCell ⟨g,i * 2+1,none⟩ (.int .i64 ((kk:Int)+1))) d) (x':=Zca kk x) (i:=i) (f:=[]) HNE.out (by rw [HMX.out];exact s2.1) (by rw [HMX.out]) (by rw [HMX.out];exact hl) HAT.out hf
     (λm hm=>by rw [List.getElem?_set_ne (by omega),List.getElem?_set_ne (by omega)])
     [.string (Zar kk),.int .i64 ((kk:Int)+1)] rfl
     (λj hj=>by
      match j,hj with
      | 0,_=>rw [List.getElem?_set_ne (by omega)];exact List.getElem?_set_self (by omega)
      | 1,_=>rw [List.getElem?_set_self (by rw [List.length_set];omega)];rfl)
     ⟨⟨rfl,ZdC (by omega),Zg6 (n:=kk+1) (by omega)⟩,rfl⟩
     (λj y f' cs hj hf' h=>h)
    rw [Zdt (by rw [HL.out,HN.out]) HMI.out,<-HFP.out] at hset;have HSET:=hid hset;have HF2:=hid (HF.out.trans (hoff.sub (λa ha=>by rw [List.mem_singleton] at ha;exact ha ▸ HFS.out.2.1)));clear hset s1 s2 o1 hoff hb;go_wp2_with fail;exact ⟨⟨i+1,kk+2,by omega,by go_num,by go_num,HSUM.out.symm,HSET,HF2⟩,by simp [intOf];omega⟩
  . obtain rfl:i=n:=by omega
    have HE:Hid (kk=k+(es.map (cntR)).sum):=by
     have:=HK.out;rw [sqT HN.out] at this;exact this
    have HR2:Hid (Zy wr 59 2 (ORf wr d) (.slice p i cap) (ZQ (Zca) (cntR) k es) fp):=by
     have:=HR.out;rw [ZeM (by rw [HL.out,HN.out]) (by rw [HN.out];exact Nat.le_refl _)] at this;exact this
    clear HR HO;go_wp2;go_ret;exact ⟨by rw [HE.out];rfl,HR2.out,HF.out⟩
theorem ZhC (d:Nat):Zg7 d:=Ziq
theorem Zg7.at {d:Nat} (h:Zg7 d) {w:World} {v:Value} (es:List Rf) (fp:List Nat) (k:Nat) (z:Int) (hz:z=k) (ho:Zy w 59 2 (ORf w d) v es fp) (hn:fp.Nodup) (h1:1<=k) (hb:k+(es.map cntR).sum<=1099511627776) :
 Calls prog 20 #[v,.int .i64 z] w λe w'=>e=.returned (.int .i64 ((k+(es.map cntR).sum:Nat):Int))/\Zy w' 59 2 (ORf w' d) v (ZQ Zca cntR k es) fp/\Off fp w w':=by
 subst hz;exact h w v es fp k ho hn h1 hb
def cntF (d:Nat) (f:Fn'):Nat:=2+(f.clauses.map (cntC (cntE d))).sum
def ZbW (d:Nat) (k:Nat) (f:Fn'):Fn':=⟨Zar k,((k:Int)+1),ZQ (Zbr (Zak d) (cntE d)) (cntC (cntE d)) (k+2) f.clauses⟩
def Zg8 (d:Nat):Prop :=
 ∀ (w:World) (v:Value) (es:List Fn') (fp:List Nat) (k:Nat),Zy w 40 3 (OFn w d) v es fp->fp.Nodup->1<=k->k+(es.map (cntF d)).sum<=1099511627776 ->
  Calls prog 21 #[v,.int .i64 k] w λe w'=>e=.returned (.int .i64 ((k+(es.map (cntF d)).sum:Nat):Int))/\Zy w' 40 3 (OFn w' d) v (ZQ (ZbW d) (cntF d) k es) fp/\Off fp w w'
theorem Zg8.at {d:Nat} (h:Zg8 d) {w:World} {v:Value} (es:List Fn') (fp:List Nat) (k:Nat) (z:Int) (hz:z=k) (ho:Zy w 40 3 (OFn w d) v es fp) (hn:fp.Nodup) (h1:1<=k) (hb:k+(es.map (cntF d)).sum<=1099511627776) :
 Calls prog 21 #[v,.int .i64 z] w λe w'=>e=.returned (.int .i64 ((k+(es.map (cntF d)).sum:Nat):Int))/\Zy w' 40 3 (OFn w' d) v (ZQ (ZbW d) (cntF d) k es) fp/\Off fp w w':=by
 subst hz;exact h w v es fp k ho hn h1 hb
theorem Zir {d:Nat} (ihC:ZeF d):Zg8 d:=by
 intro w v es fp k h hnd hk1 hkb;obtain ⟨p,cap,rfl,hcl,hcm⟩:=h.shape;have hnb:=sqM hcl hcm;have HL:Hid ((ZQ (ZbW d) (cntF d) k es).length=es.length):=ZX _ _ _ _;have HO:=hid h;have HND:Hid fp.Nodup:=hnd;have HKB:=hid hkb;generalize hn:es.length=n at *;have HN:=hid hn;clear h hnd hn hkb;go_enter func21,ntmps21;go_wp2
 go_loopw [1,5] (λkv iv wr=>∃ i kk:Nat,i<=n/\iv=.int .i64 i/\kv=.int .i64 kk/\Hid (kk=k+((es.take i).map (cntF d)).sum)/\Hid (Zy wr 40 3 (OFn wr d) (.slice p n cap) (mix i (ZQ (ZbW d) (cntF d) k es) es) fp)/\Hid (Off fp w wr)) (λ_ iv _=>n - (intOf iv).toNat)
 case atStart=>exact ⟨0,k,Nat.zero_le _,rfl,rfl,(by show k=_;simp),(by show Zy _ _ _ _ _ _ _;rw [Zds];exact HO.out),Off.refl _ _⟩
 case round =>
  obtain ⟨i,kk,hi,rfl,rfl,HK,HR,HF⟩:=hrel;by_cases hlt:i<n
  . obtain ⟨x,hxi⟩:=sqA (l:=es) (k:=i) HN.out hlt
    have hml:(mix i (ZQ (ZbW d) (cntF d) k es) es).length=n:=(by rw [Zce (by rw [HL.out,HN.out]),HN.out]);have hmx:(mix i (ZQ (ZbW d) (cntF d) k es) es)[i]?=some x:=(by rw [Zgy (by rw [HL.out,HN.out]) (by rw [HN.out];exact hlt)];exact hxi);have HMX:=hid hml
    rcases HR.out with hnil | ⟨hne,cells,g,cap',fps,ho,hv,hl,hfp,hat⟩
    . rw [hnil.1] at hml;simp at hml;omega
    rw [hml] at ho hv hl;obtain ⟨f,hf⟩:∃ f,fps[i]?=some f:=⟨fps[i]'(by rw [hl];exact hlt),List.getElem?_eq_getElem _⟩;obtain ⟨cs,hcs4,hcs,hx⟩:=hat i x f hmx hf
    cases hv
    have hlc:cells.length=n * 3:=ho.1;have hnp:=ZbN (hfp ▸ HND.out);have hsum:((es.take (i+1)).map (cntF d)).sum=((es.take i).map (cntF d)).sum+cntF d x:=Zam _ es i x hxi;have hle:((es.take (i+1)).map (cntF d)).sum<=(es.map (cntF d)).sum:=ZaB _ es (i+1);have hkk:=HK.out;have hkb:=HKB.out;have hg0:g ∈ fp:=(by rw [hfp];simp)
    have hfs:∀ a ∈ f,a ∈ fp:=λa ha=>by rw [hfp];exact List.mem_cons_of_mem _ (List.mem_flatten.2 ⟨f,List.mem_of_getElem? hf,ha⟩)
    have hgf:g ∉ f:=(hnp.1 f (List.mem_of_getElem? hf)).1;have hfn:f.Nodup:=(hnp.1 f (List.mem_of_getElem? hf)).2
    have HMI:Hid ((ZQ (ZbW d) (cntF d) k es)[i]?=some ((ZbW d) kk x)):=by
     show _=_;rw [Zbb _ _ _ _ _ _ hxi,<-HK.out]
    have HAT:=hid hat;have HNP:=hid hnp.2;have HNG:=hid hnp.1;have HFP:=hid hfp;have HNE:=hid hne;have HFS:Hid ((∀ a ∈ f,a ∈ fp)/\g ∈ fp/\g ∉ f/\f.Nodup):=⟨hfs,hg0,hgf,hfn⟩;have hki:(i:Int)<(n:Int):=(by omega);have hi0:=sqI i;clear hat hnp hfp hne hfs hg0 hgf hfn hml hmx HKB HO;obtain ⟨cv,rfl,hrs,hri,hcls⟩:=hx;obtain ⟨pc,cc,hcv,_⟩:=hcls.shape;subst hcv;have HCS:=hid hcs;have HOW:=hid ho;have HCL:=hid hcls;have hcx:cntF d x=2+(x.clauses.map (cntC (cntE d))).sum:=rfl;have HSUM:Hid (k+((es.take (i+1)).map (cntF d)).sum=kk+2+(x.clauses.map (cntC (cntE d))).sum):=(by show _=_;omega);have HK2:Hid (kk+2+(x.clauses.map (cntC (cntE d))).sum<=1099511627776):=(by show _<=_;omega);have hkk2:kk+2<=1099511627776:=(by omega);have hgl:g<wr.heap.size:=Zbh ho rfl;have hk11:1<=kk:=(by omega);clear ho hcs hcs4 hsum hle hkk hkb hcx hcls;go_wp2_with fail;refine (ZaF kk _ rfl (by omega) (by omega)).mono ?_;rintro e w1 ⟨rfl,hb⟩;have o1:=HOW.out.kept (Za1 (r:=none) hb) (Or.inr (by simp [Value.ownBlock]))
    have e0:w1.cell? ⟨g,i * 3,none⟩=some (.string x.name):=by
     rw [o1.cellAt (i * 3) (by omega)];exact HCS.out 0 (by omega)
    have z0:=o1.frozenAt (i * 3);have s1:=o1.stored (i * 3) (.string (Zar kk))
    have e1:(w1.setCell ⟨g,i * 3,none⟩ (.string (Zar kk))).cell? ⟨g,i * 3+1,none⟩=some (.int .i64 x.arity):=by
     rw [s1.1.cellAt (i * 3+1) (by omega),List.getElem?_set_ne (by omega)];exact HCS.out 1 (by omega)
    have z1:=s1.1.frozenAt (i * 3+1);have s2:=s1.1.stored (i * 3+1) (.int .i64 ((kk:Int)+1))
    have e2:((w1.setCell ⟨g,i * 3,none⟩ (.string (Zar kk))).setCell ⟨g,i * 3+1,none⟩ (.int .i64 ((kk:Int)+1))).cell? ⟨g,i * 3+2,none⟩=some (.slice pc x.clauses.length cc):=by
     rw [s2.1.cellAt (i * 3+2) (by omega),List.getElem?_set_ne (by omega),List.getElem?_set_ne (by omega)];exact HCS.out 2 (by omega)
    have hoff:Off [g] wr ((w1.setCell ⟨g,i * 3,none⟩ (.string (Zar kk))).setCell ⟨g,i * 3+1,none⟩ (.int .i64 ((kk:Int)+1))):=(Off.of_below hb).trans ((Off.of_grown s1.2 (by simp)).trans (Off.of_grown s2.2 (by simp)));have HOFF:=hid hoff;have HS2:=hid s2.1;have hkeep:∀ f',g ∉ f'->(∀ a ∈ f',a<wr.heap.size)->Zu f' wr ((w1.setCell ⟨g,i * 3,none⟩ (.string (Zar kk))).setCell ⟨g,i * 3+1,none⟩ (.int .i64 ((kk:Int)+1))):=λf' h1 h2=>hoff.keep (λa ha=>⟨h2 a ha,λhm=>h1 (by rw [List.mem_singleton] at hm;exact hm ▸ ha)⟩);have hk1:=hkeep f HFS.out.2.2.1 (HCL.out.lt (λ_ _ _ h=>OCl.lt' h (λ_ _ _ h=>h.lt)));have HCL2:=hid (HCL.out.keep hk1 (λcs x f' _ hs h=>OCls.keep h (hk1.sub hs)));have HKP:=hid hkeep;clear s1 s2 o1 hoff hb hk1 hkeep;go_wp2_with fail;refine (ihC.at x.clauses f (kk+2) _ (by omega) HCL2.out HFS.out.2.2.2 (by omega) HK2.out).mono ?_;rintro e w4 ⟨rfl,r4,off4⟩;have hown:w4.ownsRow 0 40 3 (.slice (some ⟨g,0,none⟩) n cap) n ((cells.set (i * 3) (.string (Zar kk))).set (i * 3+1) (.int .i64 ((kk:Int)+1))):=ZbB HS2.out rfl (off4.block g (Zbh HS2.out rfl) HFS.out.2.2.1)
    have hset:=Zy.set (R:=OFn wr d) (R':=OFn w4 d) (x':=ZbW d kk x) (i:=i) (f:=f) HNE.out (by rw [HMX.out];exact hown) (by rw [HMX.out]) (by rw [HMX.out];exact hl) HAT.out hf
     (λm hm=>by rw [List.getElem?_set_ne (by omega),List.getElem?_set_ne (by omega)])
     [.string (Zar kk),.int .i64 ((kk:Int)+1),.slice pc x.clauses.length cc] rfl
     (λj hj=>by
      match j,hj with
      | 0,_=>rw [List.getElem?_set_ne (by omega)];exact List.getElem?_set_self (by omega)
      | 1,_=>rw [List.getElem?_set_self (by rw [List.length_set];omega)];rfl
      | 2,_=>rw [List.getElem?_set_ne (by omega),List.getElem?_set_ne (by omega)];exact HCS.out 2 (by omega))
     ⟨_,rfl,ZdC (by omega),Zg6 (n:=kk+1) (by omega),r4⟩
     (λj y f' cs hj hf' h=>h.keep (λa ha=>by
      have h1:=(HNG.out f' (List.mem_of_getElem? hf')).1;have h2:=h.lt a ha;have h3:=HNP.out j i f' _ hj hf' hf a ha
      exact (off4.block a (Nat.lt_of_lt_of_le h2 HOFF.out.size) h3).trans (HKP.out f' h1 h.lt a ha)))
    rw [Zdt (by rw [HL.out,HN.out]) HMI.out,<-HFP.out] at hset;have HSET:=hid hset;have HF2:=hid (HF.out.trans ((HOFF.out.sub (λa ha=>by rw [List.mem_singleton] at ha;exact ha ▸ HFS.out.2.1)).trans (off4.sub HFS.out.1)));clear hset hown r4 off4;go_wp2_with fail;exact ⟨⟨i+1,kk+2+(x.clauses.map (cntC (cntE d))).sum,by omega,by go_num,rfl,HSUM.out.symm,HSET,HF2⟩,by simp [intOf];omega⟩
  . obtain rfl:i=n:=by omega
    have HE:Hid (kk=k+(es.map (cntF d)).sum):=by
     have:=HK.out;rw [sqT HN.out] at this;exact this
    have HR2:Hid (Zy wr 40 3 (OFn wr d) (.slice p i cap) (ZQ (ZbW d) (cntF d) k es) fp):=by
     have:=HR.out;rw [ZeM (by rw [HL.out,HN.out]) (by rw [HN.out];exact Nat.le_refl _)] at this;exact this
    clear HR HO;go_wp2;go_ret;exact ⟨by rw [HE.out];rfl,HR2.out,HF.out⟩
theorem ZhD (d:Nat):Zg8 d:=Zir (ZhB d)
def cntM (d:Nat) (m:Md):Nat:=(m.exports.map cntR).sum+(m.funs.map (cntF d)).sum
def Zis (d:Nat) (k:Nat) (m:Md):Md:=⟨m.name,ZQ Zca cntR k m.exports,ZQ (ZbW d) (cntF d) (k+(m.exports.map cntR).sum) m.funs⟩
def Ziz:Prop:=∀ (w:World) (v:Value) (es:List Rf) (k:Nat),Rows w All 2 HRf v (ZQ Zca cntR k es)->1<=k->k+(es.map cntR).sum<=1099511627776 ->
 Calls prog 22 #[v,.int .i64 k] w λe w'=>e=.returned (.int .i64 ((k+(es.map cntR).sum:Nat):Int))/\Bz w w'
theorem ZhG:Ziz:=by
 intro w v es k h hk1 hkb;obtain ⟨p,cap,rfl,hcl,hcm,hx⟩:=h;rw [ZX] at *;have hnb:=sqM hcl hcm;have HX:=hid hx;have HKB:=hid hkb;generalize hn:es.length=n at *;have HN:=hid hn;clear hx hn hkb;go_enter func22,ntmps22;go_wp2
 go_loopw [1,5] (λkv iv wr=>∃ i kk:Nat,i<=n/\iv=.int .i64 i/\kv=.int .i64 kk/\Hid (kk=k+((es.take i).map cntR).sum)/\Hid (Bz w wr)) (λ_ iv _=>n - (intOf iv).toNat)
 case atStart=>exact ⟨0,k,Nat.zero_le _,rfl,rfl,(by show k=_;simp),Below.refl _ _⟩
 case round =>
  obtain ⟨i,kk,hi,rfl,rfl,HK,HB⟩:=hrel;by_cases hlt:i<n
  . obtain ⟨x,hxi⟩:=sqA (l:=es) (k:=i) HN.out hlt
    have hmi:(ZQ Zca cntR k es)[i]?=some (Zca kk x):=(by rw [Zbb _ _ _ _ _ _ hxi,<-HK.out]);obtain ⟨g,off,rfl,-,hgl,hat⟩:=HX.out (sqE hmi);obtain ⟨cs,hcsl,hcs,rfl,-,-⟩:=hat i _ hmi;obtain ⟨a0,a1⟩:=sqC2 hcs (by omega);rw [<-HB.out.cell (p:=⟨g,_,none⟩) hgl] at a0 a1;simp [Zca] at a0 a1;have hsum:((es.take (i+1)).map cntR).sum=((es.take i).map cntR).sum+cntR x:=Zam _ es i x hxi;have hle:((es.take (i+1)).map cntR).sum<=(es.map cntR).sum:=ZaB _ es (i+1);have hkk:=HK.out;have hkb:=HKB.out;have hcx:cntR x=2:=rfl;have HSUM:Hid (k+((es.take (i+1)).map cntR).sum=kk+2):=(by show _=_;omega);have hkk2:kk+2<=1099511627776:=(by omega);have hk11:1<=kk:=(by omega);have hki:(i:Int)<(n:Int):=(by omega);have hi0:=sqI i;have A1:=hid a1;have hgw:g<wr.heap.size:=Nat.lt_of_lt_of_le hgl HB.out.size;have q0:∀ m':Wd (λw'=>Ze All wr w'/\Bz w w'),m'.val.cell? ⟨g,off+i * 2,none⟩=some (.string (Zar kk)):=λm'=>(sqK (m'.ok.1.2 g trivial hgw)).trans a0;clear hat hcs hcsl hsum hle hkk hkb hcx HX HKB hmi a0 a1;go_wp2_with fail;have hCne:Nonempty (Wd (λw'=>Ze All wr w'/\Bz w w')):=⟨⟨wr.drew,⟨sqS,HB.out.drew⟩⟩⟩;refine Zw (λw'=>Ze All wr w'/\Bz w w') (by kernel_rfl) (by kernel_rfl) ⟨sqS,HB.out.drew⟩ ?_
    repeat (go_big_quiet_step (first | (rename_i m';go_at_call 50;refine (ZaF kk _ (by omega) (by omega) (by omega)).mono ?_;rintro e w1 ⟨rfl,hb1⟩;exact ⟨rfl,⟨⟨w1,⟨(Ze.trans m'.ok.1 (sqO hb1)),m'.ok.2.trans (hb1.mono m'.ok.2.size)⟩⟩,rfl⟩⟩)))
    refine wpQuiet_nil ?_;rintro _ ⟨mq,rfl⟩;have hbe:=mq.ok.2;have hse:=mq.ok.1;generalize mq.val=w1 at hbe hse ⊢;have a1':w1.cell? ⟨g,off+i * 2+1,none⟩=some (.int .i64 ((kk:Int)+1)):=(sqK (hse.2 g trivial hgw)).trans A1.out;have HB1:=hid hbe;clear q0 hbe hse;go_wp2_with fail;exact ⟨⟨i+1,kk+2,by omega,by go_num,by go_num,HSUM.out.symm,HB1.out⟩,by simp [intOf];omega⟩
  . obtain rfl:i=n:=by omega
    have HE:Hid (kk=k+(es.map cntR).sum):=by
     have:=HK.out;rw [sqT HN.out] at this;exact this
    go_wp2;go_ret;exact ⟨by rw [HE.out];rfl,HB.out⟩
theorem Ziz.at (h:Ziz) {w:World} {v:Value} (es:List Rf) (k:Nat) (z:Int) (hz:z=k) (ho:Rows w All 2 HRf v (ZQ Zca cntR k es)) (h1:1<=k) (hb:k+(es.map cntR).sum<=1099511627776) :
 Calls prog 22 #[v,.int .i64 z] w λe w'=>e=.returned (.int .i64 ((k+(es.map cntR).sum:Nat):Int))/\Bz w w':=by
 subst hz;exact h w v es k ho h1 hb
def ZeI (d:Nat):Prop :=
 ∀ (w:World) (v:Value) (es:List Ex) (k:Nat),Rows w All 6 (HEx w All d) v (ZQ (Zak d) (cntE d) k es)->1<=k->k+(es.map (cntE d)).sum<=1099511627776 ->
  Calls prog 89 #[v,.int .i64 k] w λe w'=>e=.returned (.int .i64 ((k+(es.map (cntE d)).sum:Nat):Int))/\Bz w w'
theorem ZeI.at {d:Nat} (h:ZeI d) {w:World} {v:Value} (es:List Ex) (k:Nat) (z:Int) (hz:z=k) (ho:Rows w All 6 (HEx w All d) v (ZQ (Zak d) (cntE d) k es)) (h1:1<=k) (hb:k+(es.map (cntE d)).sum<=1099511627776) :
 Calls prog 89 #[v,.int .i64 z] w λe w'=>e=.returned (.int .i64 ((k+(es.map (cntE d)).sum:Nat):Int))/\Bz w w':=by
 subst hz;exact h w v es k ho h1 hb
def ZeJ (d:Nat):Prop :=
 ∀ (w:World) (v:Value) (es:List Cl) (k:Nat),Rows w All 2 (HCl w All (HEx w All d)) v (ZQ (Zbr (Zak d) (cntE d)) (cntC (cntE d)) k es)->1<=k->k+(es.map (cntC (cntE d))).sum<=1099511627776 ->
  Calls prog 52 #[v,.int .i64 k] w λe w'=>e=.returned (.int .i64 ((k+(es.map (cntC (cntE d))).sum:Nat):Int))/\Bz w w'
theorem ZeJ.at {d:Nat} (h:ZeJ d) {w:World} {v:Value} (es:List Cl) (k:Nat) (z:Int) (hz:z=k) (ho:Rows w All 2 (HCl w All (HEx w All d)) v (ZQ (Zbr (Zak d) (cntE d)) (cntC (cntE d)) k es)) (h1:1<=k) (hb:k+(es.map (cntC (cntE d))).sum<=1099511627776) :
 Calls prog 52 #[v,.int .i64 z] w λe w'=>e=.returned (.int .i64 ((k+(es.map (cntC (cntE d))).sum:Nat):Int))/\Bz w w':=by
 subst hz;exact h w v es k ho h1 hb
def Zhc (d:Nat):Prop :=
 ∀ (w:World) (v:Value) (es:List Fn') (k:Nat),Rows w All 3 (HFn w All d) v (ZQ (ZbW d) (cntF d) k es)->1<=k->k+(es.map (cntF d)).sum<=1099511627776 ->
  Calls prog 23 #[v,.int .i64 k] w λe w'=>e=.returned (.int .i64 ((k+(es.map (cntF d)).sum:Nat):Int))/\Bz w w'
theorem Zhc.at {d:Nat} (h:Zhc d) {w:World} {v:Value} (es:List Fn') (k:Nat) (z:Int) (hz:z=k) (ho:Rows w All 3 (HFn w All d) v (ZQ (ZbW d) (cntF d) k es)) (h1:1<=k) (hb:k+(es.map (cntF d)).sum<=1099511627776) :
 Calls prog 23 #[v,.int .i64 z] w λe w'=>e=.returned (.int .i64 ((k+(es.map (cntF d)).sum:Nat):Int))/\Bz w w':=by
 subst hz;exact h w v es k ho h1 hb
theorem ZfR {d:Nat} (ihE:ZeI d):ZeJ d:=by
 intro w v es k h hk1 hkb;have hl:(ZQ (Zbr (Zak d) (cntE d)) (cntC (cntE d)) k es).length=es.length:=ZX _ _ _ _;obtain ⟨p,cap,rfl,hcl,hcm,hx⟩:=h;rw [hl] at hcl;have hnb:=sqM hcl hcm;rw [hl];have HX:=hid hx;have HKB:=hid hkb;generalize hn:es.length=n at *;have HN:=hid hn;clear hx hn hkb hl;go_enter func52,ntmps52;go_wp2
 go_loopw [1,5] (λkv iv wr=>∃ i kk:Nat,i<=n/\iv=.int .i64 i/\kv=.int .i64 kk/\Hid (kk=k+((es.take i).map (cntC (cntE d))).sum)/\Bz w wr) (λ_ iv _=>n - (intOf iv).toNat)
 case atStart=>exact ⟨0,k,Nat.zero_le _,rfl,rfl,(by show k=_;simp),Below.refl _ _⟩
 case round =>
  obtain ⟨i,kk,hi,rfl,rfl,HK,hb⟩:=hrel;have HB0:=hid hb;by_cases hlt:i<n
  . obtain ⟨x,hxi⟩:=sqA (l:=es) (k:=i) HN.out hlt
    have hmi:(ZQ (Zbr (Zak d) (cntE d)) (cntC (cntE d)) k es)[i]?=some ((Zbr (Zak d) (cntE d)) kk x):=(by rw [Zbb _ _ _ _ _ _ hxi,<-HK.out]);obtain ⟨g,off,rfl,_,hgl,hat⟩:=HX.out (sqE hmi);obtain ⟨cs,hcsl,hcs,hvx⟩:=hat i _ hmi;obtain ⟨v0,v1,rfl,h0,h1⟩:=hvx;have l0:(ZQ (Zak d) (cntE d) (kk) x.1).length=x.1.length:=ZX _ _ _ _;obtain ⟨q0,z0,hv0,-⟩:=id h0;have hv0':v0=.slice q0 x.1.length z0:=hv0.trans (by show Value.slice _ (ZQ (Zak d) (cntE d) (kk) x.1).length _=_;rw [l0]);subst hv0';have E0:Hid (∀ w',Ze All wr w'->Rows w' All 6 (HEx w' All d) (.slice q0 x.1.length z0) (ZQ (Zak d) (cntE d) (kk) x.1)):=λw' hw=>h0.mono (Ze.trans (sqO hb) hw) sqj (λ_ _ _ h=>h.mono (Ze.trans (sqO hb) hw) sqj);have l1:(ZQ (Zak d) (cntE d) (kk+(x.1.map (cntE d)).sum) x.2).length=x.2.length:=ZX _ _ _ _;obtain ⟨q1,z1,hv1,-⟩:=id h1;have hv1':v1=.slice q1 x.2.length z1:=hv1.trans (by show Value.slice _ (ZQ (Zak d) (cntE d) (kk+(x.1.map (cntE d)).sum) x.2).length _=_;rw [l1]);subst hv1';have E1:Hid (∀ w',Ze All wr w'->Rows w' All 6 (HEx w' All d) (.slice q1 x.2.length z1) (ZQ (Zak d) (cntE d) (kk+(x.1.map (cntE d)).sum) x.2)):=λw' hw=>h1.mono (Ze.trans (sqO hb) hw) sqj (λ_ _ _ h=>h.mono (Ze.trans (sqO hb) hw) sqj);obtain ⟨a0,a1⟩:=sqC2 hcs (by omega);rw [<-hb.cell (p:=⟨g,_,none⟩) hgl] at a0 a1;clear hcs hat;simp at a0 a1;have hgw:g<wr.heap.size:=Nat.lt_of_lt_of_le hgl hb.size;have CELLS:Hid (∀ w',Ze All wr w'->w'.cell? ⟨g,off+i * 2,none⟩=some (.slice q0 x.1.length z0)/\w'.cell? ⟨g,off+i * 2+1,none⟩=some (.slice q1 x.2.length z1)):=λw' hw=>⟨(sqK (hw.2 g trivial hgw)).trans a0,(sqK (hw.2 g trivial hgw)).trans a1⟩;have hsum:((es.take (i+1)).map (cntC (cntE d))).sum=((es.take i).map (cntC (cntE d))).sum+(cntC (cntE d)) x:=Zam _ es i x hxi;have hle:((es.take (i+1)).map (cntC (cntE d))).sum<=(es.map (cntC (cntE d))).sum:=ZaB _ es (i+1);have hcx:(cntC (cntE d)) x=(x.1.map (cntE d)).sum+(x.2.map (cntE d)).sum:=rfl;have hkk:=HK.out;have hkb:=HKB.out;have HT:Hid (kk+(x.1.map (cntE d)).sum+(x.2.map (cntE d)).sum<=1099511627776):=(by show _<=_;omega);have HSUM:Hid (k+((es.take (i+1)).map (cntC (cntE d))).sum=kk+(x.1.map (cntE d)).sum+(x.2.map (cntE d)).sum):=(by show _=_;omega);have hki:(i:Int)<(n:Int):=(by omega);have hi0:=sqI i;have hkkb:kk+0<=1099511627776:=(by omega);have hkk1:1<=kk:=(by omega);have SA0:Hid (Ze All wr wr):=sqS;clear h0 l0 hv0 h1 l1 hv1 hmi hsum hle hcx hkk hkb hcsl HKB HX hb a0 a1;obtain ⟨c0,c1⟩:=CELLS.out wr SA0.out;have R0:=E0.out wr SA0.out;have HR0:=hid R0;have HT0:Hid (kk+(x.1.map (cntE d)).sum<=1099511627776):=(by show _<=_;have:=HT.out;omega);clear R0;go_wp2_with fail;refine (ihE.at x.1 (kk) _ (by omega) HR0.out (by omega) HT0.out).mono ?_;rintro e W1 ⟨rfl,hb2⟩;have HB1:=hid (HB0.out.trans (hb2.mono HB0.out.size));have SA1:=hid (Ze.trans SA0.out (sqO hb2));have hkz0:=HT0.out;clear hb2 HR0 HT0 c0 c1;generalize hz0:kk+(x.1.map (cntE d)).sum=kz0 at *;obtain ⟨c0,c1⟩:=CELLS.out W1 SA1.out;have hkp0:1<=kz0:=(by omega);have HZ0:=hid hz0;clear hz0;have R1:=E1.out W1 SA1.out;have HR1:=hid R1;have HT1:Hid (kz0+(x.2.map (cntE d)).sum<=1099511627776):=(by show _<=_;have:=HT.out;omega);clear R1;go_wp2_with fail;refine (ihE.at x.2 (kz0) _ (by omega) HR1.out (by omega) HT1.out).mono ?_;rintro e W2 ⟨rfl,hb2⟩;have HB2:=hid (HB1.out.trans (hb2.mono HB1.out.size));have SA2:=hid (Ze.trans SA1.out (sqO hb2));have hkz1:=HT1.out;clear hb2 HR1 HT1 c0 c1;generalize hz1:kz0+(x.2.map (cntE d)).sum=kz1 at *;obtain ⟨c0,c1⟩:=CELLS.out W2 SA2.out;have hkp1:1<=kz1:=(by omega);have HZ1:=hid hz1;clear hz1;go_wp2_with fail;exact ⟨⟨i+1,kz1,by omega,by go_num,rfl,HSUM.out.symm,HB2.out⟩,by simp [intOf];omega⟩
  . obtain rfl:i=n:=by omega
    have HE:Hid (kk=k+(es.map (cntC (cntE d))).sum):=by
     have:=HK.out;rw [sqT HN.out] at this;exact this
    clear hb;go_wp2;go_ret;exact ⟨by rw [HE.out];rfl,HB0.out⟩
theorem ZfS {d:Nat} (ihE:∀ d',d=d'+1->ZeI d') (ihC:∀ d',d=d'+1->ZeJ d'):ZeI d:=by
 intro w v es k h hk1 hkb;have hl:(ZQ (Zak d) (cntE d) k es).length=es.length:=ZX _ _ _ _;obtain ⟨p,cap,rfl,hcl,hcm,hx⟩:=h;rw [hl] at hcl;have hnb:=sqM hcl hcm;rw [hl];have HX:=hid hx;have HKB:=hid hkb;generalize hn:es.length=n at *;have HN:=hid hn;clear hx hn hkb hl;go_enter func89,ntmps89;go_wp2
 go_loopw [1,5] (λkv iv wr=>∃ i kk:Nat,i<=n/\iv=.int .i64 i/\kv=.int .i64 kk/\Hid (kk=k+((es.take i).map (cntE d)).sum)/\Bz w wr) (λ_ iv _=>n - (intOf iv).toNat)
 case atStart=>exact ⟨0,k,Nat.zero_le _,rfl,rfl,(by show k=_;simp),Below.refl _ _⟩
 case round =>
  obtain ⟨i,kk,hi,rfl,rfl,HK,hb⟩:=hrel;have HB0:=hid hb;by_cases hlt:i<n
  . obtain ⟨x,hxi⟩:=sqA (l:=es) (k:=i) HN.out hlt
    have hmi:(ZQ (Zak d) (cntE d) k es)[i]?=some ((Zak d) kk x):=(by rw [Zbb _ _ _ _ _ _ hxi,<-HK.out]);obtain ⟨g,off,rfl,_,hgl,hat⟩:=HX.out (sqE hmi);obtain ⟨cs,hcsl,hcs,hvx⟩:=hat i _ hmi
    cases d with
    | zero=>exact hvx.elim
    | succ d' =>
    obtain ⟨v0,v1,rfl,-,-,-,-,h0,h1⟩:=hvx;have l0:(ZQ (Zak d') (cntE d') (kk+4) x.kids).length=x.kids.length:=ZX _ _ _ _;obtain ⟨q0,z0,hv0,-⟩:=id h0;have hv0':v0=.slice q0 x.kids.length z0:=hv0.trans (by show Value.slice _ (ZQ (Zak d') (cntE d') (kk+4) x.kids).length _=_;rw [l0]);subst hv0';have E0:Hid (∀ w',Ze All wr w'->Rows w' All 6 (HEx w' All d') (.slice q0 x.kids.length z0) (ZQ (Zak d') (cntE d') (kk+4) x.kids)):=λw' hw=>h0.mono (Ze.trans (sqO hb) hw) sqj (λ_ _ _ h=>h.mono (Ze.trans (sqO hb) hw) sqj);have l1:(ZQ (Zbr (Zak d') (cntE d')) (cntC (cntE d')) (kk+4+(x.kids.map (cntE d')).sum) x.clauses).length=x.clauses.length:=ZX _ _ _ _;obtain ⟨q1,z1,hv1,-⟩:=id h1;have hv1':v1=.slice q1 x.clauses.length z1:=hv1.trans (by show Value.slice _ (ZQ (Zbr (Zak d') (cntE d')) (cntC (cntE d')) (kk+4+(x.kids.map (cntE d')).sum) x.clauses).length _=_;rw [l1]);subst hv1';have E1:Hid (∀ w',Ze All wr w'->Rows w' All 2 (HCl w' All (HEx w' All d')) (.slice q1 x.clauses.length z1) (ZQ (Zbr (Zak d') (cntE d')) (cntC (cntE d')) (kk+4+(x.kids.map (cntE d')).sum) x.clauses)):=λw' hw=>h1.mono (Ze.trans (sqO hb) hw) sqj (λ_ _ _ h=>h.mono (Ze.trans (sqO hb) hw) sqj (λ_ _ h=>h.mono (Ze.trans (sqO hb) hw) sqj));obtain ⟨a0,a1,a2,a3,a4,a5⟩:=sqC6 hcs (by omega);rw [<-hb.cell (p:=⟨g,_,none⟩) hgl] at a0 a1 a2 a3 a4 a5;clear hcs hat;simp [Zak,Ex.kind,Ex.n,Ex.text,Ex.mod] at a0 a1 a2 a3 a4 a5;have hgw:g<wr.heap.size:=Nat.lt_of_lt_of_le hgl hb.size;have CELLS:Hid (∀ w',Ze All wr w'->w'.cell? ⟨g,off+i * 6,none⟩=some (.int .i64 (kk:Int))/\w'.cell? ⟨g,off+i * 6+1,none⟩=some (.int .i64 ((kk:Int)+1))/\w'.cell? ⟨g,off+i * 6+2,none⟩=some (.string (Zar (kk+2)))/\w'.cell? ⟨g,off+i * 6+3,none⟩=some (.string (Zar (kk+3)))/\w'.cell? ⟨g,off+i * 6+4,none⟩=some (.slice q0 x.kids.length z0)/\w'.cell? ⟨g,off+i * 6+5,none⟩=some (.slice q1 x.clauses.length z1)):=λw' hw=>⟨(sqK (hw.2 g trivial hgw)).trans a0,(sqK (hw.2 g trivial hgw)).trans a1,(sqK (hw.2 g trivial hgw)).trans a2,(sqK (hw.2 g trivial hgw)).trans a3,(sqK (hw.2 g trivial hgw)).trans a4,(sqK (hw.2 g trivial hgw)).trans a5⟩;have hsum:((es.take (i+1)).map (cntE (d'+1))).sum=((es.take i).map (cntE (d'+1))).sum+(cntE (d'+1)) x:=Zam _ es i x hxi;have hle:((es.take (i+1)).map (cntE (d'+1))).sum<=(es.map (cntE (d'+1))).sum:=ZaB _ es (i+1);have hcx:(cntE (d'+1)) x=4+(x.kids.map (cntE d')).sum+(x.clauses.map (cntC (cntE d'))).sum:=rfl;have hkk:=HK.out;have hkb:=HKB.out;have HT:Hid (kk+4+(x.kids.map (cntE d')).sum+(x.clauses.map (cntC (cntE d'))).sum<=1099511627776):=(by show _<=_;omega);have HSUM:Hid (k+((es.take (i+1)).map (cntE (d'+1))).sum=kk+4+(x.kids.map (cntE d')).sum+(x.clauses.map (cntC (cntE d'))).sum):=(by show _=_;omega);have hki:(i:Int)<(n:Int):=(by omega);have hi0:=sqI i;have hkkb:kk+4<=1099511627776:=(by omega);have hkk1:1<=kk:=(by omega);have SA0:Hid (Ze All wr wr):=sqS;clear h0 l0 hv0 h1 l1 hv1 hmi hsum hle hcx hkk hkb hcsl HKB HX hb a0 a1 a2 a3 a4 a5;obtain ⟨c0,c1,c2,c3,c4,c5⟩:=CELLS.out wr SA0.out
    have q2m:∀ m':Wd (λw'=>Ze All wr w'/\Bz w w'),m'.val.cell? ⟨g,off+i * 6+2,none⟩=some (.string (Zar (kk+2))):=λm'=>by obtain ⟨c0,c1,c2,c3,c4,c5⟩:=CELLS.out _ m'.ok.1;exact c2
    go_wp2;have hCne:Nonempty (Wd (λw'=>Ze All wr w'/\Bz w w')):=⟨⟨wr.drew,⟨Ze.trans SA0.out sqS,HB0.out.drew⟩⟩⟩;refine Zw (λw'=>Ze All wr w'/\Bz w w') (by kernel_rfl) (by kernel_rfl) ⟨Ze.trans SA0.out sqS,HB0.out.drew⟩ ?_
    repeat (go_big_quiet_step (first | (rename_i m';go_at_call 50;refine (ZaF (kk+2) _ (by omega) (by omega) (by omega)).mono ?_;rintro e w1 ⟨rfl,hb1⟩;exact ⟨rfl,⟨⟨w1,⟨(Ze.trans m'.ok.1 (sqO hb1)),m'.ok.2.trans (hb1.mono m'.ok.2.size)⟩⟩,rfl⟩⟩)))
    refine wpQuiet_nil ?_;rintro _ ⟨mq,rfl⟩;have hbe:=mq.ok.2;have hse:=mq.ok.1;generalize mq.val=W1 at hbe hse ⊢;have SA1:=hid hse;have HB1:=hid hbe;clear q2m hbe hse hCne c0 c1 c2 c3 c4 c5;obtain ⟨c0,c1,c2,c3,c4,c5⟩:=CELLS.out W1 SA1.out
    have q3m:∀ m':Wd (λw'=>Ze All wr w'/\Bz w w'),m'.val.cell? ⟨g,off+i * 6+3,none⟩=some (.string (Zar (kk+3))):=λm'=>by obtain ⟨c0,c1,c2,c3,c4,c5⟩:=CELLS.out _ m'.ok.1;exact c3
    go_wp2;have hCne:Nonempty (Wd (λw'=>Ze All wr w'/\Bz w w')):=⟨⟨W1.drew,⟨Ze.trans SA1.out sqS,HB1.out.drew⟩⟩⟩;refine Zw (λw'=>Ze All wr w'/\Bz w w') (by kernel_rfl) (by kernel_rfl) ⟨Ze.trans SA1.out sqS,HB1.out.drew⟩ ?_
    repeat (go_big_quiet_step (first | (rename_i m';go_at_call 50;refine (ZaF (kk+3) _ (by omega) (by omega) (by omega)).mono ?_;rintro e w1 ⟨rfl,hb1⟩;exact ⟨rfl,⟨⟨w1,⟨(Ze.trans m'.ok.1 (sqO hb1)),m'.ok.2.trans (hb1.mono m'.ok.2.size)⟩⟩,rfl⟩⟩)))
    refine wpQuiet_nil ?_;rintro _ ⟨mq,rfl⟩;have hbe:=mq.ok.2;have hse:=mq.ok.1;generalize mq.val=W2 at hbe hse ⊢;have SA2:=hid hse;have HB2:=hid hbe;clear q3m hbe hse hCne c0 c1 c2 c3 c4 c5;obtain ⟨c0,c1,c2,c3,c4,c5⟩:=CELLS.out W2 SA2.out;have R0:=E0.out W2 SA2.out;have HR0:=hid R0;have HT0:Hid (kk+4+(x.kids.map (cntE d')).sum<=1099511627776):=(by show _<=_;have:=HT.out;omega);clear R0;go_wp2_with fail;refine ((ihE d' rfl).at x.kids (kk+4) _ (by omega) HR0.out (by omega) HT0.out).mono ?_;rintro e W3 ⟨rfl,hb2⟩;have HB3:=hid (HB2.out.trans (hb2.mono HB2.out.size));have SA3:=hid (Ze.trans SA2.out (sqO hb2));have hkz0:=HT0.out;clear hb2 HR0 HT0 c0 c1 c2 c3 c4 c5;generalize hz0:kk+4+(x.kids.map (cntE d')).sum=kz0 at *;obtain ⟨c0,c1,c2,c3,c4,c5⟩:=CELLS.out W3 SA3.out;have hkp0:1<=kz0:=(by omega);have HZ0:=hid hz0;clear hz0;have R1:=E1.out W3 SA3.out;have HR1:=hid R1;have HT1:Hid (kz0+(x.clauses.map (cntC (cntE d'))).sum<=1099511627776):=(by show _<=_;have:=HT.out;omega);clear R1;go_wp2_with fail;refine ((ihC d' rfl).at x.clauses (kz0) _ (by omega) HR1.out (by omega) HT1.out).mono ?_;rintro e W4 ⟨rfl,hb2⟩;have HB4:=hid (HB3.out.trans (hb2.mono HB3.out.size));have SA4:=hid (Ze.trans SA3.out (sqO hb2));have hkz1:=HT1.out;clear hb2 HR1 HT1 c0 c1 c2 c3 c4 c5;generalize hz1:kz0+(x.clauses.map (cntC (cntE d'))).sum=kz1 at *;obtain ⟨c0,c1,c2,c3,c4,c5⟩:=CELLS.out W4 SA4.out;have hkp1:1<=kz1:=(by omega);have HZ1:=hid hz1;clear hz1;go_wp2_with fail;exact ⟨⟨i+1,kz1,by omega,by go_num,rfl,HSUM.out.symm,HB4.out⟩,by simp [intOf];omega⟩
  . obtain rfl:i=n:=by omega
    have HE:Hid (kk=k+(es.map (cntE d)).sum):=by
     have:=HK.out;rw [sqT HN.out] at this;exact this
    clear hb;go_wp2;go_ret;exact ⟨by rw [HE.out];rfl,HB0.out⟩
theorem ZiA {d:Nat} (ihC:ZeJ d):Zhc d:=by
 intro w v es k h hk1 hkb;have hl:(ZQ (ZbW d) (cntF d) k es).length=es.length:=ZX _ _ _ _;obtain ⟨p,cap,rfl,hcl,hcm,hx⟩:=h;rw [hl] at hcl;have hnb:=sqM hcl hcm;rw [hl];have HX:=hid hx;have HKB:=hid hkb;generalize hn:es.length=n at *;have HN:=hid hn;clear hx hn hkb hl;go_enter func23,ntmps23;go_wp2
 go_loopw [1,5] (λkv iv wr=>∃ i kk:Nat,i<=n/\iv=.int .i64 i/\kv=.int .i64 kk/\Hid (kk=k+((es.take i).map (cntF d)).sum)/\Bz w wr) (λ_ iv _=>n - (intOf iv).toNat)
 case atStart=>exact ⟨0,k,Nat.zero_le _,rfl,rfl,(by show k=_;simp),Below.refl _ _⟩
 case round =>
  obtain ⟨i,kk,hi,rfl,rfl,HK,hb⟩:=hrel;have HB0:=hid hb;by_cases hlt:i<n
  . obtain ⟨x,hxi⟩:=sqA (l:=es) (k:=i) HN.out hlt
    have hmi:(ZQ (ZbW d) (cntF d) k es)[i]?=some ((ZbW d) kk x):=(by rw [Zbb _ _ _ _ _ _ hxi,<-HK.out]);obtain ⟨g,off,rfl,_,hgl,hat⟩:=HX.out (sqE hmi);obtain ⟨cs,hcsl,hcs,hvx⟩:=hat i _ hmi;obtain ⟨v0,rfl,-,-,h0⟩:=hvx;have l0:(ZQ (Zbr (Zak d) (cntE d)) (cntC (cntE d)) (kk+2) x.clauses).length=x.clauses.length:=ZX _ _ _ _;obtain ⟨q0,z0,hv0,-⟩:=id h0;have hv0':v0=.slice q0 x.clauses.length z0:=hv0.trans (by show Value.slice _ (ZQ (Zbr (Zak d) (cntE d)) (cntC (cntE d)) (kk+2) x.clauses).length _=_;rw [l0]);subst hv0';have E0:Hid (∀ w',Ze All wr w'->Rows w' All 2 (HCl w' All (HEx w' All d)) (.slice q0 x.clauses.length z0) (ZQ (Zbr (Zak d) (cntE d)) (cntC (cntE d)) (kk+2) x.clauses)):=λw' hw=>h0.mono (Ze.trans (sqO hb) hw) sqj (λ_ _ _ h=>h.mono (Ze.trans (sqO hb) hw) sqj (λ_ _ h=>h.mono (Ze.trans (sqO hb) hw) sqj));obtain ⟨a0,a1,a2⟩:=sqC3 hcs (by omega);rw [<-hb.cell (p:=⟨g,_,none⟩) hgl] at a0 a1 a2;clear hcs hat;simp [ZbW] at a0 a1 a2;have hgw:g<wr.heap.size:=Nat.lt_of_lt_of_le hgl hb.size;have CELLS:Hid (∀ w',Ze All wr w'->w'.cell? ⟨g,off+i * 3,none⟩=some (.string (Zar (kk)))/\w'.cell? ⟨g,off+i * 3+1,none⟩=some (.int .i64 ((kk:Int)+1))/\w'.cell? ⟨g,off+i * 3+2,none⟩=some (.slice q0 x.clauses.length z0)):=λw' hw=>⟨(sqK (hw.2 g trivial hgw)).trans a0,(sqK (hw.2 g trivial hgw)).trans a1,(sqK (hw.2 g trivial hgw)).trans a2⟩;have hsum:((es.take (i+1)).map (cntF d)).sum=((es.take i).map (cntF d)).sum+(cntF d) x:=Zam _ es i x hxi;have hle:((es.take (i+1)).map (cntF d)).sum<=(es.map (cntF d)).sum:=ZaB _ es (i+1);have hcx:(cntF d) x=2+(x.clauses.map (cntC (cntE d))).sum:=rfl;have hkk:=HK.out;have hkb:=HKB.out;have HT:Hid (kk+2+(x.clauses.map (cntC (cntE d))).sum<=1099511627776):=(by show _<=_;omega);have HSUM:Hid (k+((es.take (i+1)).map (cntF d)).sum=kk+2+(x.clauses.map (cntC (cntE d))).sum):=(by show _=_;omega);have hki:(i:Int)<(n:Int):=(by omega);have hi0:=sqI i;have hkkb:kk+2<=1099511627776:=(by omega);have hkk1:1<=kk:=(by omega);have SA0:Hid (Ze All wr wr):=sqS;clear h0 l0 hv0 hmi hsum hle hcx hkk hkb hcsl HKB HX hb a0 a1 a2;obtain ⟨c0,c1,c2⟩:=CELLS.out wr SA0.out
    have q0m:∀ m':Wd (λw'=>Ze All wr w'/\Bz w w'),m'.val.cell? ⟨g,off+i * 3,none⟩=some (.string (Zar (kk))):=λm'=>by obtain ⟨c0,c1,c2⟩:=CELLS.out _ m'.ok.1;exact c0
    go_wp2;have hCne:Nonempty (Wd (λw'=>Ze All wr w'/\Bz w w')):=⟨⟨wr.drew,⟨Ze.trans SA0.out sqS,HB0.out.drew⟩⟩⟩;refine Zw (λw'=>Ze All wr w'/\Bz w w') (by kernel_rfl) (by kernel_rfl) ⟨Ze.trans SA0.out sqS,HB0.out.drew⟩ ?_
    repeat (go_big_quiet_step (first | (rename_i m';go_at_call 50;refine (ZaF (kk) _ (by omega) (by omega) (by omega)).mono ?_;rintro e w1 ⟨rfl,hb1⟩;exact ⟨rfl,⟨⟨w1,⟨(Ze.trans m'.ok.1 (sqO hb1)),m'.ok.2.trans (hb1.mono m'.ok.2.size)⟩⟩,rfl⟩⟩)))
    refine wpQuiet_nil ?_;rintro _ ⟨mq,rfl⟩;have hbe:=mq.ok.2;have hse:=mq.ok.1;generalize mq.val=W1 at hbe hse ⊢;have SA1:=hid hse;have HB1:=hid hbe;clear q0m hbe hse hCne c0 c1 c2;obtain ⟨c0,c1,c2⟩:=CELLS.out W1 SA1.out;have R0:=E0.out W1 SA1.out;have HR0:=hid R0;have HT0:Hid (kk+2+(x.clauses.map (cntC (cntE d))).sum<=1099511627776):=(by show _<=_;have:=HT.out;omega);clear R0;go_wp2_with fail;refine (ihC.at x.clauses (kk+2) _ (by omega) HR0.out (by omega) HT0.out).mono ?_;rintro e W2 ⟨rfl,hb2⟩;have HB2:=hid (HB1.out.trans (hb2.mono HB1.out.size));have SA2:=hid (Ze.trans SA1.out (sqO hb2));have hkz0:=HT0.out;clear hb2 HR0 HT0 c0 c1 c2;generalize hz0:kk+2+(x.clauses.map (cntC (cntE d))).sum=kz0 at *;obtain ⟨c0,c1,c2⟩:=CELLS.out W2 SA2.out;have hkp0:1<=kz0:=(by omega);have HZ0:=hid hz0;clear hz0;go_wp2_with fail;exact ⟨⟨i+1,kz0,by omega,by go_num,rfl,HSUM.out.symm,HB2.out⟩,by simp [intOf];omega⟩
  . obtain rfl:i=n:=by omega
    have HE:Hid (kk=k+(es.map (cntF d)).sum):=by
     have:=HK.out;rw [sqT HN.out] at this;exact this
    clear hb;go_wp2;go_ret;exact ⟨by rw [HE.out];rfl,HB0.out⟩
theorem Zda:∀ d,ZeI d
 | 0=>ZfS (λd' h=>by omega) (λd' h=>by omega)
 | d+1=>ZfS (λd' h=>by (obtain rfl:d=d':=by omega);exact Zda d) (λd' h=>by (obtain rfl:d=d':=by omega);exact ZfR (Zda d))
theorem ZhH (d:Nat):ZeJ d:=ZfR (Zda d)
theorem ZhI (d:Nat):Zhc d:=ZiA (ZhH d)
theorem Zec (d:Nat) (w:World) (cs:List Value) (m:Md) (fp:List Nat) (k:Nat) (h:OMd w d cs m fp) (hn:fp.Nodup) (h1:1<=k) (hb:k+cntM d m<=1099511627776) :
 Calls prog 7 #[.agg cs.toArray,.int .i64 k] w λe' w'=>e'=.returned (.int .i64 ((k+cntM d m:Nat):Int))/\OMd w' d cs (Zis d k m) fp/\Off fp w w':=by
 have hcx:cntM d m=(m.exports.map cntR).sum+(m.funs.map (cntF d)).sum:=rfl;obtain ⟨ev,fv,f1,f2,rfl,rfl,hms,hk,hc⟩:=h;have hn12:=List.nodup_append.1 hn;obtain ⟨pk,ck,rfl,_⟩:=hk.shape;obtain ⟨pc,cc,rfl,_⟩:=hc.shape;have lt1:∀ a ∈ f1,a<w.heap.size:=hk.lt (λ_ _ _ h=>h.lt);have lt2:∀ a ∈ f2,a<w.heap.size:=hc.lt (λ_ _ _ h=>h.lt);have hal:Bz w (w.alloc (.cells #[.string m.name,.slice pk m.exports.length ck,.slice pc m.funs.length cc] 25)):=(sqN _ _);have k1:=Zu.below hal lt1;have k2:=Zu.below hal lt2;have HC1:=hid (hc.keep k2 (λcs x f' _ hs h=>h.keep (k2.sub hs)));have HK1:=hid (hk.keep k1 (λcs x f' _ hs h=>h));have HAL:=hid hal;have hB1:k+(m.exports.map cntR).sum<=1099511627776:=(by omega);have HB2:Hid (k+(m.exports.map cntR).sum+(m.funs.map (cntF d)).sum<=1099511627776):=(by show _<=_;omega);have HMS:=hid hms;have HCX:Hid (k+cntM d m=k+(m.exports.map cntR).sum+(m.funs.map (cntF d)).sum):=(by show _=_;omega);have HMM:Hid (Zis d k m=⟨m.name,ZQ Zca cntR k m.exports,ZQ (ZbW d) (cntF d) (k+(m.exports.map cntR).sum) m.funs⟩):=rfl;have HN12:=hid hn12.2.2;clear hk hc k1 k2 hal hcx hb hms;go_enter func7,ntmps7;go_wp2_with fail;refine ((ZhC d).at m.exports f1 k _ rfl HK1.out hn12.1 h1 hB1).mono ?_;rintro e' w1 ⟨rfl,r1,off1⟩;have bA:Blk w1 w.heap.size #[.string m.name,.slice pk m.exports.length ck,.slice pc m.funs.length cc] 25:=(off1.block w.heap.size (Blk.new (w:=w)).lt (λhm=>by have:=lt1 _ hm;omega)).trans (Blk.new (w:=w));have a2:=bA.cell 2 _ rfl;have k12:=off1.keep (f:=f2) (λa ha=>⟨HC1.out.lt (λ_ _ _ h=>h.lt) a ha,λhm=>HN12.out a hm a ha rfl⟩);have HC2:=hid (HC1.out.keep k12 (λcs x f' _ hs h=>h.keep (k12.sub hs)));have OF1:Hid (Off f1 w w1):=(Off.of_below HAL.out).trans off1;have R1:=hid r1;generalize hk2g:k+(m.exports.map cntR).sum=k2 at *;have hk21:1<=k2:=(by omega);clear r1 off1 bA k12 hk2g;go_wp2_with fail;refine ((ZhD d).at m.funs f2 k2 _ rfl HC2.out hn12.2.1 hk21 HB2.out).mono ?_;rintro e' w2 ⟨rfl,r2,off2⟩;have hoff:Hid (Off (f1 ++ f2) w w2):=(OF1.out.sub (λa ha=>by simp [ha])).trans (off2.sub (λa ha=>by simp [ha]));have k1:Zu f1 w1 w2:=off2.keep (λa ha=>⟨R1.out.lt (λ_ _ _ h=>h.lt) a ha,λhm=>HN12.out a ha a hm rfl⟩)
 have HRES:Hid (OMd w2 d [.string m.name,.slice pk m.exports.length ck,.slice pc m.funs.length cc] (Zis d k m) (f1 ++ f2)):=by
  show OMd _ _ _ _ _;rw [HMM.out];exact ⟨_,_,f1,f2,rfl,rfl,HMS.out,R1.out.keep k1 (λcs x f' _ hs h=>h),r2⟩
 clear r2 off2 k1;go_wp2;go_ret;exact ⟨by rw [HCX.out];rfl,HRES.out,hoff.out⟩
theorem Zed (d:Nat) (w:World) (nm:ByteArray) (ev fv:Value) (m:Md) (h:HMd w All d [.string nm,ev,fv] (Zis d 1 m)) (hb:1+cntM d m<=1099511627776) :
 Calls prog 8 #[.agg #[.string nm,ev,fv],.int .i64 1] w λe w'=>e=.returned (.int .i64 ((1+cntM d m:Nat):Int))/\Bz w w':=by
 have hcx:cntM d m=(m.exports.map cntR).sum+(m.funs.map (cntF d)).sum:=rfl;obtain ⟨ev',fv',he,hs,h1,h2⟩:=h;simp only [List.cons.injEq,and_true] at he;obtain ⟨-,rfl,rfl⟩:=he;obtain ⟨W1,hW1⟩:∃ W1,W1=w.alloc (.cells #[.string nm,ev,fv] 25):=⟨_,rfl⟩;have B1:Hid (Bz w W1):=(by show Below _ _ _;rw [hW1];exact (sqN _ _));have x1:Hid (Blk W1 w.heap.size #[.string nm,ev,fv] 25):=(by show Blk _ _ _ _;rw [hW1];exact Blk.new)
 have HR:Hid (Calls prog 22 #[ev,.int .i64 1] W1 λe w'=>e=.returned (.int .i64 ((1+(m.exports.map cntR).sum:Nat):Int))/\Bz W1 w') :=
  ZhG.at m.exports 1 1 rfl (h1.mono (sqO B1.out) sqj (λ_ _ _ h=>h)) (sqR _) (by omega)
 have HF:Hid (∀ w',Bz w w'->Calls prog 23 #[fv,.int .i64 ((1+(m.exports.map cntR).sum:Nat):Int)] w' λe w''=>e=.returned (.int .i64 ((1+cntM d m:Nat):Int))/\Below w'.heap.size w' w''):=λw' hb'=>by
  have:=(ZhI d).at m.funs (1+(m.exports.map cntR).sum) _ rfl (w:=w') (v:=fv) (h2.mono (sqO hb') sqj (λ_ _ _ h=>h.mono (sqO hb') sqj)) (by omega) (by omega);rw [hcx,<-Nat.add_assoc];exact this
 have HW1:=hid hW1;have a1:=x1.out.cell 1 _ rfl;have a2:=x1.out.cell 2 _ rfl;rw [hW1] at a1 a2;generalize (m.exports.map cntR).sum=z at *;generalize cntM d m=y at *;have hz:¬ ((1+z:Nat):Int)<0:=(by omega);have hy:¬ ((1+y:Nat):Int)<0:=(by omega);generalize ((1+z:Nat):Int)=zi at *;generalize ((1+y:Nat):Int)=yi at *;clear hW1 h1 h2 hs hb hcx;go_enter func8,ntmps8;go_wp2_with fail;rw [<-HW1.out];clear a1 a2;refine HR.out.mono ?_;rintro e w2 ⟨rfl,hb⟩;have B2:=hid (B1.out.trans (hb.mono B1.out.size));have x2:=hid (x1.out.next hb);have a2:=x2.out.cell 2 _ rfl;clear hb;go_wp2_with fail;refine (HF.out _ B2.out).mono ?_;rintro e w3 ⟨rfl,hb⟩;have B3:=hid (B2.out.trans (hb.mono B2.out.size));clear hb;go_wp2;go_ret;exact ⟨rfl,B3.out⟩
end
end Go.Proofs.YtacioihbhkcdcaaGreatDoor
