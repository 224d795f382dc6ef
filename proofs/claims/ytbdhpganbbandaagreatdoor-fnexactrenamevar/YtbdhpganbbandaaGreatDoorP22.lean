/-
  Mark ExMark RefMark FunMark ModCnt ModsMark RefHeld
-/
import Derived.OpenShut
import Derived.WalkSpells
import Derived.Lib.ItoaNum
import Derived.Test.YtbdhpganbbandaaGreatDoorP06
set_option maxHeartbeats 16000000
set_option linter.unusedVariables false
set_option maxRecDepth 100000
namespace Go.Proofs.YtbdhpganbbandaaGreatDoor
open Go.ChangeShapes Go.WideShapes Go.ChangeAt Go.RowKit
section
open Go.Proofs.Tryz
theorem ret_strM {a b:List UInt8} (h:a=b):Ending.returned (.string ⟨a.toArray⟩)=.returned (.string ⟨b.toArray⟩):=by rw [h]
theorem mk_length_le:∀ (k u:Nat),u<10 ^ (k+1)->(Lib.decDigits u).length<=k+1
 | 0,u,h=>by
  rw [Lib.decDigits,dif_pos (by simpa using h)];simp
 | k+1,u,h=>by
  by_cases hu:u<10
  . rw [Lib.decDigits,dif_pos hu];simp
  . rw [Lib.decDigits,dif_neg hu,List.length_append]
    have:=mk_length_le k (u / 10) (by rw [Nat.div_lt_iff_lt_mul (by omega)];rw [Nat.pow_succ] at h;exact h);simp only [List.length_cons,List.length_nil];omega
theorem mk_step (x:Nat) (l D:List UInt8) (h:Lib.decDigits x ++ l=D) :
 (x / 10≠0->Lib.decDigits (x / 10) ++ ((48+UInt8.ofNat (x % 10)) :: l)=D)/\(x / 10=0->(48+UInt8.ofNat (x % 10)) :: l=D):=by
 have e:∀ m:Nat,(48+UInt8.ofNat m)=UInt8.ofNat (48+m):=λm=>(UInt8.ofNat_add 48 m).symm;rw [e];refine ⟨λh0=>?_,λh0=>?_⟩
 . rw [Lib.decDigits,dif_neg (by omega)] at h
   rw [<-h];simp
 . rw [Lib.decDigits,dif_pos (by omega)] at h
   rw [<-h,Nat.mod_eq_of_lt (by omega)];rfl
theorem mk_cons (c:UInt8) (l:List UInt8):((⟨#[c]⟩:ByteArray) ++ ⟨l.toArray⟩)=⟨(c :: l).toArray⟩:=by
 apply ByteArray.ext;simp
theorem mk_conv (wr:World) (x:Nat) :
 Sem.run prog (convert 108 9 (.slice (some ⟨wr.heap.size,0,none⟩) 1 1)) (wr.alloc (.cells #[.int .u8 (48+(x:Int) % 10)] 5)) =
  .ok (.string ⟨#[UInt8.ofNat (48+x % 10)]⟩) (wr.alloc (.cells #[.int .u8 (48+(x:Int) % 10)] 5)):=by
 refine Go.run_convert_bytes_back (P:=prog) _ _ _ 5 ⟨wr.heap.size,0,none⟩ 1 [UInt8.ofNat (48+x % 10)] underlying108 underlying5 underlying9 ?_;intro j hj;simp only [List.length_cons,List.length_nil] at hj;obtain rfl:j=0:=(by omega)
 have e:(UInt8.ofNat (48+x % 10)).toNat=48+x % 10:=by
  rw [UInt8.toNat_ofNat'];omega
 simp only [List.getElem_cons_zero,e];simp [Addr.add]
theorem markText_any (n:Nat) (w:World) (h0:1<=n) (h1:n<=1099511627776) :
 Calls prog 32 #[.int .i64 n] w λe w'=>e=.returned (.string ⟨(109 :: Lib.decDigits n).toArray⟩)/\Bz w w':=by
 have hD:(Lib.decDigits n).length<=13:=mk_length_le 12 n (by omega);have hz:¬ n=0:=(by omega);go_enter func32,ntmps32;go_wp2
 go_loopw [0,3] (λm o wr=>∃ (x:Nat) (l:List UInt8),m=.int .i64 x/\o=.string ⟨l.toArray⟩/\x<=n/\(x≠0->Lib.decDigits x ++ l=Lib.decDigits n)/\(x=0->l=Lib.decDigits n)/\Bz w wr) (λm _ _=>(intOf m).toNat)
 case atStart=>exact ⟨n,[],rfl,rfl,Nat.le_refl _,λ_=>by simp,λh=>by omega,Below.refl _ _⟩
 case round =>
  obtain ⟨x,l,rfl,rfl,hx,hr1,hr2,hb⟩:=hrel;have H1:=hid hr1;have H2:=hid hr2;have HB:=hid hb;clear hr1 hr2 hb;by_cases hxz:0<x
  . have hcat:=H1.out (by omega)
    have hll:l.length<=20:=(by have:=congrArg List.length hcat;rw [List.length_append] at this;omega);have HS:Hid _:=mk_step x l _ hcat;have hcv:=mk_conv wr x;clear hcat H1 H2 hD;go_wp2;refine ⟨⟨x / 10,_,by go_num,by rw [mk_cons],by omega,HS.out.1,HS.out.2,HB.out.alloc HB.out.size _⟩,?_⟩;simp only [intOf];omega
  . have hl:l=Lib.decDigits n:=H2.out (by omega)
    have hll:l.length<=20:=(by rw [hl];omega);have HL:=hid hl;clear hl hD;go_wp2;go_ret;exact ⟨by rw [mk_cons];exact ret_strM (by rw [HL.out]),HB.out⟩
def mtext (n:Nat):ByteArray:=⟨(109 :: Lib.decDigits n).toArray⟩
theorem mtext_ok {n:Nat} (h:n<=1099511627776):okS (mtext n):=by
 have hD:(Lib.decDigits n).length<=13:=mk_length_le 12 n (by omega);unfold okS mtext maxLen;show (109 :: Lib.decDigits n).toArray.size<=_;simp;omega
theorem nat_ok {n:Nat} (h:n<=1099511627776):okI n:=by
 show (Lit.int .i64 (n:Int)).wf=true;have h1:(n:Int)<=1099511627776:=(by omega);have h0:(0:Int)<=n:=(by omega);generalize (n:Int)=z at h1 h0;simp only [Lit.wf,Bool.and_eq_true,decide_eq_true_eq];exact ⟨Int.le_trans (by decide) h0,Int.le_trans h1 (by decide)⟩
theorem markText_at {w:World} (n:Nat) (z:Int) (hz:z=n) (h0:1<=n) (h1:n<=1099511627776) :
 Calls prog 32 #[.int .i64 z] w λe w'=>e=.returned (.string (mtext n))/\Bz w w':=by
 subst hz;exact markText_any n w h0 h1
def cntC (f:Ex->Nat) (c:Cl):Nat:=(c.1.map f).sum+(c.2.map f).sum
def cntE:Nat->Ex->Nat
 | 0,_=>0
 | d+1,e=>4+(e.kids.map (cntE d)).sum+(e.clauses.map (cntC (cntE d))).sum
def markC (m:Nat->Ex->Ex) (f:Ex->Nat) (k:Nat) (c:Cl):Cl:=(markL m f k c.1,markL m f (k+(c.1.map f).sum) c.2)
def markE:Nat->Nat->Ex->Ex
 | 0,_,e=>e
 | d+1,k,e=>.mk k (k+1) (mtext (k+2)) (mtext (k+3)) (markL (markE d) (cntE d) (k+4) e.kids) (markL (markC (markE d) (cntE d)) (cntC (cntE d)) (k+4+(e.kids.map (cntE d)).sum) e.clauses)
def MarkES (d:Nat):Prop :=
 ∀ (w:World) (v:Value) (es:List Ex) (fp:List Nat) (k:Nat),ORows w 74 6 (OEx w d) v es fp->fp.Nodup->1<=k->k+(es.map (cntE d)).sum<=1099511627776 ->
  Calls prog 99 #[v,.int .i64 k] w λe w'=>e=.returned (.int .i64 ((k+(es.map (cntE d)).sum:Nat):Int))/\ORows w' 74 6 (OEx w' d) v (markL (markE d) (cntE d) k es) fp/\Off fp w w'
def MarkCS (d:Nat):Prop :=
 ∀ (w:World) (v:Value) (es:List Cl) (fp:List Nat) (k:Nat),ORows w 44 2 (OCls w d) v es fp->fp.Nodup->1<=k->k+(es.map (cntC (cntE d))).sum<=1099511627776 ->
  Calls prog 67 #[v,.int .i64 k] w λe w'=>e=.returned (.int .i64 ((k+(es.map (cntC (cntE d))).sum:Nat):Int))/\ORows w' 44 2 (OCls w' d) v (markL (markC (markE d) (cntE d)) (cntC (cntE d)) k es) fp/\Off fp w w'
theorem MarkES.at {d:Nat} (h:MarkES d) {w:World} {v:Value} (es:List Ex) (fp:List Nat) (k:Nat) (z:Int) (hz:z=k) (ho:ORows w 74 6 (OEx w d) v es fp) (hn:fp.Nodup) (h1:1<=k) (hb:k+(es.map (cntE d)).sum<=1099511627776) :
 Calls prog 99 #[v,.int .i64 z] w λe w'=>e=.returned (.int .i64 ((k+(es.map (cntE d)).sum:Nat):Int))/\ORows w' 74 6 (OEx w' d) v (markL (markE d) (cntE d) k es) fp/\Off fp w w':=by
 subst hz;exact h w v es fp k ho hn h1 hb
theorem MarkCS.at {d:Nat} (h:MarkCS d) {w:World} {v:Value} (es:List Cl) (fp:List Nat) (k:Nat) (z:Int) (hz:z=k) (ho:ORows w 44 2 (OCls w d) v es fp) (hn:fp.Nodup) (h1:1<=k) (hb:k+(es.map (cntC (cntE d))).sum<=1099511627776) :
 Calls prog 67 #[v,.int .i64 z] w λe w'=>e=.returned (.int .i64 ((k+(es.map (cntC (cntE d))).sum:Nat):Int))/\ORows w' 44 2 (OCls w' d) v (markL (markC (markE d) (cntE d)) (cntC (cntE d)) k es) fp/\Off fp w w':=by
 subst hz;exact h w v es fp k ho hn h1 hb
theorem MarkCS_of {d:Nat} (ihE:MarkES d):MarkCS d:=by
 intro w v es fp k h hnd hk1 hkb;obtain ⟨p,cap,rfl,hcl,hcm⟩:=h.shape;have hnb:=sqM hcl hcm;have HL:Hid ((markL (markC (markE d) (cntE d)) (cntC (cntE d)) k es).length=es.length):=markL_length _ _ _ _;have HO:=hid h;have HND:Hid fp.Nodup:=hnd;have HKB:=hid hkb;generalize hn:es.length=n at *;have HN:=hid hn;clear h hnd hn hkb;go_enter func67,ntmps67;go_wp2
 go_loopw [1,5] (λkv iv wr=>∃ i kk:Nat,i<=n/\iv=.int .i64 i/\kv=.int .i64 kk/\Hid (kk=k+((es.take i).map (cntC (cntE d))).sum)/\Hid (ORows wr 44 2 (OCls wr d) (.slice p n cap) (mix i (markL (markC (markE d) (cntE d)) (cntC (cntE d)) k es) es) fp)/\Hid (Off fp w wr)) (λ_ iv _=>n - (intOf iv).toNat)
 case atStart=>exact ⟨0,k,Nat.zero_le _,rfl,rfl,(by show k=_;simp),(by show ORows _ _ _ _ _ _ _;rw [mix_zero];exact HO.out),Off.refl _ _⟩
 case round =>
  obtain ⟨i,kk,hi,rfl,rfl,HK,HR,HF⟩:=hrel;by_cases hlt:i<n
  . obtain ⟨x,hxi⟩:=sqA (l:=es) (k:=i) HN.out hlt
    have hml:(mix i (markL (markC (markE d) (cntE d)) (cntC (cntE d)) k es) es).length=n:=(by rw [mix_length (by rw [HL.out,HN.out]),HN.out]);have hmx:(mix i (markL (markC (markE d) (cntE d)) (cntC (cntE d)) k es) es)[i]?=some x:=(by rw [mix_at (by rw [HL.out,HN.out]) (by rw [HN.out];exact hlt)];exact hxi);have HMX:=hid hml
    rcases HR.out with hnil | ⟨hne,cells,g,cap',fps,ho,hv,hl,hfp,hat⟩
    . rw [hnil.1] at hml;simp at hml;omega
    rw [hml] at ho hv hl;obtain ⟨f,hf⟩:∃ f,fps[i]?=some f:=⟨fps[i]'(by rw [hl];exact hlt),List.getElem?_eq_getElem _⟩;obtain ⟨cs,hcs4,hcs,hx⟩:=hat i x f hmx hf
    cases hv
    have hlc:cells.length=n * 2:=ho.1;have hnp:=nodup_parts (hfp ▸ HND.out);have hsum:((es.take (i+1)).map (cntC (cntE d))).sum=((es.take i).map (cntC (cntE d))).sum+cntC (cntE d) x:=sum_take_succ _ es i x hxi;have hle:((es.take (i+1)).map (cntC (cntE d))).sum<=(es.map (cntC (cntE d))).sum:=sum_take_le _ es (i+1);have hkk:=HK.out;have hkb:=HKB.out;have hg0:g ∈ fp:=(by rw [hfp];simp)
    have hfs:∀ a ∈ f,a ∈ fp:=λa ha=>by rw [hfp];exact List.mem_cons_of_mem _ (List.mem_flatten.2 ⟨f,List.mem_of_getElem? hf,ha⟩)
    have hgf:g ∉ f:=(hnp.1 f (List.mem_of_getElem? hf)).1;have hfn:f.Nodup:=(hnp.1 f (List.mem_of_getElem? hf)).2
    have HMI:Hid ((markL (markC (markE d) (cntE d)) (cntC (cntE d)) k es)[i]?=some ((markC (markE d) (cntE d)) kk x)):=by
     show _=_;rw [markL_at _ _ _ _ _ _ hxi,<-HK.out]
    have HAT:=hid hat;have HNP:=hid hnp.2;have HNG:=hid hnp.1;have HFP:=hid hfp;have HNE:=hid hne;have HFS:Hid ((∀ a ∈ f,a ∈ fp)/\g ∈ fp/\g ∉ f/\f.Nodup):=⟨hfs,hg0,hgf,hfn⟩;have hki:(i:Int)<(n:Int):=(by omega);have hi0:=sqI i;clear hat hnp hfp hne hfs hg0 hgf hfn hml hmx HKB HO;obtain ⟨pv,bv,f1,f2,rfl,rfl,hp,hbd⟩:=hx;obtain ⟨pp,cp,hpv,_⟩:=hp.shape;subst hpv;obtain ⟨pb,cb,hbv,_⟩:=hbd.shape;subst hbv;have a0:=(ho.cellAt (i * 2) (by omega)).trans (hcs 0 (by omega));have a1:=(ho.cellAt (i * 2+1) (by omega)).trans (hcs 1 (by omega));simp at a0 a1;have hcx:cntC (cntE d) x=(x.1.map (cntE d)).sum+(x.2.map (cntE d)).sum:=rfl;have hn12:=List.nodup_append.1 HFS.out.2.2.2;have HP:=hid hp;have HBD:=hid hbd;have HOW:=hid ho;have HCS:=hid hcs;have HN12:=hid hn12.2.2;have HSUM:Hid (k+((es.take (i+1)).map (cntC (cntE d))).sum=kk+(x.1.map (cntE d)).sum+(x.2.map (cntE d)).sum):=(by show _=_;omega);have hk1':kk+(x.1.map (cntE d)).sum<=1099511627776:=(by omega);have hk2':kk+(x.1.map (cntE d)).sum+(x.2.map (cntE d)).sum<=1099511627776:=(by omega);have hgl:g<wr.heap.size:=owns_lt ho rfl;have HK2:=hid hk2';have HK1:=hid hk1';have hk11:1<=kk:=(by omega);clear hp hbd ho hcs hcs4 hsum hle hkk hkb hcx hk1' hk2';go_wp2_with fail;refine (ihE.at x.1 f1 kk _ rfl HP.out hn12.1 hk11 HK1.out).mono ?_;rintro e w1 ⟨rfl,r1,off1⟩;have a1':w1.cell? ⟨g,i * 2+1,none⟩=some (.slice pb x.2.length cb):=(sqK (off1.block g hgl (λhm=>HFS.out.2.2.1 (by simp [hm])))).trans a1;have k2:KeepOn f2 wr w1:=off1.keep (λa ha=>⟨HBD.out.lt (λ_ _ _ h=>h.lt) a ha,λhm=>HN12.out a hm a ha rfl⟩);have HBD1:=hid (HBD.out.keep k2 (λcs x f _ hs h=>h.keep (k2.sub hs)));have R1:=hid r1;have OF1:=hid off1;clear r1 off1 k2 a0 a1;generalize hk2g:kk+(x.1.map (cntE d)).sum=k2 at *;have HK2G:=hid hk2g;have hk21:1<=k2:=(by omega);clear hk2g;go_wp2_with fail;refine (ihE.at x.2 f2 k2 _ rfl HBD1.out hn12.2.1 hk21 HK2.out).mono ?_;rintro e w2 ⟨rfl,r2,off2⟩;have hoff:Off (f1 ++ f2) wr w2:=(OF1.out.sub (λa ha=>by simp [ha])).trans (off2.sub (λa ha=>by simp [ha]));have hown:w2.ownsRow 0 44 2 (.slice (some ⟨g,0,none⟩) n cap) n cells:=owns_block HOW.out rfl (hoff.block g hgl HFS.out.2.2.1);have k1:KeepOn f1 w1 w2:=off2.keep (λa ha=>⟨R1.out.lt (λ_ _ _ h=>h.lt) a ha,λhm=>HN12.out a ha a hm rfl⟩)
    have hset:=ORows.set (R:=OCls wr d) (R':=OCls w2 d) (x':=markC (markE d) (cntE d) kk x) (i:=i) (f:=f1 ++ f2) HNE.out (by rw [HMX.out];exact hown) (by rw [HMX.out]) (by rw [HMX.out];exact hl) HAT.out hf
     (λm hm=>rfl) [.slice pp x.1.length cp,.slice pb x.2.length cb] rfl (λj hj=>HCS.out j hj)
     ⟨_,_,f1,f2,rfl,rfl,R1.out.keep k1 (λcs x f _ hs h=>h.keep (k1.sub hs)),by rw [<-HK2G.out] at r2;exact r2⟩
     (λj y f' cs hj hf' h=>OCls.keep h (λa ha=>by
      have h3:=HNP.out j i f' _ hj hf' hf a ha
      exact hoff.block a (OCl.lt' h (λ_ _ _ h=>h.lt) a ha) h3))
    rw [mix_succ (by rw [HL.out,HN.out]) HMI.out,<-HFP.out] at hset;have HSET:=hid hset;have HF2:=hid (HF.out.trans (hoff.sub HFS.out.1));clear hset hown r2 off2 hoff k1;go_wp2_with fail;exact ⟨⟨i+1,k2+(x.2.map (cntE d)).sum,by omega,by go_num,rfl,HSUM.out.symm,HSET,HF2⟩,by simp [intOf];omega⟩
  . obtain rfl:i=n:=by omega
    have HE:Hid (kk=k+(es.map (cntC (cntE d))).sum):=by
     have:=HK.out;rw [sqT HN.out] at this;exact this
    have HR2:Hid (ORows wr 44 2 (OCls wr d) (.slice p i cap) (markL (markC (markE d) (cntE d)) (cntC (cntE d)) k es) fp):=by
     have:=HR.out;rw [mix_all (by rw [HL.out,HN.out]) (by rw [HN.out];exact Nat.le_refl _)] at this;exact this
    clear HR HO;go_wp2;go_ret;exact ⟨by rw [HE.out];rfl,HR2.out,HF.out⟩
theorem MarkES_of {d:Nat} (ihE:∀ d',d=d'+1->MarkES d') (ihC:∀ d',d=d'+1->MarkCS d'):MarkES d:=by
 intro w v es fp k h hnd hk1 hkb;obtain ⟨p,cap,rfl,hcl,hcm⟩:=h.shape;have hnb:=sqM hcl hcm;have HL:Hid ((markL (markE d) (cntE d) k es).length=es.length):=markL_length _ _ _ _;have HO:=hid h;have HND:Hid fp.Nodup:=hnd;have HKB:=hid hkb;generalize hn:es.length=n at *;have HN:=hid hn;clear h hnd hn hkb;go_enter func99,ntmps99;go_wp2
 go_loopw [1,5] (λkv iv wr=>∃ i kk:Nat,i<=n/\iv=.int .i64 i/\kv=.int .i64 kk/\Hid (kk=k+((es.take i).map (cntE d)).sum)/\Hid (ORows wr 74 6 (OEx wr d) (.slice p n cap) (mix i (markL (markE d) (cntE d) k es) es) fp)/\Hid (Off fp w wr)) (λ_ iv _=>n - (intOf iv).toNat)
 case atStart=>exact ⟨0,k,Nat.zero_le _,rfl,rfl,(by show k=_;simp),(by show ORows _ _ _ _ _ _ _;rw [mix_zero];exact HO.out),Off.refl _ _⟩
 case round =>
  obtain ⟨i,kk,hi,rfl,rfl,HK,HR,HF⟩:=hrel;by_cases hlt:i<n
  . obtain ⟨x,hxi⟩:=sqA (l:=es) (k:=i) HN.out hlt
    have hml:(mix i (markL (markE d) (cntE d) k es) es).length=n:=(by rw [mix_length (by rw [HL.out,HN.out]),HN.out]);have hmx:(mix i (markL (markE d) (cntE d) k es) es)[i]?=some x:=(by rw [mix_at (by rw [HL.out,HN.out]) (by rw [HN.out];exact hlt)];exact hxi);have HMX:=hid hml
    rcases HR.out with hnil | ⟨hne,cells,g,cap',fps,ho,hv,hl,hfp,hat⟩
    . rw [hnil.1] at hml;simp at hml;omega
    rw [hml] at ho hv hl;obtain ⟨f,hf⟩:∃ f,fps[i]?=some f:=⟨fps[i]'(by rw [hl];exact hlt),List.getElem?_eq_getElem _⟩;obtain ⟨cs,hcs4,hcs,hx⟩:=hat i x f hmx hf
    cases hv
    have hlc:cells.length=n * 6:=ho.1;have hnp:=nodup_parts (hfp ▸ HND.out);have hsum:((es.take (i+1)).map (cntE d)).sum=((es.take i).map (cntE d)).sum+cntE d x:=sum_take_succ _ es i x hxi;have hle:((es.take (i+1)).map (cntE d)).sum<=(es.map (cntE d)).sum:=sum_take_le _ es (i+1);have hkk:=HK.out;have hkb:=HKB.out;have hg0:g ∈ fp:=(by rw [hfp];simp)
    have hfs:∀ a ∈ f,a ∈ fp:=λa ha=>by rw [hfp];exact List.mem_cons_of_mem _ (List.mem_flatten.2 ⟨f,List.mem_of_getElem? hf,ha⟩)
    have hgf:g ∉ f:=(hnp.1 f (List.mem_of_getElem? hf)).1;have hfn:f.Nodup:=(hnp.1 f (List.mem_of_getElem? hf)).2
    have HMI:Hid ((markL (markE d) (cntE d) k es)[i]?=some ((markE d) kk x)):=by
     show _=_;rw [markL_at _ _ _ _ _ _ hxi,<-HK.out]
    have HAT:=hid hat;have HNP:=hid hnp.2;have HNG:=hid hnp.1;have HFP:=hid hfp;have HNE:=hid hne;have HFS:Hid ((∀ a ∈ f,a ∈ fp)/\g ∈ fp/\g ∉ f/\f.Nodup):=⟨hfs,hg0,hgf,hfn⟩;have hki:(i:Int)<(n:Int):=(by omega);have hi0:=sqI i;clear hat hnp hfp hne hfs hg0 hgf hfn hml hmx HKB HO
    cases d with
    | zero=>exact hx.elim
    | succ d' =>
    obtain ⟨kv,cv,f1,f2,rfl,rfl,_,_,_,_,hkids,hcl'⟩:=hx;obtain ⟨pk,ck,hkv,_⟩:=hkids.shape;subst hkv;obtain ⟨pc,cc,hcv,_⟩:=hcl'.shape;subst hcv;have a0:=(ho.cellAt (i * 6) (by omega)).trans (hcs 0 (by omega));have a1:=(ho.cellAt (i * 6+1) (by omega)).trans (hcs 1 (by omega));simp at a0 a1;have z0:=ho.frozenAt (i * 6);have z1:=ho.frozenAt (i * 6+1);have s0:=ho.stored (i * 6) (.int .i64 kk);have s1:=s0.1.stored (i * 6+1) (.int .i64 ((kk:Int)+1));have hcx:cntE (d'+1) x=4+(x.kids.map (cntE d')).sum+(x.clauses.map (cntC (cntE d'))).sum:=rfl;have hn12:=List.nodup_append.1 HFS.out.2.2.2;have HKD:=hid hkids;have HCL:=hid hcl';have HS1:=hid s1.1;have HG1:=hid (grownBy_transR s0.2 s1.2);have HCS:=hid hcs;have HN12:=hid hn12.2.2;have HSUM:Hid (k+((es.take (i+1)).map (cntE (d'+1))).sum=kk+4+(x.kids.map (cntE d')).sum+(x.clauses.map (cntC (cntE d'))).sum):=(by show _=_;omega);have HK1:Hid (kk+4+(x.kids.map (cntE d')).sum<=1099511627776):=(by show _<=_;omega);have HK2:Hid (kk+4+(x.kids.map (cntE d')).sum+(x.clauses.map (cntC (cntE d'))).sum<=1099511627776):=(by show _<=_;omega);have hkk4:kk+4<=1099511627776:=(by omega);have hgl:g<wr.heap.size:=owns_lt ho rfl;have hk11:1<=kk:=(by omega);clear s0 s1 hkids hcl' ho hcs hcs4 hsum hle hkk hkb hcx;go_wp2_with fail;refine (markText_at (kk+2) _ (by omega) (by omega) (by omega)).mono ?_;rintro e w1 ⟨rfl,hb⟩;have o2:=HS1.out.kept (grownBy_belowR (r:=none) hb) (Or.inr (by simp [Value.ownBlock]))
    have e2:w1.cell? ⟨g,i * 6+2,none⟩=some (.string x.text):=by
     rw [o2.cellAt (i * 6+2) (by omega),List.getElem?_set_ne (by omega),List.getElem?_set_ne (by omega)];exact HCS.out 2 (by omega)
    have z2:=o2.frozenAt (i * 6+2);have s3:=o2.stored (i * 6+2) (.string (mtext (kk+2)));have HS3:=hid s3.1;have HG3:=hid s3.2;have HB1:=hid hb;clear o2 s3 hb a0 a1 z0 z1;go_wp2_with fail;refine (markText_at (kk+3) _ (by omega) (by omega) (by omega)).mono ?_;rintro e w2 ⟨rfl,hb⟩;have o3:=HS3.out.kept (grownBy_belowR (r:=none) hb) (Or.inr (by simp [Value.ownBlock]))
    have e3:w2.cell? ⟨g,i * 6+3,none⟩=some (.string x.mod):=by
     rw [o3.cellAt (i * 6+3) (by omega),List.getElem?_set_ne (by omega),List.getElem?_set_ne (by omega),List.getElem?_set_ne (by omega)];exact HCS.out 3 (by omega)
    have z3:=o3.frozenAt (i * 6+3);have s4:=o3.stored (i * 6+3) (.string (mtext (kk+3)))
    have e4:(w2.setCell ⟨g,i * 6+3,none⟩ (.string (mtext (kk+3)))).cell? ⟨g,i * 6+4,none⟩=some (.slice pk x.kids.length ck):=by
     rw [s4.1.cellAt (i * 6+4) (by omega),List.getElem?_set_ne (by omega),List.getElem?_set_ne (by omega),List.getElem?_set_ne (by omega),List.getElem?_set_ne (by omega)];exact HCS.out 4 (by omega)
    have HS4:=hid s4.1;have HG4:=hid s4.2;have HB2:=hid hb;clear o3 s4 hb e2 z2;go_wp2_with fail;have hoff:Off [g] wr (w2.setCell ⟨g,i * 6+3,none⟩ (.string (mtext (kk+3)))):=(Off.of_grown HG1.out (by simp)).trans ((Off.of_below HB1.out).trans ((Off.of_grown HG3.out (by simp)).trans ((Off.of_below HB2.out).trans (Off.of_grown HG4.out (by simp)))));have hkeep:∀ f',g ∉ f'->(∀ a ∈ f',a<wr.heap.size)->KeepOn f' wr (w2.setCell ⟨g,i * 6+3,none⟩ (.string (mtext (kk+3)))):=λf' h1 h2=>hoff.keep (λa ha=>⟨h2 a ha,λhm=>h1 (by rw [List.mem_singleton] at hm;exact hm ▸ ha)⟩);have hk1:=hkeep f1 (λh=>HFS.out.2.2.1 (by simp [h])) (HKD.out.lt (λ_ _ _ h=>h.lt));have hk2:=hkeep f2 (λh=>HFS.out.2.2.1 (by simp [h])) (HCL.out.lt (λ_ _ _ h=>OCl.lt' h (λ_ _ _ h=>h.lt)));refine ((ihE d' rfl).at x.kids f1 (kk+4) _ (by omega) (HKD.out.keep hk1 (λcs x f' _ hs h=>h.keep (hk1.sub hs))) hn12.1 (by omega) HK1.out).mono ?_;rintro e w3 ⟨rfl,r3,off3⟩;have HOFF:=hid hoff;have HKP:=hid hkeep;have hgl3:g<(w2.setCell ⟨g,i * 6+3,none⟩ (.string (mtext (kk+3)))).heap.size:=owns_lt HS4.out rfl;have hgf1:g ∉ f1:=λh=>HFS.out.2.2.1 (by simp [h]);have hown3:w3.ownsRow 0 74 6 (.slice (some ⟨g,0,none⟩) n cap) n ((((cells.set (i * 6) (.int .i64 kk)).set (i * 6+1) (.int .i64 ((kk:Int)+1))).set (i * 6+2) (.string (mtext (kk+2)))).set (i * 6+3) (.string (mtext (kk+3)))):=owns_block HS4.out rfl (off3.block g hgl3 hgf1)
    have e5:w3.cell? ⟨g,i * 6+5,none⟩=some (.slice pc x.clauses.length cc):=by
     rw [hown3.cellAt (i * 6+5) (by omega),List.getElem?_set_ne (by omega),List.getElem?_set_ne (by omega),List.getElem?_set_ne (by omega),List.getElem?_set_ne (by omega)];exact HCS.out 5 (by omega)
    have k23:KeepOn f2 (w2.setCell ⟨g,i * 6+3,none⟩ (.string (mtext (kk+3)))) w3:=off3.keep (λa ha=>⟨Nat.lt_of_lt_of_le (HCL.out.lt (λ_ _ _ h=>OCl.lt' h (λ_ _ _ h=>h.lt)) a ha) hoff.size,λhm=>HN12.out a hm a ha rfl⟩);have HCL3:Hid (ORows w3 44 2 (OCls w3 d') (.slice pc x.clauses.length cc) x.clauses f2):=(HCL.out.keep hk2 (λcs x f' _ hs h=>OCls.keep h (hk2.sub hs))).keep k23 (λcs x f' _ hs h=>OCls.keep h (k23.sub hs));have R3:=hid r3;have OF3:=hid off3;have HOW3:=hid hown3;clear r3 off3 k23 hown3 hk1 hk2 hoff hkeep e3 e4 z3 hgl3;generalize hk2g:kk+4+(x.kids.map (cntE d')).sum=k2 at *;have HK2G:=hid hk2g;have hk21:1<=k2:=(by omega);clear hk2g;go_wp2_with fail;refine ((ihC d' rfl).at x.clauses f2 k2 _ rfl HCL3.out hn12.2.1 hk21 HK2.out).mono ?_;rintro e w4 ⟨rfl,r4,off4⟩;have hgf2:g ∉ f2:=λh=>HFS.out.2.2.1 (by simp [h]);have hown:w4.ownsRow 0 74 6 (.slice (some ⟨g,0,none⟩) n cap) n ((((cells.set (i * 6) (.int .i64 kk)).set (i * 6+1) (.int .i64 ((kk:Int)+1))).set (i * 6+2) (.string (mtext (kk+2)))).set (i * 6+3) (.string (mtext (kk+3)))):=owns_block HOW3.out rfl (off4.block g (owns_lt HOW3.out rfl) hgf2);have k34:KeepOn f1 w3 w4:=off4.keep (λa ha=>⟨R3.out.lt (λ_ _ _ h=>h.lt) a ha,λhm=>HN12.out a ha a hm rfl⟩);have hoff2:Off (f1 ++ f2) (w2.setCell ⟨g,i * 6+3,none⟩ (.string (mtext (kk+3)))) w4:=(OF3.out.sub (λa ha=>by simp [ha])).trans (off4.sub (λa ha=>by simp [ha]))
    have hset:=ORows.set (R:=OEx wr (d'+1)) (R':=OEx w4 (d'+1)) (x':=markE (d'+1) kk x) (i:=i) (f:=f1 ++ f2) HNE.out (by rw [HMX.out];exact hown) (by rw [HMX.out]) (by rw [HMX.out];exact hl) HAT.out hf
     (λm hm=>by rw [List.getElem?_set_ne (by omega),List.getElem?_set_ne (by omega),List.getElem?_set_ne (by omega),List.getElem?_set_ne (by omega)])
     [.int .i64 kk,.int .i64 ((kk:Int)+1),.string (mtext (kk+2)),.string (mtext (kk+3)),.slice pk x.kids.length ck,.slice pc x.clauses.length cc] rfl
     (λj hj=>by
      match j,hj with
      | 0,_=>rw [List.getElem?_set_ne (by omega),List.getElem?_set_ne (by omega),List.getElem?_set_ne (by omega)];exact List.getElem?_set_self (by omega)
      | 1,_=>rw [List.getElem?_set_ne (by omega),List.getElem?_set_ne (by omega),List.getElem?_set_self (by rw [List.length_set];omega)];rfl
      | 2,_=>rw [List.getElem?_set_ne (by omega),List.getElem?_set_self (by rw [List.length_set,List.length_set];omega)];rfl
      | 3,_=>rw [List.getElem?_set_self (by rw [List.length_set,List.length_set,List.length_set];omega)];rfl
      | 4,_=>rw [List.getElem?_set_ne (by omega),List.getElem?_set_ne (by omega),List.getElem?_set_ne (by omega),List.getElem?_set_ne (by omega)];exact HCS.out 4 (by omega)
      | 5,_=>rw [List.getElem?_set_ne (by omega),List.getElem?_set_ne (by omega),List.getElem?_set_ne (by omega),List.getElem?_set_ne (by omega)];exact HCS.out 5 (by omega))
     ⟨_,_,f1,f2,rfl,rfl,nat_ok (by omega),nat_ok (n:=kk+1) (by omega),mtext_ok (by omega),mtext_ok (by omega),R3.out.keep k34 (λcs x f _ hs h=>h.keep (k34.sub hs)),by rw [<-HK2G.out] at r4;exact r4⟩
     (λj y f' cs hj hf' h=>h.keep (λa ha=>by
      have h1:=(HNG.out f' (List.mem_of_getElem? hf')).1;have h2:=h.lt a ha;have h3:=HNP.out j i f' _ hj hf' hf a ha
      exact (hoff2.block a (Nat.lt_of_lt_of_le h2 HOFF.out.size) h3).trans (HKP.out f' h1 h.lt a ha)))
    rw [mix_succ (by rw [HL.out,HN.out]) HMI.out,<-HFP.out] at hset;have HSET:=hid hset;have HF2:=hid (HF.out.trans ((HOFF.out.sub (λa ha=>by rw [List.mem_singleton] at ha;exact ha ▸ HFS.out.2.1)).trans (hoff2.sub HFS.out.1)));clear hset hown r4 off4 hoff2 k34;go_wp2_with fail;exact ⟨⟨i+1,k2+(x.clauses.map (cntC (cntE d'))).sum,by omega,by go_num,rfl,HSUM.out.symm,HSET,HF2⟩,by simp [intOf];omega⟩
  . obtain rfl:i=n:=by omega
    have HE:Hid (kk=k+(es.map (cntE d)).sum):=by
     have:=HK.out;rw [sqT HN.out] at this;exact this
    have HR2:Hid (ORows wr 74 6 (OEx wr d) (.slice p i cap) (markL (markE d) (cntE d) k es) fp):=by
     have:=HR.out;rw [mix_all (by rw [HL.out,HN.out]) (by rw [HN.out];exact Nat.le_refl _)] at this;exact this
    clear HR HO;go_wp2;go_ret;exact ⟨by rw [HE.out];rfl,HR2.out,HF.out⟩
theorem markES_all:∀ d,MarkES d
 | 0=>MarkES_of (λd' h=>by omega) (λd' h=>by omega)
 | d+1=>MarkES_of (λd' h=>by (obtain rfl:d=d':=by omega);exact markES_all d) (λd' h=>by (obtain rfl:d=d':=by omega);exact MarkCS_of (markES_all d))
theorem markCS_all (d:Nat):MarkCS d:=MarkCS_of (markES_all d)
def cntR (_:Rf):Nat:=2
def markR (k:Nat) (_:Rf):Rf:=⟨mtext k,((k:Int)+1)⟩
def MarkRS (d:Nat):Prop :=
 ∀ (w:World) (v:Value) (es:List Rf) (fp:List Nat) (k:Nat),ORows w 110 2 (ORf w d) v es fp->fp.Nodup->1<=k->k+(es.map cntR).sum<=1099511627776 ->
  Calls prog 33 #[v,.int .i64 k] w λe w'=>e=.returned (.int .i64 ((k+(es.map cntR).sum:Nat):Int))/\ORows w' 110 2 (ORf w' d) v (markL markR cntR k es) fp/\Off fp w w'
theorem MarkRS_of {d:Nat}  : MarkRS d:=by
 intro w v es fp k h hnd hk1 hkb;obtain ⟨p,cap,rfl,hcl,hcm⟩:=h.shape;have hnb:=sqM hcl hcm;have HL:Hid ((markL (markR) (cntR) k es).length=es.length):=markL_length _ _ _ _;have HO:=hid h;have HND:Hid fp.Nodup:=hnd;have HKB:=hid hkb;generalize hn:es.length=n at *;have HN:=hid hn;clear h hnd hn hkb;go_enter func33,ntmps33;go_wp2
 go_loopw [1,5] (λkv iv wr=>∃ i kk:Nat,i<=n/\iv=.int .i64 i/\kv=.int .i64 kk/\Hid (kk=k+((es.take i).map (cntR)).sum)/\Hid (ORows wr 110 2 (ORf wr d) (.slice p n cap) (mix i (markL (markR) (cntR) k es) es) fp)/\Hid (Off fp w wr)) (λ_ iv _=>n - (intOf iv).toNat)
 case atStart=>exact ⟨0,k,Nat.zero_le _,rfl,rfl,(by show k=_;simp),(by show ORows _ _ _ _ _ _ _;rw [mix_zero];exact HO.out),Off.refl _ _⟩
 case round =>
  obtain ⟨i,kk,hi,rfl,rfl,HK,HR,HF⟩:=hrel;by_cases hlt:i<n
  . obtain ⟨x,hxi⟩:=sqA (l:=es) (k:=i) HN.out hlt
    have hml:(mix i (markL (markR) (cntR) k es) es).length=n:=(by rw [mix_length (by rw [HL.out,HN.out]),HN.out]);have hmx:(mix i (markL (markR) (cntR) k es) es)[i]?=some x:=(by rw [mix_at (by rw [HL.out,HN.out]) (by rw [HN.out];exact hlt)];exact hxi);have HMX:=hid hml
    rcases HR.out with hnil | ⟨hne,cells,g,cap',fps,ho,hv,hl,hfp,hat⟩
    . rw [hnil.1] at hml;simp at hml;omega
    rw [hml] at ho hv hl;obtain ⟨f,hf⟩:∃ f,fps[i]?=some f:=⟨fps[i]'(by rw [hl];exact hlt),List.getElem?_eq_getElem _⟩;obtain ⟨cs,hcs4,hcs,hx⟩:=hat i x f hmx hf
    cases hv
    have hlc:cells.length=n * 2:=ho.1;have hnp:=nodup_parts (hfp ▸ HND.out);have hsum:((es.take (i+1)).map (cntR)).sum=((es.take i).map (cntR)).sum+cntR x:=sum_take_succ _ es i x hxi;have hle:((es.take (i+1)).map (cntR)).sum<=(es.map (cntR)).sum:=sum_take_le _ es (i+1);have hkk:=HK.out;have hkb:=HKB.out;have hg0:g ∈ fp:=(by rw [hfp];simp)
    have hfs:∀ a ∈ f,a ∈ fp:=λa ha=>by rw [hfp];exact List.mem_cons_of_mem _ (List.mem_flatten.2 ⟨f,List.mem_of_getElem? hf,ha⟩)
    have hgf:g ∉ f:=(hnp.1 f (List.mem_of_getElem? hf)).1;have hfn:f.Nodup:=(hnp.1 f (List.mem_of_getElem? hf)).2
    have HMI:Hid ((markL (markR) (cntR) k es)[i]?=some ((markR) kk x)):=by
     show _=_;rw [markL_at _ _ _ _ _ _ hxi,<-HK.out]
    have HAT:=hid hat;have HNP:=hid hnp.2;have HNG:=hid hnp.1;have HFP:=hid hfp;have HNE:=hid hne;have HFS:Hid ((∀ a ∈ f,a ∈ fp)/\g ∈ fp/\g ∉ f/\f.Nodup):=⟨hfs,hg0,hgf,hfn⟩;have hki:(i:Int)<(n:Int):=(by omega);have hi0:=sqI i;clear hat hnp hfp hne hfs hg0 hgf hfn hml hmx HKB HO;obtain ⟨⟨rfl,hrs,hri⟩,rfl⟩:=hx;have HCS:=hid hcs;have HOW:=hid ho;have hcx:cntR x=2:=rfl;have HSUM:Hid (k+((es.take (i+1)).map cntR).sum=kk+2):=(by show _=_;omega);have hkk2:kk+2<=1099511627776:=(by omega);have hgl:g<wr.heap.size:=owns_lt ho rfl;have hk11:1<=kk:=(by omega);clear ho hcs hcs4 hsum hle hkk hkb hcx;go_wp2_with fail;refine (markText_at kk _ rfl (by omega) (by omega)).mono ?_;rintro e w1 ⟨rfl,hb⟩;have o1:=HOW.out.kept (grownBy_belowR (r:=none) hb) (Or.inr (by simp [Value.ownBlock]))
    have e0:w1.cell? ⟨g,i * 2,none⟩=some (.string x.name):=by
     rw [o1.cellAt (i * 2) (by omega)];exact HCS.out 0 (by omega)
    have z0:=o1.frozenAt (i * 2);have s1:=o1.stored (i * 2) (.string (mtext kk))
    have e1:(w1.setCell ⟨g,i * 2,none⟩ (.string (mtext kk))).cell? ⟨g,i * 2+1,none⟩=some (.int .i64 x.arity):=by
     rw [s1.1.cellAt (i * 2+1) (by omega),List.getElem?_set_ne (by omega)];exact HCS.out 1 (by omega)
    have z1:=s1.1.frozenAt (i * 2+1);have s2:=s1.1.stored (i * 2+1) (.int .i64 ((kk:Int)+1));have hoff:Off [g] wr ((w1.setCell ⟨g,i * 2,none⟩ (.string (mtext kk))).setCell ⟨g,i * 2+1,none⟩ (.int .i64 ((kk:Int)+1))):=(Off.of_below hb).trans ((Off.of_grown s1.2 (by simp)).trans (Off.of_grown s2.2 (by simp)))
    have hset:=ORows.set (R:=ORf wr d) (R':=ORf ((w1.setCell ⟨g,i * 2,none⟩ (.string (mtext kk))).setCell ⟨g,i * 2+1,none⟩ (.int .i64 ((kk:Int)+1))) d) (x':=markR kk x) (i:=i) (f:=[]) HNE.out (by rw [HMX.out];exact s2.1) (by rw [HMX.out]) (by rw [HMX.out];exact hl) HAT.out hf
     (λm hm=>by rw [List.getElem?_set_ne (by omega),List.getElem?_set_ne (by omega)])
     [.string (mtext kk),.int .i64 ((kk:Int)+1)] rfl
     (λj hj=>by
      match j,hj with
      | 0,_=>rw [List.getElem?_set_ne (by omega)];exact List.getElem?_set_self (by omega)
      | 1,_=>rw [List.getElem?_set_self (by rw [List.length_set];omega)];rfl)
     ⟨⟨rfl,mtext_ok (by omega),nat_ok (n:=kk+1) (by omega)⟩,rfl⟩
     (λj y f' cs hj hf' h=>h)
    rw [mix_succ (by rw [HL.out,HN.out]) HMI.out,<-HFP.out] at hset;have HSET:=hid hset;have HF2:=hid (HF.out.trans (hoff.sub (λa ha=>by rw [List.mem_singleton] at ha;exact ha ▸ HFS.out.2.1)));clear hset s1 s2 o1 hoff hb;go_wp2_with fail;exact ⟨⟨i+1,kk+2,by omega,by go_num,by go_num,HSUM.out.symm,HSET,HF2⟩,by simp [intOf];omega⟩
  . obtain rfl:i=n:=by omega
    have HE:Hid (kk=k+(es.map (cntR)).sum):=by
     have:=HK.out;rw [sqT HN.out] at this;exact this
    have HR2:Hid (ORows wr 110 2 (ORf wr d) (.slice p i cap) (markL (markR) (cntR) k es) fp):=by
     have:=HR.out;rw [mix_all (by rw [HL.out,HN.out]) (by rw [HN.out];exact Nat.le_refl _)] at this;exact this
    clear HR HO;go_wp2;go_ret;exact ⟨by rw [HE.out];rfl,HR2.out,HF.out⟩
theorem markRS_all (d:Nat):MarkRS d:=MarkRS_of
theorem MarkRS.at {d:Nat} (h:MarkRS d) {w:World} {v:Value} (es:List Rf) (fp:List Nat) (k:Nat) (z:Int) (hz:z=k) (ho:ORows w 110 2 (ORf w d) v es fp) (hn:fp.Nodup) (h1:1<=k) (hb:k+(es.map cntR).sum<=1099511627776) :
 Calls prog 33 #[v,.int .i64 z] w λe w'=>e=.returned (.int .i64 ((k+(es.map cntR).sum:Nat):Int))/\ORows w' 110 2 (ORf w' d) v (markL markR cntR k es) fp/\Off fp w w':=by
 subst hz;exact h w v es fp k ho hn h1 hb
def cntF (d:Nat) (f:Fn'):Nat:=2+(f.clauses.map (cntC (cntE d))).sum
def markF (d:Nat) (k:Nat) (f:Fn'):Fn':=⟨mtext k,((k:Int)+1),markL (markC (markE d) (cntE d)) (cntC (cntE d)) (k+2) f.clauses⟩
def MarkFS (d:Nat):Prop :=
 ∀ (w:World) (v:Value) (es:List Fn') (fp:List Nat) (k:Nat),ORows w 57 3 (OFn w d) v es fp->fp.Nodup->1<=k->k+(es.map (cntF d)).sum<=1099511627776 ->
  Calls prog 34 #[v,.int .i64 k] w λe w'=>e=.returned (.int .i64 ((k+(es.map (cntF d)).sum:Nat):Int))/\ORows w' 57 3 (OFn w' d) v (markL (markF d) (cntF d) k es) fp/\Off fp w w'
theorem MarkFS.at {d:Nat} (h:MarkFS d) {w:World} {v:Value} (es:List Fn') (fp:List Nat) (k:Nat) (z:Int) (hz:z=k) (ho:ORows w 57 3 (OFn w d) v es fp) (hn:fp.Nodup) (h1:1<=k) (hb:k+(es.map (cntF d)).sum<=1099511627776) :
 Calls prog 34 #[v,.int .i64 z] w λe w'=>e=.returned (.int .i64 ((k+(es.map (cntF d)).sum:Nat):Int))/\ORows w' 57 3 (OFn w' d) v (markL (markF d) (cntF d) k es) fp/\Off fp w w':=by
 subst hz;exact h w v es fp k ho hn h1 hb
theorem MarkFS_of {d:Nat} (ihC:MarkCS d):MarkFS d:=by
 intro w v es fp k h hnd hk1 hkb;obtain ⟨p,cap,rfl,hcl,hcm⟩:=h.shape;have hnb:=sqM hcl hcm;have HL:Hid ((markL (markF d) (cntF d) k es).length=es.length):=markL_length _ _ _ _;have HO:=hid h;have HND:Hid fp.Nodup:=hnd;have HKB:=hid hkb;generalize hn:es.length=n at *;have HN:=hid hn;clear h hnd hn hkb;go_enter func34,ntmps34;go_wp2
 go_loopw [1,5] (λkv iv wr=>∃ i kk:Nat,i<=n/\iv=.int .i64 i/\kv=.int .i64 kk/\Hid (kk=k+((es.take i).map (cntF d)).sum)/\Hid (ORows wr 57 3 (OFn wr d) (.slice p n cap) (mix i (markL (markF d) (cntF d) k es) es) fp)/\Hid (Off fp w wr)) (λ_ iv _=>n - (intOf iv).toNat)
 case atStart=>exact ⟨0,k,Nat.zero_le _,rfl,rfl,(by show k=_;simp),(by show ORows _ _ _ _ _ _ _;rw [mix_zero];exact HO.out),Off.refl _ _⟩
 case round =>
  obtain ⟨i,kk,hi,rfl,rfl,HK,HR,HF⟩:=hrel;by_cases hlt:i<n
  . obtain ⟨x,hxi⟩:=sqA (l:=es) (k:=i) HN.out hlt
    have hml:(mix i (markL (markF d) (cntF d) k es) es).length=n:=(by rw [mix_length (by rw [HL.out,HN.out]),HN.out]);have hmx:(mix i (markL (markF d) (cntF d) k es) es)[i]?=some x:=(by rw [mix_at (by rw [HL.out,HN.out]) (by rw [HN.out];exact hlt)];exact hxi);have HMX:=hid hml
    rcases HR.out with hnil | ⟨hne,cells,g,cap',fps,ho,hv,hl,hfp,hat⟩
    . rw [hnil.1] at hml;simp at hml;omega
    rw [hml] at ho hv hl;obtain ⟨f,hf⟩:∃ f,fps[i]?=some f:=⟨fps[i]'(by rw [hl];exact hlt),List.getElem?_eq_getElem _⟩;obtain ⟨cs,hcs4,hcs,hx⟩:=hat i x f hmx hf
    cases hv
    have hlc:cells.length=n * 3:=ho.1;have hnp:=nodup_parts (hfp ▸ HND.out);have hsum:((es.take (i+1)).map (cntF d)).sum=((es.take i).map (cntF d)).sum+cntF d x:=sum_take_succ _ es i x hxi;have hle:((es.take (i+1)).map (cntF d)).sum<=(es.map (cntF d)).sum:=sum_take_le _ es (i+1);have hkk:=HK.out;have hkb:=HKB.out;have hg0:g ∈ fp:=(by rw [hfp];simp)
    have hfs:∀ a ∈ f,a ∈ fp:=λa ha=>by rw [hfp];exact List.mem_cons_of_mem _ (List.mem_flatten.2 ⟨f,List.mem_of_getElem? hf,ha⟩)
    have hgf:g ∉ f:=(hnp.1 f (List.mem_of_getElem? hf)).1;have hfn:f.Nodup:=(hnp.1 f (List.mem_of_getElem? hf)).2
    have HMI:Hid ((markL (markF d) (cntF d) k es)[i]?=some ((markF d) kk x)):=by
     show _=_;rw [markL_at _ _ _ _ _ _ hxi,<-HK.out]
    have HAT:=hid hat;have HNP:=hid hnp.2;have HNG:=hid hnp.1;have HFP:=hid hfp;have HNE:=hid hne;have HFS:Hid ((∀ a ∈ f,a ∈ fp)/\g ∈ fp/\g ∉ f/\f.Nodup):=⟨hfs,hg0,hgf,hfn⟩;have hki:(i:Int)<(n:Int):=(by omega);have hi0:=sqI i;clear hat hnp hfp hne hfs hg0 hgf hfn hml hmx HKB HO;obtain ⟨cv,rfl,hrs,hri,hcls⟩:=hx;obtain ⟨pc,cc,hcv,_⟩:=hcls.shape;subst hcv;have HCS:=hid hcs;have HOW:=hid ho;have HCL:=hid hcls;have hcx:cntF d x=2+(x.clauses.map (cntC (cntE d))).sum:=rfl;have HSUM:Hid (k+((es.take (i+1)).map (cntF d)).sum=kk+2+(x.clauses.map (cntC (cntE d))).sum):=(by show _=_;omega);have HK2:Hid (kk+2+(x.clauses.map (cntC (cntE d))).sum<=1099511627776):=(by show _<=_;omega);have hkk2:kk+2<=1099511627776:=(by omega);have hgl:g<wr.heap.size:=owns_lt ho rfl;have hk11:1<=kk:=(by omega);clear ho hcs hcs4 hsum hle hkk hkb hcx hcls;go_wp2_with fail;refine (markText_at kk _ rfl (by omega) (by omega)).mono ?_;rintro e w1 ⟨rfl,hb⟩;have o1:=HOW.out.kept (grownBy_belowR (r:=none) hb) (Or.inr (by simp [Value.ownBlock]))
    have e0:w1.cell? ⟨g,i * 3,none⟩=some (.string x.name):=by
     rw [o1.cellAt (i * 3) (by omega)];exact HCS.out 0 (by omega)
    have z0:=o1.frozenAt (i * 3);have s1:=o1.stored (i * 3) (.string (mtext kk))
    have e1:(w1.setCell ⟨g,i * 3,none⟩ (.string (mtext kk))).cell? ⟨g,i * 3+1,none⟩=some (.int .i64 x.arity):=by
     rw [s1.1.cellAt (i * 3+1) (by omega),List.getElem?_set_ne (by omega)];exact HCS.out 1 (by omega)
    have z1:=s1.1.frozenAt (i * 3+1);have s2:=s1.1.stored (i * 3+1) (.int .i64 ((kk:Int)+1))
    have e2:((w1.setCell ⟨g,i * 3,none⟩ (.string (mtext kk))).setCell ⟨g,i * 3+1,none⟩ (.int .i64 ((kk:Int)+1))).cell? ⟨g,i * 3+2,none⟩=some (.slice pc x.clauses.length cc):=by
     rw [s2.1.cellAt (i * 3+2) (by omega),List.getElem?_set_ne (by omega),List.getElem?_set_ne (by omega)];exact HCS.out 2 (by omega)
    have hoff:Off [g] wr ((w1.setCell ⟨g,i * 3,none⟩ (.string (mtext kk))).setCell ⟨g,i * 3+1,none⟩ (.int .i64 ((kk:Int)+1))):=(Off.of_below hb).trans ((Off.of_grown s1.2 (by simp)).trans (Off.of_grown s2.2 (by simp)));have HOFF:=hid hoff;have HS2:=hid s2.1;have hkeep:∀ f',g ∉ f'->(∀ a ∈ f',a<wr.heap.size)->KeepOn f' wr ((w1.setCell ⟨g,i * 3,none⟩ (.string (mtext kk))).setCell ⟨g,i * 3+1,none⟩ (.int .i64 ((kk:Int)+1))):=λf' h1 h2=>hoff.keep (λa ha=>⟨h2 a ha,λhm=>h1 (by rw [List.mem_singleton] at hm;exact hm ▸ ha)⟩);have hk1:=hkeep f HFS.out.2.2.1 (HCL.out.lt (λ_ _ _ h=>OCl.lt' h (λ_ _ _ h=>h.lt)));have HCL2:=hid (HCL.out.keep hk1 (λcs x f' _ hs h=>OCls.keep h (hk1.sub hs)));have HKP:=hid hkeep;clear s1 s2 o1 hoff hb hk1 hkeep;go_wp2_with fail;refine (ihC.at x.clauses f (kk+2) _ (by omega) HCL2.out HFS.out.2.2.2 (by omega) HK2.out).mono ?_;rintro e w4 ⟨rfl,r4,off4⟩;have hown:w4.ownsRow 0 57 3 (.slice (some ⟨g,0,none⟩) n cap) n ((cells.set (i * 3) (.string (mtext kk))).set (i * 3+1) (.int .i64 ((kk:Int)+1))):=owns_block HS2.out rfl (off4.block g (owns_lt HS2.out rfl) HFS.out.2.2.1)
    have hset:=ORows.set (R:=OFn wr d) (R':=OFn w4 d) (x':=markF d kk x) (i:=i) (f:=f) HNE.out (by rw [HMX.out];exact hown) (by rw [HMX.out]) (by rw [HMX.out];exact hl) HAT.out hf
     (λm hm=>by rw [List.getElem?_set_ne (by omega),List.getElem?_set_ne (by omega)])
     [.string (mtext kk),.int .i64 ((kk:Int)+1),.slice pc x.clauses.length cc] rfl
     (λj hj=>by
      match j,hj with
      | 0,_=>rw [List.getElem?_set_ne (by omega)];exact List.getElem?_set_self (by omega)
      | 1,_=>rw [List.getElem?_set_self (by rw [List.length_set];omega)];rfl
      | 2,_=>rw [List.getElem?_set_ne (by omega),List.getElem?_set_ne (by omega)];exact HCS.out 2 (by omega))
     ⟨_,rfl,mtext_ok (by omega),nat_ok (n:=kk+1) (by omega),r4⟩
     (λj y f' cs hj hf' h=>h.keep (λa ha=>by
      have h1:=(HNG.out f' (List.mem_of_getElem? hf')).1;have h2:=h.lt a ha;have h3:=HNP.out j i f' _ hj hf' hf a ha
      exact (off4.block a (Nat.lt_of_lt_of_le h2 HOFF.out.size) h3).trans (HKP.out f' h1 h.lt a ha)))
    rw [mix_succ (by rw [HL.out,HN.out]) HMI.out,<-HFP.out] at hset;have HSET:=hid hset;have HF2:=hid (HF.out.trans ((HOFF.out.sub (λa ha=>by rw [List.mem_singleton] at ha;exact ha ▸ HFS.out.2.1)).trans (off4.sub HFS.out.1)));clear hset hown r4 off4;go_wp2_with fail;exact ⟨⟨i+1,kk+2+(x.clauses.map (cntC (cntE d))).sum,by omega,by go_num,rfl,HSUM.out.symm,HSET,HF2⟩,by simp [intOf];omega⟩
  . obtain rfl:i=n:=by omega
    have HE:Hid (kk=k+(es.map (cntF d)).sum):=by
     have:=HK.out;rw [sqT HN.out] at this;exact this
    have HR2:Hid (ORows wr 57 3 (OFn wr d) (.slice p i cap) (markL (markF d) (cntF d) k es) fp):=by
     have:=HR.out;rw [mix_all (by rw [HL.out,HN.out]) (by rw [HN.out];exact Nat.le_refl _)] at this;exact this
    clear HR HO;go_wp2;go_ret;exact ⟨by rw [HE.out];rfl,HR2.out,HF.out⟩
theorem markFS_all (d:Nat):MarkFS d:=MarkFS_of (markCS_all d)
def cntM (d:Nat) (m:Md):Nat:=(m.exports.map cntR).sum+(m.funs.map (cntF d)).sum
end
theorem cntE_le:∀ (d:Nat) (x:Ex),cntE d x<=4+5 * wtEx d x
 | 0,_=>by simp [cntE]
 | d+1,.mk k n t m ks cs=>by
  have hS:∀ (l:List Ex),(l.map (cntE d)).sum<=5 * wtS (wtEx d) l:=by
   intro l
   induction l with
   | nil=>simp
   | cons y ys ih =>
    have h1:=cntE_le d y;have h2:wtS (wtEx d) (y :: ys)=1+wtEx d y+wtS (wtEx d) ys:=(by simp [wtS];omega);simp only [List.map_cons,List.sum_cons];omega
  have hC:∀ (l:List Cl),(l.map (cntC (cntE d))).sum<=5 * wtS (wtCl (wtEx d)) l:=by
   intro l
   induction l with
   | nil=>simp
   | cons y ys ih =>
    have h1:=hS y.1;have h3:=hS y.2;have h4:wtCl (wtEx d) y=wtS (wtEx d) y.1+wtS (wtEx d) y.2:=rfl;have h5:cntC (cntE d) y=(y.1.map (cntE d)).sum+(y.2.map (cntE d)).sum:=rfl;have h2:wtS (wtCl (wtEx d)) (y :: ys)=1+wtCl (wtEx d) y+wtS (wtCl (wtEx d)) ys:=(by simp [wtS];omega);simp only [List.map_cons,List.sum_cons];omega
  have h1:=hS ks;have h2:=hC cs;have hw:wtEx (d+1) (.mk k n t m ks cs)=t.size+m.size+wtS (wtEx d) ks+wtS (wtCl (wtEx d)) cs:=rfl;have hc:cntE (d+1) (.mk k n t m ks cs)=4+(ks.map (cntE d)).sum+(cs.map (cntC (cntE d))).sum:=rfl;rw [hc,hw];omega
theorem cntCS_le (d:Nat):∀ (l:List Cl),(l.map (cntC (cntE d))).sum<=5 * wtS (wtCl (wtEx d)) l:=by
 have hS:∀ (l:List Ex),(l.map (cntE d)).sum<=5 * wtS (wtEx d) l:=by
  intro l
  induction l with
  | nil=>simp
  | cons y ys ih =>
   have h1:=cntE_le d y;have h2:wtS (wtEx d) (y :: ys)=1+wtEx d y+wtS (wtEx d) ys:=(by simp [wtS];omega);simp only [List.map_cons,List.sum_cons];omega
 intro l
 induction l with
 | nil=>simp
 | cons y ys ih =>
  have h1:=hS y.1;have h3:=hS y.2;have h4:wtCl (wtEx d) y=wtS (wtEx d) y.1+wtS (wtEx d) y.2:=rfl;have h5:cntC (cntE d) y=(y.1.map (cntE d)).sum+(y.2.map (cntE d)).sum:=rfl;have h2:wtS (wtCl (wtEx d)) (y :: ys)=1+wtCl (wtEx d) y+wtS (wtCl (wtEx d)) ys:=(by simp [wtS];omega);simp only [List.map_cons,List.sum_cons];omega
theorem cntRS_eq:∀ (l:List Rf),(l.map cntR).sum=2 * l.length
 | []=>rfl
 | x :: xs=>by
  have:=cntRS_eq xs;simp only [List.map_cons,List.sum_cons,List.length_cons];unfold cntR at *;omega
theorem cntM_le (d:Nat) (m:Md):cntM d m<=5 * wtMd d m:=by
 have h1:=cntRS_eq m.exports
 have h2:∀ (l:List Fn'),(l.map (cntF d)).sum<=5 * wtS (wtFn d) l:=by
  intro l
  induction l with
  | nil=>simp
  | cons y ys ih =>
   have h3:=cntCS_le d y.clauses;have h4:cntF d y=2+(y.clauses.map (cntC (cntE d))).sum:=rfl;have h5:wtFn d y=y.name.size+wtS (wtCl (wtEx d)) y.clauses:=rfl;have h6:wtS (wtFn d) (y :: ys)=1+wtFn d y+wtS (wtFn d) ys:=(by simp [wtS];omega);simp only [List.map_cons,List.sum_cons];omega
 have h3:=h2 m.funs;have h4:wtMd d m=m.name.size+wtS wtRf m.exports+wtS (wtFn d) m.funs:=rfl;have h5:wtS wtRf m.exports=m.exports.length+(m.exports.map wtRf).sum:=rfl;have h6:cntM d m=(m.exports.map cntR).sum+(m.funs.map (cntF d)).sum:=rfl;omega
section
open Go.Proofs.Tryz
def cntMS (d:Nat) (m:Md):Nat:=1+cntM d m
def markMS (d:Nat) (k:Nat) (m:Md):Md:=⟨mtext k,markL markR cntR (k+1) m.exports,markL (markF d) (cntF d) (k+1+(m.exports.map cntR).sum) m.funs⟩
def MarkMS (d:Nat):Prop :=
 ∀ (w:World) (v:Value) (es:List Md) (fp:List Nat) (k:Nat),ORows w 61 3 (OMd w d) v es fp->fp.Nodup->1<=k->k+(es.map (cntMS d)).sum<=1099511627776 ->
  Calls prog 11 #[v,.int .i64 k] w λe w'=>e=.returned (.int .i64 ((k+(es.map (cntMS d)).sum:Nat):Int))/\ORows w' 61 3 (OMd w' d) v (markL (markMS d) (cntMS d) k es) fp/\Off fp w w'
theorem MarkMS_of {d:Nat}  : MarkMS d:=by
 intro w v es fp k h hnd hk1 hkb;obtain ⟨p,cap,rfl,hcl,hcm⟩:=h.shape;have hnb:=sqM hcl hcm;have HL:Hid ((markL (markMS d) (cntMS d) k es).length=es.length):=markL_length _ _ _ _;have HO:=hid h;have HND:Hid fp.Nodup:=hnd;have HKB:=hid hkb;generalize hn:es.length=n at *;have HN:=hid hn;clear h hnd hn hkb;go_enter func11,ntmps11;go_wp2
 go_loopw [1,5] (λkv iv wr=>∃ i kk:Nat,i<=n/\iv=.int .i64 i/\kv=.int .i64 kk/\Hid (kk=k+((es.take i).map (cntMS d)).sum)/\Hid (ORows wr 61 3 (OMd wr d) (.slice p n cap) (mix i (markL (markMS d) (cntMS d) k es) es) fp)/\Hid (Off fp w wr)) (λ_ iv _=>n - (intOf iv).toNat)
 case atStart=>exact ⟨0,k,Nat.zero_le _,rfl,rfl,(by show k=_;simp),(by show ORows _ _ _ _ _ _ _;rw [mix_zero];exact HO.out),Off.refl _ _⟩
 case round =>
  obtain ⟨i,kk,hi,rfl,rfl,HK,HR,HF⟩:=hrel;by_cases hlt:i<n
  . obtain ⟨x,hxi⟩:=sqA (l:=es) (k:=i) HN.out hlt
    have hml:(mix i (markL (markMS d) (cntMS d) k es) es).length=n:=(by rw [mix_length (by rw [HL.out,HN.out]),HN.out]);have hmx:(mix i (markL (markMS d) (cntMS d) k es) es)[i]?=some x:=(by rw [mix_at (by rw [HL.out,HN.out]) (by rw [HN.out];exact hlt)];exact hxi);have HMX:=hid hml
    rcases HR.out with hnil | ⟨hne,cells,g,cap',fps,ho,hv,hl,hfp,hat⟩
    . rw [hnil.1] at hml;simp at hml;omega
    rw [hml] at ho hv hl;obtain ⟨f,hf⟩:∃ f,fps[i]?=some f:=⟨fps[i]'(by rw [hl];exact hlt),List.getElem?_eq_getElem _⟩;obtain ⟨cs,hcs4,hcs,hx⟩:=hat i x f hmx hf
    cases hv
    have hlc:cells.length=n * 3:=ho.1;have hnp:=nodup_parts (hfp ▸ HND.out);have hsum:((es.take (i+1)).map (cntMS d)).sum=((es.take i).map (cntMS d)).sum+cntMS d x:=sum_take_succ _ es i x hxi;have hle:((es.take (i+1)).map (cntMS d)).sum<=(es.map (cntMS d)).sum:=sum_take_le _ es (i+1);have hkk:=HK.out;have hkb:=HKB.out;have hg0:g ∈ fp:=(by rw [hfp];simp)
    have hfs:∀ a ∈ f,a ∈ fp:=λa ha=>by rw [hfp];exact List.mem_cons_of_mem _ (List.mem_flatten.2 ⟨f,List.mem_of_getElem? hf,ha⟩)
    have hgf:g ∉ f:=(hnp.1 f (List.mem_of_getElem? hf)).1;have hfn:f.Nodup:=(hnp.1 f (List.mem_of_getElem? hf)).2
    have HMI:Hid ((markL (markMS d) (cntMS d) k es)[i]?=some ((markMS d) kk x)):=by
     show _=_;rw [markL_at _ _ _ _ _ _ hxi,<-HK.out]
    have HAT:=hid hat;have HNP:=hid hnp.2;have HNG:=hid hnp.1;have HFP:=hid hfp;have HNE:=hid hne;have HFS:Hid ((∀ a ∈ f,a ∈ fp)/\g ∈ fp/\g ∉ f/\f.Nodup):=⟨hfs,hg0,hgf,hfn⟩;have hki:(i:Int)<(n:Int):=(by omega);have hi0:=sqI i;clear hat hnp hfp hne hfs hg0 hgf hfn hml hmx HKB HO;obtain ⟨ev,fv,f1,f2,rfl,hff,hms,hke,hcl⟩:=hx;obtain ⟨pe,ce,hev,_⟩:=hke.shape;subst hev;obtain ⟨pf,cf,hfv,_⟩:=hcl.shape;subst hfv;have HFF:=hid hff;have HCS:=hid hcs;have HOW:=hid ho;have HKE:=hid hke;have HCL:=hid hcl;have hcx:cntMS d x=1+((x.exports.map cntR).sum+(x.funs.map (cntF d)).sum):=rfl;have HSUM:Hid (k+((es.take (i+1)).map (cntMS d)).sum=kk+1+(x.exports.map cntR).sum+(x.funs.map (cntF d)).sum):=(by show _=_;omega);have hk2a:kk+1+(x.exports.map cntR).sum<=1099511627776:=(by omega);have HK2:Hid (kk+1+(x.exports.map cntR).sum+(x.funs.map (cntF d)).sum<=1099511627776):=(by show _<=_;omega)
    have HN12:Hid (f1.Nodup/\f2.Nodup/\∀ a ∈ f1,∀ b ∈ f2,a≠b):=by
     have:=HFS.out.2.2.2;rw [hff] at this;exact List.nodup_append.1 this
    have lt1:=hid (hke.lt (λ_ _ _ h=>h.lt));have lt2:=hid (hcl.lt (λ_ _ _ h=>h.lt));have hn1:Hid (g ∉ f1):=λh=>HFS.out.2.2.1 (by rw [hff];simp [h]);have hn2:Hid (g ∉ f2):=λh=>HFS.out.2.2.1 (by rw [hff];simp [h]);have hkk2:kk+1<=1099511627776:=(by omega);have hgl:g<wr.heap.size:=owns_lt ho rfl;have hk11:1<=kk:=(by omega);clear ho hcs hcs4 hsum hle hkk hkb hcx hke hcl hff;go_wp2_with fail;refine (markText_at kk _ rfl (by omega) (by omega)).mono ?_;rintro e w1 ⟨rfl,hb⟩;have o1:=HOW.out.kept (grownBy_belowR (r:=none) hb) (Or.inr (by simp [Value.ownBlock]))
    have e0:w1.cell? ⟨g,i * 3,none⟩=some (.string x.name):=by
     rw [o1.cellAt (i * 3) (by omega)];exact HCS.out 0 (by omega)
    have z0:=o1.frozenAt (i * 3);have s1:=o1.stored (i * 3) (.string (mtext kk))
    have e1:(w1.setCell ⟨g,i * 3,none⟩ (.string (mtext kk))).cell? ⟨g,i * 3+1,none⟩=some (.slice pe x.exports.length ce):=by
     rw [s1.1.cellAt (i * 3+1) (by omega),List.getElem?_set_ne (by omega)];exact HCS.out 1 (by omega)
    have hoff:Off [g] wr (w1.setCell ⟨g,i * 3,none⟩ (.string (mtext kk))):=(Off.of_below hb).trans (Off.of_grown s1.2 (by simp));have HOFF:=hid hoff;have HS1:=hid s1.1;have hkeep:∀ f',g ∉ f'->(∀ a ∈ f',a<wr.heap.size)->KeepOn f' wr (w1.setCell ⟨g,i * 3,none⟩ (.string (mtext kk))):=λf' h1 h2=>hoff.keep (λa ha=>⟨h2 a ha,λhm=>h1 (by rw [List.mem_singleton] at hm;exact hm ▸ ha)⟩);have hk1:=hkeep f1 hn1.out lt1.out;have hk2:=hkeep f2 hn2.out lt2.out;have HKE2:=hid (HKE.out.keep hk1 (λcs x f' _ hs h=>h));have HCL2:=hid (HCL.out.keep hk2 (λcs x f' _ hs h=>h.keep (hk2.sub hs)));have HKP:=hid hkeep;clear s1 o1 hoff hb hk1 hk2 hkeep;go_wp2_with fail;clear e0 z0 e1;refine ((markRS_all d).at x.exports f1 (kk+1) _ (by omega) HKE2.out HN12.out.1 (by omega) hk2a).mono ?_;rintro e w3 ⟨rfl,r3,off3⟩;have ho3:w3.ownsRow 0 61 3 (.slice (some ⟨g,0,none⟩) n cap) n (cells.set (i * 3) (.string (mtext kk))):=owns_block HS1.out rfl (off3.block g (owns_lt HS1.out rfl) hn1.out);have HO3:=hid ho3
    have e2:w3.cell? ⟨g,i * 3+2,none⟩=some (.slice pf x.funs.length cf):=by
     rw [ho3.cellAt (i * 3+2) (by omega),List.getElem?_set_ne (by omega)];exact HCS.out 2 (by omega)
    have k32:KeepOn f2 (w1.setCell ⟨g,i * 3,none⟩ (.string (mtext kk))) w3:=off3.keep (λa ha=>⟨HCL2.out.lt (λ_ _ _ h=>h.lt) a ha,λhm=>HN12.out.2.2 a hm a ha rfl⟩);have HCL3:=hid (HCL2.out.keep k32 (λcs x f' _ hs h=>h.keep (k32.sub hs)));have HR3:=hid r3;have HF3:=hid off3;have HMM:Hid (markMS d kk x=⟨mtext kk,markL markR cntR (kk+1) x.exports,markL (markF d) (cntF d) (kk+1+(x.exports.map cntR).sum) x.funs⟩):=rfl;generalize hk3:kk+1+(x.exports.map cntR).sum=k3 at *;have HK3:=hid hk3;have hk31:1<=k3:=(by omega);clear r3 off3 k32 ho3 hk3;go_wp2_with fail;clear e2;refine ((markFS_all d).at x.funs f2 k3 _ rfl HCL3.out HN12.out.2.1 hk31 HK2.out).mono ?_;rintro e w4 ⟨rfl,r4,off4⟩;have hown:w4.ownsRow 0 61 3 (.slice (some ⟨g,0,none⟩) n cap) n (cells.set (i * 3) (.string (mtext kk))):=owns_block HO3.out rfl (off4.block g (owns_lt HO3.out rfl) hn2.out);have k41:KeepOn f1 w3 w4:=off4.keep (λa ha=>⟨HR3.out.lt (λ_ _ _ h=>h.lt) a ha,λhm=>HN12.out.2.2 a ha a hm rfl⟩)
    have hset:=ORows.set (R:=OMd wr d) (R':=OMd w4 d) (x':=markMS d kk x) (i:=i) (f:=f) HNE.out (by rw [HMX.out];exact hown) (by rw [HMX.out]) (by rw [HMX.out];exact hl) HAT.out hf
     (λm hm=>by rw [List.getElem?_set_ne (by omega)])
     [.string (mtext kk),.slice pe x.exports.length ce,.slice pf x.funs.length cf] rfl
     (λj hj=>by
      match j,hj with
      | 0,_=>exact List.getElem?_set_self (by omega)
      | 1,_=>rw [List.getElem?_set_ne (by omega)];exact HCS.out 1 (by omega)
      | 2,_=>rw [List.getElem?_set_ne (by omega)];exact HCS.out 2 (by omega))
     (by
      rw [HMM.out]
      exact ⟨_,_,f1,f2,rfl,HFF.out,mtext_ok (by omega),HR3.out.keep k41 (λcs x f' _ hs h=>h),r4⟩)
     (λj y f' cs hj hf' h=>h.keep (λa ha=>by
      have h1:=(HNG.out f' (List.mem_of_getElem? hf')).1;have h2:=h.lt a ha;have h3:=HNP.out j i f' _ hj hf' hf a ha;have h31:a ∉ f1:=λhm=>h3 (by rw [HFF.out];simp [hm]);have h32:a ∉ f2:=λhm=>h3 (by rw [HFF.out];simp [hm]);have h5:=Nat.lt_of_lt_of_le h2 HOFF.out.size
      exact (off4.block a (Nat.lt_of_lt_of_le h5 HF3.out.size) h32).trans ((HF3.out.block a h5 h31).trans (HKP.out f' h1 h.lt a ha))))
    rw [mix_succ (by rw [HL.out,HN.out]) HMI.out,<-HFP.out] at hset;have HSET:=hid hset;have HF2:=hid (HF.out.trans ((HOFF.out.sub (λa ha=>by rw [List.mem_singleton] at ha;exact ha ▸ HFS.out.2.1)).trans ((HF3.out.sub (λa ha=>HFS.out.1 a (by rw [HFF.out];simp [ha]))).trans (off4.sub (λa ha=>HFS.out.1 a (by rw [HFF.out];simp [ha]))))));clear hset hown r4 off4 k41;go_wp2_with fail;exact ⟨⟨i+1,k3+(x.funs.map (cntF d)).sum,by omega,by go_num,rfl,HSUM.out.symm,HSET,HF2⟩,by simp [intOf];omega⟩
  . obtain rfl:i=n:=by omega
    have HE:Hid (kk=k+(es.map (cntMS d)).sum):=by
     have:=HK.out;rw [sqT HN.out] at this;exact this
    have HR2:Hid (ORows wr 61 3 (OMd wr d) (.slice p i cap) (markL (markMS d) (cntMS d) k es) fp):=by
     have:=HR.out;rw [mix_all (by rw [HL.out,HN.out]) (by rw [HN.out];exact Nat.le_refl _)] at this;exact this
    clear HR HO;go_wp2;go_ret;exact ⟨by rw [HE.out];rfl,HR2.out,HF.out⟩
theorem markMS_all (d:Nat):MarkMS d:=MarkMS_of
theorem cntMS_le (d:Nat):∀ (l:List Md),(l.map (cntMS d)).sum<=5 * wtS (wtMd d) l
 | []=>by simp
 | m :: l=>by
  have h1:=cntMS_le d l;have h2:=cntM_le d m;unfold wtS at *;simp only [List.map_cons,List.sum_cons,List.length_cons];unfold cntMS at *;omega
def HeldRS:Prop:=∀ (w:World) (v:Value) (es:List Rf) (k:Nat),Rows w All 2 HRf v (markL markR cntR k es)->1<=k->k+(es.map cntR).sum<=1099511627776 ->
 Calls prog 35 #[v,.int .i64 k] w λe w'=>e=.returned (.int .i64 ((k+(es.map cntR).sum:Nat):Int))/\Bz w w'
theorem heldRS_all:HeldRS:=by
 intro w v es k h hk1 hkb;obtain ⟨p,cap,rfl,hcl,hcm,hx⟩:=h;rw [markL_length] at *;have hnb:=sqM hcl hcm;have HX:=hid hx;have HKB:=hid hkb;generalize hn:es.length=n at *;have HN:=hid hn;clear hx hn hkb;go_enter func35,ntmps35;go_wp2
 go_loopw [1,5] (λkv iv wr=>∃ i kk:Nat,i<=n/\iv=.int .i64 i/\kv=.int .i64 kk/\Hid (kk=k+((es.take i).map cntR).sum)/\Hid (Bz w wr)) (λ_ iv _=>n - (intOf iv).toNat)
 case atStart=>exact ⟨0,k,Nat.zero_le _,rfl,rfl,(by show k=_;simp),Below.refl _ _⟩
 case round =>
  obtain ⟨i,kk,hi,rfl,rfl,HK,HB⟩:=hrel;by_cases hlt:i<n
  . obtain ⟨x,hxi⟩:=sqA (l:=es) (k:=i) HN.out hlt
    have hmi:(markL markR cntR k es)[i]?=some (markR kk x):=(by rw [markL_at _ _ _ _ _ _ hxi,<-HK.out]);obtain ⟨g,off,rfl,-,hgl,hat⟩:=HX.out (sqE hmi);obtain ⟨cs,hcsl,hcs,rfl,-,-⟩:=hat i _ hmi;obtain ⟨a0,a1⟩:=sqC2 hcs (by omega);rw [<-HB.out.cell (p:=⟨g,_,none⟩) hgl] at a0 a1;simp [markR] at a0 a1;have hsum:((es.take (i+1)).map cntR).sum=((es.take i).map cntR).sum+cntR x:=sum_take_succ _ es i x hxi;have hle:((es.take (i+1)).map cntR).sum<=(es.map cntR).sum:=sum_take_le _ es (i+1);have hkk:=HK.out;have hkb:=HKB.out;have hcx:cntR x=2:=rfl;have HSUM:Hid (k+((es.take (i+1)).map cntR).sum=kk+2):=(by show _=_;omega);have hkk2:kk+2<=1099511627776:=(by omega);have hk11:1<=kk:=(by omega);have hki:(i:Int)<(n:Int):=(by omega);have hi0:=sqI i;have A1:=hid a1;have hgw:g<wr.heap.size:=Nat.lt_of_lt_of_le hgl HB.out.size;have q0:∀ m':Wd (λw'=>SameOn All wr w'/\Bz w w'),m'.val.cell? ⟨g,off+i * 2,none⟩=some (.string (mtext kk)):=λm'=>(sqK (m'.ok.1.2 g trivial hgw)).trans a0;clear hat hcs hcsl hsum hle hkk hkb hcx HX HKB hmi a0 a1;go_wp2_with fail;have hCne:Nonempty (Wd (λw'=>SameOn All wr w'/\Bz w w')):=⟨⟨wr.drew,⟨sqS,HB.out.drew⟩⟩⟩;refine wp_region_class (λw'=>SameOn All wr w'/\Bz w w') (by kernel_rfl) (by kernel_rfl) ⟨sqS,HB.out.drew⟩ ?_
    repeat (go_big_quiet_step (first | (rename_i m';go_at_call 32;refine (markText_at kk _ (by omega) (by omega) (by omega)).mono ?_;rintro e w1 ⟨rfl,hb1⟩;exact ⟨rfl,⟨⟨w1,⟨(SameOn.trans m'.ok.1 (sqO hb1)),m'.ok.2.trans (hb1.mono m'.ok.2.size)⟩⟩,rfl⟩⟩)))
    refine wpQuiet_nil ?_;rintro _ ⟨mq,rfl⟩;have hbe:=mq.ok.2;have hse:=mq.ok.1;generalize mq.val=w1 at hbe hse ⊢;have a1':w1.cell? ⟨g,off+i * 2+1,none⟩=some (.int .i64 ((kk:Int)+1)):=(sqK (hse.2 g trivial hgw)).trans A1.out;have HB1:=hid hbe;clear q0 hbe hse;go_wp2_with fail;exact ⟨⟨i+1,kk+2,by omega,by go_num,by go_num,HSUM.out.symm,HB1.out⟩,by simp [intOf];omega⟩
  . obtain rfl:i=n:=by omega
    have HE:Hid (kk=k+(es.map cntR).sum):=by
     have:=HK.out;rw [sqT HN.out] at this;exact this
    go_wp2;go_ret;exact ⟨by rw [HE.out];rfl,HB.out⟩
end
end Go.Proofs.YtbdhpganbbandaaGreatDoor
