/-
  PImplL
-/
import Derived.Test.YtacioihbhkcdcaaGreatDoorP16
import Derived.Test.YtacioihbhkcdcaaGreatDoorP17
set_option maxHeartbeats 16000000
set_option linter.unusedVariables false
set_option maxRecDepth 100000
namespace Go.Proofs.YtacioihbhkcdcaaGreatDoor
open Go.ChangeShapes Go.WideShapes Go.ChangeAt Go.RowKit
section
open Go.Proofs.Tryz
theorem HEx.shapeP {w:World} {S:Nat->Prop} {d:Nat} {cs:List Value} {x:Ex} (h:HEx w S d cs x):∃ sk sn st se p1 n1 q1 p2 n2 q2,cs = [.int .i64 sk,.int .i64 sn,.string st,.string se,.slice p1 n1 q1,.slice p2 n2 q2]:=by
 cases d with
 | zero=>exact h.elim
 | succ d =>
  obtain ⟨kv,cv,rfl,_,_,_,_,⟨p1,c1,rfl,_⟩,⟨p2,c2,rfl,_⟩⟩:=h;exact ⟨_,_,_,_,_,_,_,_,_,_,rfl⟩
mutual
def lfX:Ex->Bool
 | .mk k _ _ _ ks _=>(!(decide (0<=k/\k<=3) || decide (k=5)) || ks.isEmpty) && lfXs ks
def lfXs:List Ex->Bool
 | []=>true
 | x :: xs=>lfX x && lfXs xs
end
theorem ZgT:∀ l,lfXs l=l.all lfX
 | []=>rfl
 | x :: xs=>by rw [lfXs,ZgT xs];rfl
theorem Zia (k n:Int) (t m:ByteArray) (ks:List Ex) (cs:List Cl):lfX (.mk k n t m ks cs)=((!(decide (0<=k/\k<=3) || decide (k=5)) || ks.isEmpty) && ks.all lfX):=by rw [lfX,ZgT]
def PatI (d:Nat):Prop :=
 ∀ (w:World) (cs:List Value) (x:Ex),HEx w All d cs x->lfX x=true->Calls prog 124 #[.agg cs.toArray] w λe w'=>e=.returned (.bool (ZaJ x))/\Bz w w'
def Zkx (d:Nat):Prop :=
 ∀ (w:World) (v:Value) (xs:List Ex),Rows w All 6 (HEx w All d) v xs->(∀ x ∈ xs,lfX x=true)->Calls prog 134 #[v] w λe w'=>e=.returned (.bool (xs.all ZaJ))/\Bz w w'
theorem Zj5 {d:Nat} (hE:PatI d):Zkx d:=by
 intro w v ps h hlf;obtain ⟨p,cap,rfl,hcl,hcm,hx⟩:=h;have hnb:=sqM hcl hcm;generalize hn:ps.length=n at *;have HN:=hid hn;have HLF:=hid hlf;have HX:=hid hx;clear hx hn hlf;go_enter func134,ntmps134;go_wp2_with fail
 go_loopw [7] (λiv wr=>∃ k1:Nat,k1<=n/\iv=.int .i64 k1/\Hid ((ps.take k1).all ZaJ=true)/\Bz w wr) (λiv _=>n - (intOf iv).toNat)
 case atStart=>exact ⟨0,Nat.zero_le _,rfl,by show _=_;simp,Below.refl _ _⟩
 case round =>
  obtain ⟨k1,hk,rfl,hall,hb⟩:=hrel;have HB:=hid hb;by_cases hlt:k1<n
  . obtain ⟨x,hxk⟩:=sqA (l:=ps) (k:=k1) HN.out hlt
    obtain ⟨g,off,rfl,-,hgl,hat⟩:=HX.out (sqE hxk);obtain ⟨cs,hcsl,hcs,r1⟩:=hat k1 x hxk;have E1:∀ w',Bz w w'->HEx w' All d cs x:=λw' hw=>r1.mono (sqO hw) sqj;have hlx:=HLF.out x (List.mem_of_getElem? hxk);obtain ⟨c0,c1,c2,c3,c4,c5,rfl⟩:=len6 hcsl;obtain ⟨a0,a1,a2,a3,a4,a5⟩:=sqC6 hcs (by omega);rw [<-hb.cell (p:=⟨g,_,none⟩) hgl] at a0 a1 a2 a3 a4 a5;simp at a0 a1 a2 a3 a4 a5;have hki:(k1:Int)<(n:Int):=(by omega);have hk0:=sqI k1;have BA:Hid (Bz w (wr.alloc (.cells #[c0,c1,c2,c3,c4,c5] 108))):=HB.out.alloc HB.out.size _;have CE:=hid (hE _ _ x (E1 _ BA.out) hlx);obtain ⟨sk,sn,st,se,p1,n1,q1,p2,n2,q2,hcv⟩:=r1.shapeP;simp only [List.cons.injEq,and_true] at hcv;obtain ⟨rfl,rfl,rfl,rfl,rfl,rfl⟩:=hcv;clear hb hcs hat hcsl r1 E1;generalize hcv:ZaJ x=cv at *;have HC2:Hid (cv=true->(ps.take (k1+1)).all ZaJ=true):=λh=>ZaC _ ps k1 x hxk hall.out (hcv.trans h);have HC3:Hid (cv=false->ps.all ZaJ=false):=λh=>Zbk _ ps k1 x hxk (hcv.trans h);clear hcv;go_wp2_with fail;refine CE.out.mono ?_;rintro e w4 ⟨rfl,hb4⟩;have HB4:=hid (BA.out.trans (hb4.mono BA.out.size));clear hb4
    cases cv with
    | true =>
     have HT:Hid _:=HC2.out rfl;clear HC2 HC3;go_wp2_with fail;exact ⟨⟨k1+1,by omega,by go_num,HT.out,HB4.out⟩,by simp [intOf];omega⟩
    | false =>
     have HF:=hid (HC3.out rfl);clear HC2 HC3;go_wp2;go_ret;exact ⟨by rw [HF.out];rfl,HB4.out⟩
  . have HD:Hid (ps.all ZaJ=true):=by
     have:=hall.out
     rwa [List.take_of_length_le (by rw [HN.out];omega)] at this
    clear hb;go_wp2;go_ret;exact ⟨by rw [HD.out];rfl,HB.out⟩
theorem Zj6 {d:Nat} (hE:Zkx d):PatI (d+1):=by
 intro w cs x h hlf;obtain ⟨kv,cv,rfl,o1,o2,o3,o4,f0,f1⟩:=h;obtain ⟨xk,xn,xt,xm,ps,cl⟩:=x;simp only [Ex.kind,Ex.n,Ex.text,Ex.mod,Ex.kids,Ex.clauses] at f0 f1 o1 o2 o3 o4 ⊢;rw [Zia] at hlf;simp only [Bool.and_eq_true] at hlf;have hv:ZaJ (.mk xk xn xt xm ps cl)=((decide (0<=xk) && decide (xk<=6)) && ps.all ZaJ):=Zgw _ _ _ _ _ _;have B1:Hid (Bz w (w.alloc (.cells #[.int .i64 xk,.int .i64 xn,.string xt,.string xm,kv,cv] 108))):=(sqN _ _);have CA:=hid (hE _ _ ps (f0.mono (sqO B1.out) sqj (λ_ _ _ h=>h.mono (sqO B1.out) sqj)) (λx hx=>List.all_eq_true.1 hlf.2 x hx));obtain ⟨p,cap,rfl,-⟩:=f0;obtain ⟨q,cap',rfl,-⟩:=f1
 have LEAF:∀ k:Int,xk=k->(0<=k/\k<=3\/k=5)->ZaJ (.mk xk xn xt xm ps cl)=true:=λk e hk=>by
  subst e
  have h1:ps.isEmpty=true:=by
   have:=hlf.1
   rcases hk with hk | hk <;> simpa [hk] using this
  rw [hv,List.isEmpty_iff.1 h1];simp;omega
 rw [hv] at LEAF;rw [hv];generalize ps.all ZaJ=PA at *;generalize ps.length=n at *;generalize cl.length=m at *;clear hlf hv o1 o2 o3 o4;by_cases h0:xk=0
 . have HV:Hid (((decide (0<=xk) && decide (xk<=6)) && PA)=true):=LEAF 0 h0 (by omega)
   subst h0;go_enter func124,ntmps124;go_wp2;go_ret;exact ⟨by rw [HV.out];rfl,B1.out⟩
 by_cases h1:xk=1
 . have HV:Hid (((decide (0<=xk) && decide (xk<=6)) && PA)=true):=LEAF 1 h1 (by omega)
   subst h1;go_enter func124,ntmps124;go_wp2;go_ret;exact ⟨by rw [HV.out];rfl,B1.out⟩
 by_cases h2:xk=2
 . have HV:Hid (((decide (0<=xk) && decide (xk<=6)) && PA)=true):=LEAF 2 h2 (by omega)
   subst h2;go_enter func124,ntmps124;go_wp2;go_ret;exact ⟨by rw [HV.out];rfl,B1.out⟩
 by_cases h3:xk=3
 . have HV:Hid (((decide (0<=xk) && decide (xk<=6)) && PA)=true):=LEAF 3 h3 (by omega)
   subst h3;go_enter func124,ntmps124;go_wp2;go_ret;exact ⟨by rw [HV.out];rfl,B1.out⟩
 by_cases h5:xk=5
 . have HV:Hid (((decide (0<=xk) && decide (xk<=6)) && PA)=true):=LEAF 5 h5 (by omega)
   subst h5;go_enter func124,ntmps124;go_wp2;go_ret;exact ⟨by rw [HV.out];rfl,B1.out⟩
 by_cases h4:xk=4
 . subst h4
   have HV:Hid (((decide ((0:Int)<=4) && decide ((4:Int)<=6)) && PA)=PA):=(by show _=_;simp);go_enter func124,ntmps124;go_wp2_with fail;refine CA.out.mono ?_;rintro e w2 ⟨rfl,hb2⟩;have B2:=hid (B1.out.trans (hb2.mono B1.out.size));clear hb2;go_wp2;go_ret;exact ⟨by rw [HV.out];rfl,B2.out⟩
 by_cases h6:xk=6
 . subst h6
   have HV:Hid (((decide ((0:Int)<=6) && decide ((6:Int)<=6)) && PA)=PA):=(by show _=_;simp);go_enter func124,ntmps124;go_wp2_with fail;refine CA.out.mono ?_;rintro e w2 ⟨rfl,hb2⟩;have B2:=hid (B1.out.trans (hb2.mono B1.out.size));clear hb2;go_wp2;go_ret;exact ⟨by rw [HV.out];rfl,B2.out⟩
 have HV:Hid (((decide (0<=xk) && decide (xk<=6)) && PA)=false):=by
  show _=_;have:¬ (0<=xk/\xk<=6):=(by omega);by_cases h:0<=xk
  . have h':¬ xk<=6:=λh2=>this ⟨h,h2⟩
    simp [h']
  . simp [h]
 go_enter func124,ntmps124;go_wp2;go_ret;exact ⟨by rw [HV.out];rfl,B1.out⟩
theorem ZgU:∀ d,PatI d
 | 0=>λw cs x h=>absurd h (by simp [HEx])
 | d+1=>Zj6 (Zj5 (ZgU d))
theorem ZcK {w:World} {cs:List Value} {x:Ex} {fp:List Nat} (h:OXT w cs x fp) (hl:lfX x=true):Calls prog 124 #[.agg cs.toArray] w λe w'=>e=.returned (.bool (ZaJ x))/\Bz w w':=by
 obtain ⟨D,hD⟩:=h.tree (S:=All) (λa _=>by trivial);exact ZgU D w cs x hD hl
end
end Go.Proofs.YtacioihbhkcdcaaGreatDoor
