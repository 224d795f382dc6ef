/-
  ModOkSpecB ModOkSpecC ModOkSpecD
-/
import Derived.Test.YtacioihbhkcdcaaGreatDoorP05
set_option maxHeartbeats 16000000
set_option linter.unusedVariables false
set_option maxRecDepth 100000
namespace Go.Proofs.YtacioihbhkcdcaaGreatDoor
open Go.ChangeShapes Go.WideShapes Go.ChangeAt Go.RowKit
section
open Go.Proofs.Tryz
theorem ZjE (W:World) (g:Nat) (hg:g=W.heap.size):∀ i x,opsL[i]?=some x->(W.alloc (.cells #[.string ⟨#[61,61]⟩,.string ⟨#[60]⟩,.string ⟨#[43]⟩,.string ⟨#[45]⟩,.string ⟨#[42]⟩] 9)).cell? ⟨g,i,none⟩=some (.string x):=by
 subst hg;intro i x h
 match i,h with
 | 0,h=>simp [opsL] at h;subst h;exact ZaG W _ _ 0 _ rfl
 | 1,h=>simp [opsL] at h;subst h;exact ZaG W _ _ 1 _ rfl
 | 2,h=>simp [opsL] at h;subst h;exact ZaG W _ _ 2 _ rfl
 | 3,h=>simp [opsL] at h;subst h;exact ZaG W _ _ 3 _ rfl
 | 4,h=>simp [opsL] at h;subst h;exact ZaG W _ _ 4 _ rfl
 | i+5,h=>simp [opsL] at h
theorem Zbf (k n:Int) (t m:ByteArray) (p q:Option Addr) (nk c nc c':Nat) (w:World) (hts:t.size<=maxLen) (hms:m.size<=maxLen) (hnk:nk<=9223372036854775807) (hnc:nc<=9223372036854775807) :
 Calls prog 94 #[.agg #[.int .i64 k,.int .i64 n,.string t,.string m,.slice p nk c,.slice q nc c']] w λe w'=>e=.returned (.bool (ZC k n t m nk nc))/\Bz w w':=by
 by_cases c1:¬ k=0/\¬ n=0
 . obtain ⟨c1a,c1b⟩:=c1
   have HS:Hid (ZC k n t m nk nc=false):=by
    show _=_;simp [ZC,numB,c1a,c1b]
   have BL:Hid (Bz w (w.alloc (.cells #[.int .i64 k,.int .i64 n,.string t,.string m,.slice p nk c,.slice q nc c'] 108))):=(sqN _ _);go_enter func94,ntmps94;go_wp2;go_ret;exact ⟨by rw [HS.out];rfl,by first | exact BL.out | exact BL.out.alloc BL.out.size _⟩
 by_cases c2:¬ k=8/\¬ m.toList = []
 . obtain ⟨c2a,c2b⟩:=c2
   have hm2:(m.toList == [])=false:=(by simpa using c2b);by_cases k0:k=0
   . subst k0
     have HS:Hid (ZC 0 n t m nk nc=false):=by
      show _=_;simp [ZC,modB,c2b]
     have BL:Hid (Bz w (w.alloc (.cells #[.int .i64 0,.int .i64 n,.string t,.string m,.slice p nk c,.slice q nc c'] 108))):=(sqN _ _);go_enter func94,ntmps94;go_wp2;go_ret;exact ⟨by rw [HS.out];rfl,by first | exact BL.out | exact BL.out.alloc BL.out.size _⟩
   . have n0:n=0:=Classical.byContradiction λh=>c1 ⟨k0,h⟩
     subst n0;clear c1
     have HS:Hid (ZC k 0 t m nk nc=false):=by
      show _=_;simp [ZC,modB,c2a,c2b]
     have BL:Hid (Bz w (w.alloc (.cells #[.int .i64 k,.int .i64 0,.string t,.string m,.slice p nk c,.slice q nc c'] 108))):=(sqN _ _);go_enter func94,ntmps94;go_wp2;go_ret;exact ⟨by rw [HS.out];rfl,by first | exact BL.out | exact BL.out.alloc BL.out.size _⟩
 by_cases c3:¬ k=10/\¬ nc=0
 . obtain ⟨c3a,c3b⟩:=c3
   have hnc1:(0:Int)<(nc:Int):=(by omega);have hcl:inB nc (ZJ k) (ZI k)=false:=(by simp [inB,ZJ,ZI,c3a];omega);by_cases k0:k=0
   . subst k0
     have hm:m.toList = []:=Classical.byContradiction λh=>c2 ⟨by omega,h⟩;have hm2:(m.toList == [])=true:=(by simpa using hm);clear c1 c2 hm
     have HS:Hid (ZC 0 n t m nk nc=false):=by
      show _=_;simp only [ZC,hcl];simp
     have BL:Hid (Bz w (w.alloc (.cells #[.int .i64 0,.int .i64 n,.string t,.string m,.slice p nk c,.slice q nc c'] 108))):=(sqN _ _);go_enter func94,ntmps94;go_wp2;go_ret;exact ⟨by rw [HS.out];rfl,by first | exact BL.out | exact BL.out.alloc BL.out.size _⟩
   . have n0:n=0:=Classical.byContradiction λh=>c1 ⟨k0,h⟩
     subst n0;clear c1;by_cases k8:k=8
     . subst k8
       clear c2
       have HS:Hid (ZC 8 0 t m nk nc=false):=by
        show _=_;simp only [ZC,hcl];simp
       have BL:Hid (Bz w (w.alloc (.cells #[.int .i64 8,.int .i64 0,.string t,.string m,.slice p nk c,.slice q nc c'] 108))):=(sqN _ _);go_enter func94,ntmps94;go_wp2;go_ret;exact ⟨by rw [HS.out];rfl,by first | exact BL.out | exact BL.out.alloc BL.out.size _⟩
     . have c3c:(k != 10)=true:=by simpa using c3a
       have hnc2:0<nc:=(by omega);have hm:m.toList = []:=Classical.byContradiction λh=>c2 ⟨k8,h⟩;have hm2:(m.toList == [])=true:=(by simpa using hm);clear c2 hm
       have HS:Hid (ZC k 0 t m nk nc=false):=by
        show _=_;simp only [ZC,hcl];simp
       have BL:Hid (Bz w (w.alloc (.cells #[.int .i64 k,.int .i64 0,.string t,.string m,.slice p nk c,.slice q nc c'] 108))):=(sqN _ _);go_enter func94,ntmps94;go_wp2;go_ret;exact ⟨by rw [HS.out];rfl,by first | exact BL.out | exact BL.out.alloc BL.out.size _⟩
 have hm:k≠8->m.toList = []:=λh8=>Classical.byContradiction λh=>c2 ⟨h8,h⟩;have hn0:k≠0->n=0:=λh0=>Classical.byContradiction λh=>c1 ⟨h0,h⟩;have hc0:k≠10->nc=0:=λh0=>Classical.byContradiction λh=>c3 ⟨h0,h⟩;clear c1 c2 c3;by_cases k0:k=0
 . subst k0
   obtain rfl:=hc0 (by omega);have hm1:=hm (by omega);have hm2:(m.toList == [])=true:=(by simpa using hm1);clear hm hn0 hc0;by_cases ht:t.toList = []
   . have ht2:(t.toList == [])=true:=by simpa using ht
     by_cases hk:nk=0
     . subst hk
       have HS:Hid (ZC 0 n t m 0 0=inB n 0 999999999):=by
        show _=_
        (rw [Bool.eq_iff_iff];simp [ZC,numB,modB,txtB,txtK,tkB,ZG,ZH,ZJ,ZI,inB,ht,hm1])
       have BL:Hid (Bz w (w.alloc (.cells #[.int .i64 0,.int .i64 n,.string t,.string m,.slice p 0 c,.slice q 0 c'] 108))):=(sqN _ _);go_enter func94,ntmps94;go_wp2_with (first | (go_at_call 33;go_must (refine (Zr _ _ (by assumption)).mono ?_;rintro e w9 ⟨rfl,rfl⟩)) | (go_at_call 91;go_must (refine (Z8 _ _ (by assumption)).mono ?_;rintro e w9 ⟨rfl,rfl⟩)) | (go_at_call 34;go_must (refine (ZP _ _ _ _).mono ?_;rintro e w9 ⟨rfl,rfl⟩)));go_ret;exact ⟨by rw [HS.out];rfl,by first | exact BL.out | exact BL.out.alloc BL.out.size _⟩
     . have hk2:((nk:Int) == 0)=false:=by simp;omega
       have HS:Hid (ZC 0 n t m nk 0=false):=by
        show _=_
        (simp [ZC,numB,modB,txtB,txtK,tkB,ZG,ZH,ZJ,ZI,inB,ht,hm1];omega)
       have BL:Hid (Bz w (w.alloc (.cells #[.int .i64 0,.int .i64 n,.string t,.string m,.slice p nk c,.slice q 0 c'] 108))):=(sqN _ _);go_enter func94,ntmps94;go_wp2_with (first | (go_at_call 33;go_must (refine (Zr _ _ (by assumption)).mono ?_;rintro e w9 ⟨rfl,rfl⟩)) | (go_at_call 91;go_must (refine (Z8 _ _ (by assumption)).mono ?_;rintro e w9 ⟨rfl,rfl⟩)) | (go_at_call 34;go_must (refine (ZP _ _ _ _).mono ?_;rintro e w9 ⟨rfl,rfl⟩)));go_ret;exact ⟨by rw [HS.out];rfl,by first | exact BL.out | exact BL.out.alloc BL.out.size _⟩
   . have ht2:(t.toList == [])=false:=by simpa using ht
     have HS:Hid (ZC 0 n t m nk 0=false):=by
      show _=_;simp [ZC,numB,modB,txtB,txtK,tkB,ZG,ZH,ZJ,ZI,inB,ht,hm1]
     have BL:Hid (Bz w (w.alloc (.cells #[.int .i64 0,.int .i64 n,.string t,.string m,.slice p nk c,.slice q 0 c'] 108))):=(sqN _ _);go_enter func94,ntmps94;go_wp2;go_ret;exact ⟨by rw [HS.out];rfl,by first | exact BL.out | exact BL.out.alloc BL.out.size _⟩
 by_cases k1:k=1
 . subst k1
   obtain rfl:=hn0 (by omega);obtain rfl:=hc0 (by omega);have hm1:=hm (by omega);have hm2:(m.toList == [])=true:=(by simpa using hm1);clear hm hn0 hc0
   cases ha:atomB t with
   | true =>
    have HS:Hid (ZC 1 0 t m nk 0=((nk:Int) == 0)):=by
     show _=_
     (rw [Bool.eq_iff_iff];simp [ZC,numB,modB,txtB,txtK,tkB,ZG,ZH,ZJ,ZI,inB,ha,hm1] <;> omega)
    have BL:Hid (Bz w (w.alloc (.cells #[.int .i64 1,.int .i64 0,.string t,.string m,.slice p nk c,.slice q 0 c'] 108))):=(sqN _ _);go_enter func94,ntmps94;go_wp2_with (first | (go_at_call 33;go_must (refine (Zr _ _ (by assumption)).mono ?_;rintro e w9 ⟨rfl,rfl⟩;rw [ha])));go_ret;exact ⟨by rw [HS.out];rfl,by first | exact BL.out | exact BL.out.alloc BL.out.size _⟩
   | false =>
    have HS:Hid (ZC 1 0 t m nk 0=false):=by
     show _=_
     (simp [ZC,numB,modB,txtB,txtK,tkB,ZG,ZH,ZJ,ZI,inB,ha])
    have BL:Hid (Bz w (w.alloc (.cells #[.int .i64 1,.int .i64 0,.string t,.string m,.slice p nk c,.slice q 0 c'] 108))):=(sqN _ _);go_enter func94,ntmps94;go_wp2_with (first | (go_at_call 33;go_must (refine (Zr _ _ (by assumption)).mono ?_;rintro e w9 ⟨rfl,rfl⟩;rw [ha])));go_ret;exact ⟨by rw [HS.out];rfl,by first | exact BL.out | exact BL.out.alloc BL.out.size _⟩
 by_cases k2:k=2
 . subst k2
   obtain rfl:=hn0 (by omega);obtain rfl:=hc0 (by omega);have hm1:=hm (by omega);have hm2:(m.toList == [])=true:=(by simpa using hm1);clear hm hn0 hc0
   cases ha:varB t with
   | true =>
    have HS:Hid (ZC 2 0 t m nk 0=((nk:Int) == 0)):=by
     show _=_
     (rw [Bool.eq_iff_iff];simp [ZC,numB,modB,txtB,txtK,tkB,ZG,ZH,ZJ,ZI,inB,ha,hm1] <;> omega)
    have BL:Hid (Bz w (w.alloc (.cells #[.int .i64 2,.int .i64 0,.string t,.string m,.slice p nk c,.slice q 0 c'] 108))):=(sqN _ _);go_enter func94,ntmps94;go_wp2_with (first | (go_at_call 91;go_must (refine (Z8 _ _ (by assumption)).mono ?_;rintro e w9 ⟨rfl,rfl⟩;rw [ha])));go_ret;exact ⟨by rw [HS.out];rfl,by first | exact BL.out | exact BL.out.alloc BL.out.size _⟩
   | false =>
    have HS:Hid (ZC 2 0 t m nk 0=false):=by
     show _=_
     (simp [ZC,numB,modB,txtB,txtK,tkB,ZG,ZH,ZJ,ZI,inB,ha])
    have BL:Hid (Bz w (w.alloc (.cells #[.int .i64 2,.int .i64 0,.string t,.string m,.slice p nk c,.slice q 0 c'] 108))):=(sqN _ _);go_enter func94,ntmps94;go_wp2_with (first | (go_at_call 91;go_must (refine (Z8 _ _ (by assumption)).mono ?_;rintro e w9 ⟨rfl,rfl⟩;rw [ha])));go_ret;exact ⟨by rw [HS.out];rfl,by first | exact BL.out | exact BL.out.alloc BL.out.size _⟩
 by_cases k3:k=3
 . subst k3
   obtain rfl:=hn0 (by omega);obtain rfl:=hc0 (by omega);have hm1:=hm (by omega);have hm2:(m.toList == [])=true:=(by simpa using hm1);clear hm hn0 hc0;by_cases ht:t.toList = []
   . have ht2:(t.toList == [])=true:=by simpa using ht
     have HS:Hid (ZC 3 0 t m nk 0=((nk:Int) == 0)):=by
      show _=_
      (rw [Bool.eq_iff_iff];simp [ZC,numB,modB,txtB,txtK,tkB,ZG,ZH,ZJ,ZI,inB,ht,hm1] <;> omega)
     have BL:Hid (Bz w (w.alloc (.cells #[.int .i64 3,.int .i64 0,.string t,.string m,.slice p nk c,.slice q 0 c'] 108))):=(sqN _ _);go_enter func94,ntmps94;go_wp2;go_ret;exact ⟨by rw [HS.out];rfl,by first | exact BL.out | exact BL.out.alloc BL.out.size _⟩
   . have ht2:(t.toList == [])=false:=by simpa using ht
     have HS:Hid (ZC 3 0 t m nk 0=false):=by
      show _=_;simp [ZC,numB,modB,txtB,txtK,tkB,ZG,ZH,ZJ,ZI,inB,ht,hm1]
     have BL:Hid (Bz w (w.alloc (.cells #[.int .i64 3,.int .i64 0,.string t,.string m,.slice p nk c,.slice q 0 c'] 108))):=(sqN _ _);go_enter func94,ntmps94;go_wp2;go_ret;exact ⟨by rw [HS.out];rfl,by first | exact BL.out | exact BL.out.alloc BL.out.size _⟩
 by_cases k4:k=4
 . subst k4
   obtain rfl:=hn0 (by omega);obtain rfl:=hc0 (by omega);have hm1:=hm (by omega);have hm2:(m.toList == [])=true:=(by simpa using hm1);clear hm hn0 hc0;by_cases ht:t.toList = []
   . have ht2:(t.toList == [])=true:=by simpa using ht
     have HS:Hid (ZC 4 0 t m nk 0=inB nk 1 20):=by
      show _=_
      (rw [Bool.eq_iff_iff];simp [ZC,numB,modB,txtB,txtK,tkB,ZG,ZH,ZJ,ZI,inB,ht,hm1] <;> omega)
     have BL:Hid (Bz w (w.alloc (.cells #[.int .i64 4,.int .i64 0,.string t,.string m,.slice p nk c,.slice q 0 c'] 108))):=(sqN _ _);go_enter func94,ntmps94;go_wp2_with (first | (go_at_call 33;go_must (refine (Zr _ _ (by assumption)).mono ?_;rintro e w9 ⟨rfl,rfl⟩)) | (go_at_call 91;go_must (refine (Z8 _ _ (by assumption)).mono ?_;rintro e w9 ⟨rfl,rfl⟩)) | (go_at_call 34;go_must (refine (ZP _ _ _ _).mono ?_;rintro e w9 ⟨rfl,rfl⟩)));go_ret;exact ⟨by rw [HS.out];rfl,by first | exact BL.out | exact BL.out.alloc BL.out.size _⟩
   . have ht2:(t.toList == [])=false:=by simpa using ht
     have HS:Hid (ZC 4 0 t m nk 0=false):=by
      show _=_;simp [ZC,numB,modB,txtB,txtK,tkB,ZG,ZH,ZJ,ZI,inB,ht,hm1]
     have BL:Hid (Bz w (w.alloc (.cells #[.int .i64 4,.int .i64 0,.string t,.string m,.slice p nk c,.slice q 0 c'] 108))):=(sqN _ _);go_enter func94,ntmps94;go_wp2;go_ret;exact ⟨by rw [HS.out];rfl,by first | exact BL.out | exact BL.out.alloc BL.out.size _⟩
 by_cases k5:k=5
 . subst k5
   obtain rfl:=hn0 (by omega);obtain rfl:=hc0 (by omega);have hm1:=hm (by omega);have hm2:(m.toList == [])=true:=(by simpa using hm1);clear hm hn0 hc0;by_cases ht:t.toList = []
   . have ht2:(t.toList == [])=true:=by simpa using ht
     have HS:Hid (ZC 5 0 t m nk 0=((nk:Int) == 0)):=by
      show _=_
      (rw [Bool.eq_iff_iff];simp [ZC,numB,modB,txtB,txtK,tkB,ZG,ZH,ZJ,ZI,inB,ht,hm1] <;> omega)
     have BL:Hid (Bz w (w.alloc (.cells #[.int .i64 5,.int .i64 0,.string t,.string m,.slice p nk c,.slice q 0 c'] 108))):=(sqN _ _);go_enter func94,ntmps94;go_wp2;go_ret;exact ⟨by rw [HS.out];rfl,by first | exact BL.out | exact BL.out.alloc BL.out.size _⟩
   . have ht2:(t.toList == [])=false:=by simpa using ht
     have HS:Hid (ZC 5 0 t m nk 0=false):=by
      show _=_;simp [ZC,numB,modB,txtB,txtK,tkB,ZG,ZH,ZJ,ZI,inB,ht,hm1]
     have BL:Hid (Bz w (w.alloc (.cells #[.int .i64 5,.int .i64 0,.string t,.string m,.slice p nk c,.slice q 0 c'] 108))):=(sqN _ _);go_enter func94,ntmps94;go_wp2;go_ret;exact ⟨by rw [HS.out];rfl,by first | exact BL.out | exact BL.out.alloc BL.out.size _⟩
 by_cases k6:k=6
 . subst k6
   obtain rfl:=hn0 (by omega);obtain rfl:=hc0 (by omega);have hm1:=hm (by omega);have hm2:(m.toList == [])=true:=(by simpa using hm1);clear hm hn0 hc0;by_cases ht:t.toList = []
   . have ht2:(t.toList == [])=true:=by simpa using ht
     have HS:Hid (ZC 6 0 t m nk 0=((nk:Int) == 2)):=by
      show _=_
      (rw [Bool.eq_iff_iff];simp [ZC,numB,modB,txtB,txtK,tkB,ZG,ZH,ZJ,ZI,inB,ht,hm1] <;> omega)
     have BL:Hid (Bz w (w.alloc (.cells #[.int .i64 6,.int .i64 0,.string t,.string m,.slice p nk c,.slice q 0 c'] 108))):=(sqN _ _);go_enter func94,ntmps94;go_wp2;go_ret;exact ⟨by rw [HS.out];rfl,by first | exact BL.out | exact BL.out.alloc BL.out.size _⟩
   . have ht2:(t.toList == [])=false:=by simpa using ht
     have HS:Hid (ZC 6 0 t m nk 0=false):=by
      show _=_;simp [ZC,numB,modB,txtB,txtK,tkB,ZG,ZH,ZJ,ZI,inB,ht,hm1]
     have BL:Hid (Bz w (w.alloc (.cells #[.int .i64 6,.int .i64 0,.string t,.string m,.slice p nk c,.slice q 0 c'] 108))):=(sqN _ _);go_enter func94,ntmps94;go_wp2;go_ret;exact ⟨by rw [HS.out];rfl,by first | exact BL.out | exact BL.out.alloc BL.out.size _⟩
 by_cases k7:k=7
 . subst k7
   obtain rfl:=hn0 (by omega);obtain rfl:=hc0 (by omega);have hm1:=hm (by omega);have hm2:(m.toList == [])=true:=(by simpa using hm1);clear hm hn0 hc0
   cases ha:opB t with
   | true =>
    have HOP:Hid (∀ i x,opsL[i]?=some x->((w.alloc (.cells #[.int .i64 7,.int .i64 0,.string t,.string m,.slice p nk c,.slice q 0 c'] 108)).alloc (.cells #[.string ⟨#[61,61]⟩,.string ⟨#[60]⟩,.string ⟨#[43]⟩,.string ⟨#[45]⟩,.string ⟨#[42]⟩] 9)).cell? ⟨w.heap.size+1,i,none⟩=some (.string x)):=ZjE _ _ (by simp only [Zg])
    have HS:Hid (ZC 7 0 t m nk 0=((nk:Int) == 2)):=by
     show _=_
     (rw [Bool.eq_iff_iff];simp [ZC,numB,modB,txtB,txtK,tkB,ZG,ZH,ZJ,ZI,inB,ha,hm1] <;> omega)
    have BL:Hid (Bz w (w.alloc (.cells #[.int .i64 7,.int .i64 0,.string t,.string m,.slice p nk c,.slice q 0 c'] 108))):=(sqN _ _);go_enter func94,ntmps94;go_wp2_with (first | (go_at_call 56;go_must (refine (Zeu _ _ _ opsL t (by decide) (by exact HOP.out)).mono ?_;rintro e w9 ⟨rfl,rfl⟩;rw [ZgM,ha])));go_ret;exact ⟨by rw [HS.out];rfl,by first | exact BL.out | exact BL.out.alloc BL.out.size _⟩
   | false =>
    have HOP:Hid (∀ i x,opsL[i]?=some x->((w.alloc (.cells #[.int .i64 7,.int .i64 0,.string t,.string m,.slice p nk c,.slice q 0 c'] 108)).alloc (.cells #[.string ⟨#[61,61]⟩,.string ⟨#[60]⟩,.string ⟨#[43]⟩,.string ⟨#[45]⟩,.string ⟨#[42]⟩] 9)).cell? ⟨w.heap.size+1,i,none⟩=some (.string x)):=ZjE _ _ (by simp only [Zg])
    have HS:Hid (ZC 7 0 t m nk 0=false):=by
     show _=_
     (simp [ZC,numB,modB,txtB,txtK,tkB,ZG,ZH,ZJ,ZI,inB,ha])
    have BL:Hid (Bz w (w.alloc (.cells #[.int .i64 7,.int .i64 0,.string t,.string m,.slice p nk c,.slice q 0 c'] 108))):=(sqN _ _);go_enter func94,ntmps94;go_wp2_with (first | (go_at_call 56;go_must (refine (Zeu _ _ _ opsL t (by decide) (by exact HOP.out)).mono ?_;rintro e w9 ⟨rfl,rfl⟩;rw [ZgM,ha])));go_ret;exact ⟨by rw [HS.out];rfl,by first | exact BL.out | exact BL.out.alloc BL.out.size _⟩
 by_cases k8:k=8
 . subst k8
   obtain rfl:=hn0 (by omega);obtain rfl:=hc0 (by omega);clear hm hn0 hc0
   cases ha:atomB t with
   | true =>
    by_cases hk:nk<=6
    . have hk2:(nk:Int)<=6:=by omega
      by_cases hm1:m.toList = []
      . have hm2:(m.toList == [])=true:=by simpa using hm1
        have HS:Hid (ZC 8 0 t m nk 0=true):=by
         show _=_
         (simp [ZC,numB,modB,txtB,txtK,tkB,ZG,ZH,ZJ,ZI,inB,ha,hm1];omega)
        have BL:Hid (Bz w (w.alloc (.cells #[.int .i64 8,.int .i64 0,.string t,.string m,.slice p nk c,.slice q 0 c'] 108))):=(sqN _ _);go_enter func94,ntmps94;go_wp2_with (first | (go_at_call_of 33 t;go_must (refine (Zr _ _ hts).mono ?_;rintro e w9 ⟨rfl,rfl⟩;rw [ha])));go_ret;exact ⟨by rw [HS.out];rfl,by first | exact BL.out | exact BL.out.alloc BL.out.size _⟩
      . have hm2:(m.toList == [])=false:=by simpa using hm1
        have HS:Hid (ZC 8 0 t m nk 0=atomB m):=by
         show _=_
         (rw [Bool.eq_iff_iff];simp [ZC,numB,modB,txtB,txtK,tkB,ZG,ZH,ZJ,ZI,inB,ha,hm1];omega)
        have BL:Hid (Bz w (w.alloc (.cells #[.int .i64 8,.int .i64 0,.string t,.string m,.slice p nk c,.slice q 0 c'] 108))):=(sqN _ _);go_enter func94,ntmps94;go_wp2_with (first | (go_at_call_of 33 t;go_must (refine (Zr _ _ hts).mono ?_;rintro e w9 ⟨rfl,rfl⟩;rw [ha])) | (go_at_call_of 33 m;go_must (refine (Zr _ _ hms).mono ?_;rintro e w9 ⟨rfl,rfl⟩)));go_ret;exact ⟨by rw [HS.out];rfl,by first | exact BL.out | exact BL.out.alloc BL.out.size _⟩
    . have hk2:(6:Int)<(nk:Int):=by omega
      have HS:Hid (ZC 8 0 t m nk 0=false):=by
       show _=_
       (simp [ZC,numB,modB,txtB,txtK,tkB,ZG,ZH,ZJ,ZI,inB,ha];omega)
      have BL:Hid (Bz w (w.alloc (.cells #[.int .i64 8,.int .i64 0,.string t,.string m,.slice p nk c,.slice q 0 c'] 108))):=(sqN _ _);go_enter func94,ntmps94;go_wp2_with (first | (go_at_call_of 33 t;go_must (refine (Zr _ _ hts).mono ?_;rintro e w9 ⟨rfl,rfl⟩;rw [ha])));go_ret;exact ⟨by rw [HS.out];rfl,by first | exact BL.out | exact BL.out.alloc BL.out.size _⟩
   | false =>
    have HS:Hid (ZC 8 0 t m nk 0=false):=by
     show _=_
     (simp [ZC,numB,modB,txtB,txtK,tkB,ZG,ZH,ZJ,ZI,inB,ha])
    have BL:Hid (Bz w (w.alloc (.cells #[.int .i64 8,.int .i64 0,.string t,.string m,.slice p nk c,.slice q 0 c'] 108))):=(sqN _ _);go_enter func94,ntmps94;go_wp2_with (first | (go_at_call_of 33 t;go_must (refine (Zr _ _ hts).mono ?_;rintro e w9 ⟨rfl,rfl⟩;rw [ha])));go_ret;exact ⟨by rw [HS.out];rfl,by first | exact BL.out | exact BL.out.alloc BL.out.size _⟩
 by_cases k9:k=9
 . subst k9
   obtain rfl:=hn0 (by omega);obtain rfl:=hc0 (by omega);have hm1:=hm (by omega);have hm2:(m.toList == [])=true:=(by simpa using hm1);clear hm hn0 hc0;by_cases ht:t.toList = []
   . have ht2:(t.toList == [])=true:=by simpa using ht
     have HS:Hid (ZC 9 0 t m nk 0=((nk:Int) == 2)):=by
      show _=_
      (rw [Bool.eq_iff_iff];simp [ZC,numB,modB,txtB,txtK,tkB,ZG,ZH,ZJ,ZI,inB,ht,hm1] <;> omega)
     have BL:Hid (Bz w (w.alloc (.cells #[.int .i64 9,.int .i64 0,.string t,.string m,.slice p nk c,.slice q 0 c'] 108))):=(sqN _ _);go_enter func94,ntmps94;go_wp2;go_ret;exact ⟨by rw [HS.out];rfl,by first | exact BL.out | exact BL.out.alloc BL.out.size _⟩
   . have ht2:(t.toList == [])=false:=by simpa using ht
     have HS:Hid (ZC 9 0 t m nk 0=false):=by
      show _=_;simp [ZC,numB,modB,txtB,txtK,tkB,ZG,ZH,ZJ,ZI,inB,ht,hm1]
     have BL:Hid (Bz w (w.alloc (.cells #[.int .i64 9,.int .i64 0,.string t,.string m,.slice p nk c,.slice q 0 c'] 108))):=(sqN _ _);go_enter func94,ntmps94;go_wp2;go_ret;exact ⟨by rw [HS.out];rfl,by first | exact BL.out | exact BL.out.alloc BL.out.size _⟩
 by_cases k10:k=10
 . subst k10
   obtain rfl:=hn0 (by omega);have hm1:=hm (by omega);have hm2:(m.toList == [])=true:=(by simpa using hm1);clear hm hn0 hc0;by_cases ht:t.toList = []
   . have ht2:(t.toList == [])=true:=by simpa using ht
     by_cases hk:nk=1
     . subst hk
       have HS:Hid (ZC 10 0 t m 1 nc=inB nc 1 20):=by
        show _=_
        (rw [Bool.eq_iff_iff];simp [ZC,numB,modB,txtB,txtK,tkB,ZG,ZH,ZJ,ZI,inB,ht,hm1])
       have BL:Hid (Bz w (w.alloc (.cells #[.int .i64 10,.int .i64 0,.string t,.string m,.slice p 1 c,.slice q nc c'] 108))):=(sqN _ _);go_enter func94,ntmps94;go_wp2_with (first | (go_at_call 33;go_must (refine (Zr _ _ (by assumption)).mono ?_;rintro e w9 ⟨rfl,rfl⟩)) | (go_at_call 91;go_must (refine (Z8 _ _ (by assumption)).mono ?_;rintro e w9 ⟨rfl,rfl⟩)) | (go_at_call 34;go_must (refine (ZP _ _ _ _).mono ?_;rintro e w9 ⟨rfl,rfl⟩)));go_ret;exact ⟨by rw [HS.out];rfl,by first | exact BL.out | exact BL.out.alloc BL.out.size _⟩
     . have hk2:((nk:Int) == 1)=false:=by simp;omega
       have HS:Hid (ZC 10 0 t m nk nc=false):=by
        show _=_
        (simp [ZC,numB,modB,txtB,txtK,tkB,ZG,ZH,ZJ,ZI,inB,ht,hm1];omega)
       have BL:Hid (Bz w (w.alloc (.cells #[.int .i64 10,.int .i64 0,.string t,.string m,.slice p nk c,.slice q nc c'] 108))):=(sqN _ _);go_enter func94,ntmps94;go_wp2_with (first | (go_at_call 33;go_must (refine (Zr _ _ (by assumption)).mono ?_;rintro e w9 ⟨rfl,rfl⟩)) | (go_at_call 91;go_must (refine (Z8 _ _ (by assumption)).mono ?_;rintro e w9 ⟨rfl,rfl⟩)) | (go_at_call 34;go_must (refine (ZP _ _ _ _).mono ?_;rintro e w9 ⟨rfl,rfl⟩)));go_ret;exact ⟨by rw [HS.out];rfl,by first | exact BL.out | exact BL.out.alloc BL.out.size _⟩
   . have ht2:(t.toList == [])=false:=by simpa using ht
     have HS:Hid (ZC 10 0 t m nk nc=false):=by
      show _=_;simp [ZC,numB,modB,txtB,txtK,tkB,ZG,ZH,ZJ,ZI,inB,ht,hm1]
     have BL:Hid (Bz w (w.alloc (.cells #[.int .i64 10,.int .i64 0,.string t,.string m,.slice p nk c,.slice q nc c'] 108))):=(sqN _ _);go_enter func94,ntmps94;go_wp2;go_ret;exact ⟨by rw [HS.out];rfl,by first | exact BL.out | exact BL.out.alloc BL.out.size _⟩
 obtain rfl:=hn0 k0;obtain rfl:=hc0 k10;have hm1:=hm k8;have hm2:(m.toList == [])=true:=(by simpa using hm1);clear hm hn0 hc0 hm1
 have HS:Hid (ZC k 0 t m nk 0=false):=by
  show _=_
  (have:inB k 0 10=false:=by (simp [inB];omega));simp [ZC,this]
 have BL:Hid (Bz w (w.alloc (.cells #[.int .i64 k,.int .i64 0,.string t,.string m,.slice p nk c,.slice q 0 c'] 108))):=(sqN _ _);go_enter func94,ntmps94;go_wp2;go_ret;exact ⟨by rw [HS.out];rfl,by first | exact BL.out | exact BL.out.alloc BL.out.size _⟩
def RgC (d:Nat):Prop :=
 ∀ (w:World) (cs:List Value) (x:Ex) (pat:Bool) (deep:Int),HEx w All d cs x->-1<=deep->deep<=40->Calls prog 62 #[.agg cs.toArray,.bool pat,.int .i64 deep] w λe w'=>e=.returned (.bool (exOk d x pat deep))/\Bz w w'
def ClC (d:Nat):Prop :=
 ∀ (w:World) (cs:List Value) (c:Cl) (pats deep:Int),HCl w All (HEx w All d) cs c->-1<=deep->deep<=40->Calls prog 37 #[.agg cs.toArray,.int .i64 pats,.int .i64 deep] w λe w'=>e=.returned (.bool (clB (λy q=>exOk d y q deep) c pats))/\Bz w w'
theorem Zev {d:Nat} (hE:RgC d):ClC d:=by
 intro w cs c pats deep h hd0 hd1;obtain ⟨pv,bv,rfl,f0,f1⟩:=h;obtain ⟨ps,bs⟩:=c;simp only at f0 f1;obtain ⟨p,cap,rfl,hcl,hcm,hx⟩:=f0;obtain ⟨q,cap',rfl,hcl',hcm',hy⟩:=f1;have hnb:=sqM hcl hcm;have hmb:=sqM hcl' hcm';have hv:clB (λy q=>exOk d y q deep) (ps,bs) pats=(decide ((ps.length:Int)=pats) && (inB bs.length 1 20 && (ps.all (λy=>exOk d y true deep) && bs.all (λy=>exOk d y false deep)))):=rfl;rw [hv];clear hv;generalize hn:ps.length=n at *;generalize hm:bs.length=m at *;have HN:=hid hn;have HM:=hid hm;have HX:=hid hx;have HY:=hid hy;obtain ⟨W1,hW1⟩:∃ W1,W1=w.alloc (.cells #[.slice p n cap,.slice q m cap'] 64):=⟨_,rfl⟩;have bA:Hid (Blk W1 w.heap.size #[.slice p n cap,.slice q m cap'] 64):=(by show Blk _ _ _ _;rw [hW1];exact Blk.new);have B1:Hid (Bz w W1):=(by show Below _ _ _;rw [hW1];exact (sqN _ _));have HW1:=hid hW1;clear hx hy hn hm hW1;by_cases c1:(n:Int)=pats
 . subst c1
   cases hin:inB m 1 20 with
   | true =>
    go_enter func37,ntmps37;go_wp2_with (first | (go_at_call 34;go_must (refine (ZP _ _ _ _).mono ?_;rintro e w9 ⟨rfl,rfl⟩;rw [hin])));rw [<-HW1.out]
    go_loopw [7] (λiv wr=>∃ k1:Nat,k1<=n/\iv=.int .i64 k1/\Hid ((ps.take k1).all (λy=>exOk d y true deep)=true)/\Hid (Ze All W1 wr)/\Bz w wr) (λiv _=>n - (intOf iv).toNat)
    case atStart=>exact ⟨0,Nat.zero_le _,rfl,by show _=_;simp,sqS,B1.out⟩
    case round =>
     obtain ⟨k1,hk,rfl,hall,hso,hb⟩:=hrel;have HB:=hid hb;have b1:=bA.out.same_on hso.out;obtain ⟨xa0,xa1⟩:=sqB2 b1;clear b1;by_cases hlt:k1<n
     . obtain ⟨x,hxk⟩:=sqA (l:=ps) (k:=k1) HN.out hlt
       obtain ⟨g,off,rfl,-,hgl,hat⟩:=HX.out (sqE hxk);obtain ⟨cs,hcsl,hcs,r1⟩:=hat k1 x hxk;have E1:∀ w',Ze All wr w'->HEx w' All d cs x:=λw' hw=>r1.mono (Ze.trans (sqO hb) hw) sqj;obtain ⟨c0,c1,c2,c3,c4,c5,rfl⟩:=len6 hcsl;obtain ⟨a0,a1,a2,a3,a4,a5⟩:=sqC6 hcs (by omega);rw [<-hb.cell (p:=⟨g,_,none⟩) hgl] at a0 a1 a2 a3 a4 a5;simp at a0 a1 a2 a3 a4 a5;have hki:(k1:Int)<(n:Int):=(by omega);have hk0:=sqI k1;clear hb hcs hat hcsl r1;generalize hcv:(λy=>exOk d y true deep) x=cv;have HCV:=hid hcv;have HC2:Hid (cv=true->(ps.take (k1+1)).all (λy=>exOk d y true deep)=true):=λh=>ZaC _ ps k1 x hxk hall.out (hcv.trans h);have HC3:Hid (cv=false->ps.all (λy=>exOk d y true deep)=false):=λh=>Zbk _ ps k1 x hxk (hcv.trans h);clear hcv;go_wp2_with fail;refine (hE _ _ x true deep (E1 _ sqS) (by omega) (by omega)).mono ?_;rintro e w4 ⟨rfl,hb4⟩;have HB4:=hid (HB.out.trans (hb4.mono HB.out.size));have HS4:=hid (hso.out.trans (sqO hb4));rw [show exOk d x true deep=cv from HCV.out];clear hb4
       cases cv with
       | true =>
        have HT:=HC2.out rfl;clear HC2 HC3 HCV;have HT':Hid _:=HT;clear HT;go_wp2_with fail;exact ⟨⟨k1+1,by omega,by go_num,HT'.out,HS4.out,HB4.out⟩,by simp [intOf];omega⟩
       | false =>
        have HF:=hid (HC3.out rfl);clear HC2 HC3 HCV;go_wp2;go_ret;exact ⟨by first | (rw [HF.out];simp) | simp [HF.out],HB4.out⟩
     . have HD_ps:Hid (ps.all (λy=>exOk d y true deep)=true):=by
        have:=hall.out
        rwa [List.take_of_length_le (by rw [HN.out];omega)] at this
       clear hb;go_wp2_with fail;clear xa0 xa1
       go_loopw [8] (λiv wr=>∃ k2:Nat,k2<=m/\iv=.int .i64 k2/\Hid ((bs.take k2).all (λy=>exOk d y false deep)=true)/\Hid (Ze All W1 wr)/\Bz w wr) (λiv _=>m - (intOf iv).toNat)
       case atStart=>exact ⟨0,Nat.zero_le _,rfl,by show _=_;simp,hso.out,HB.out⟩
       case round =>
        obtain ⟨k2,hk,rfl,hall,hso,hb⟩:=hrel;have HB:=hid hb;have b1:=bA.out.same_on hso.out;obtain ⟨xa0,xa1⟩:=sqB2 b1;clear b1;by_cases hlt:k2<m
        . obtain ⟨x,hxk⟩:∃ x,bs[k2]?=some x:=⟨bs[k2]'(by rw [HM.out];exact hlt),List.getElem?_eq_getElem _⟩
          obtain ⟨g,off,rfl,-,hgl,hat⟩:=HY.out (sqE hxk);obtain ⟨cs,hcsl,hcs,r1⟩:=hat k2 x hxk;have E1:∀ w',Ze All wr w'->HEx w' All d cs x:=λw' hw=>r1.mono (Ze.trans (sqO hb) hw) sqj;obtain ⟨c0,c1,c2,c3,c4,c5,rfl⟩:=len6 hcsl;obtain ⟨a0,a1,a2,a3,a4,a5⟩:=sqC6 hcs (by omega);rw [<-hb.cell (p:=⟨g,_,none⟩) hgl] at a0 a1 a2 a3 a4 a5;simp at a0 a1 a2 a3 a4 a5;have hki:(k2:Int)<(m:Int):=(by omega);have hk0:=sqI k2;clear hb hcs hat hcsl r1;generalize hcv:(λy=>exOk d y false deep) x=cv;have HCV:=hid hcv;have HC2:Hid (cv=true->(bs.take (k2+1)).all (λy=>exOk d y false deep)=true):=λh=>ZaC _ bs k2 x hxk hall.out (hcv.trans h);have HC3:Hid (cv=false->bs.all (λy=>exOk d y false deep)=false):=λh=>Zbk _ bs k2 x hxk (hcv.trans h);clear hcv;go_wp2_with fail;refine (hE _ _ x false deep (E1 _ sqS) (by omega) (by omega)).mono ?_;rintro e w4 ⟨rfl,hb4⟩;have HB4:=hid (HB.out.trans (hb4.mono HB.out.size));have HS4:=hid (hso.out.trans (sqO hb4));rw [show exOk d x false deep=cv from HCV.out];clear hb4
          cases cv with
          | true =>
           have HT:=HC2.out rfl;clear HC2 HC3 HCV;have HT':Hid _:=HT;clear HT;go_wp2_with fail;exact ⟨⟨k2+1,by omega,by go_num,HT'.out,HS4.out,HB4.out⟩,by simp [intOf];omega⟩
          | false =>
           have HF:=hid (HC3.out rfl);clear HC2 HC3 HCV;go_wp2;go_ret;exact ⟨by first | (rw [HF.out];simp) | simp [HF.out],HB4.out⟩
        . have HD_bs:Hid (bs.all (λy=>exOk d y false deep)=true):=by
           have:=hall.out
           rwa [List.take_of_length_le (by rw [HM.out];omega)] at this
          clear hb;go_wp2;go_ret;exact ⟨by rw [HD_ps.out,HD_bs.out];simp,HB.out⟩
   | false =>
    go_enter func37,ntmps37;go_wp2_with (first | (go_at_call 34;go_must (refine (ZP _ _ _ _).mono ?_;rintro e w9 ⟨rfl,rfl⟩;rw [hin])));rw [<-HW1.out];go_ret;exact ⟨by simp,B1.out⟩
 . have c2:((n:Int) != pats)=true:=by simpa using c1
   go_enter func37,ntmps37;go_wp2;rw [<-HW1.out];go_ret;exact ⟨by simp [c1],B1.out⟩
theorem Zh7 {d:Nat} (h1:RgC d) (h2:ClC d):RgC (d+1):=by
 intro w cs x pat deep h hd0 hd1;obtain ⟨kv,cv,rfl,-,-,hts,hms,f0,f1⟩:=h;obtain ⟨kx,nx,tx,mx,ks,cl⟩:=x;simp only [Ex.kind,Ex.n,Ex.text,Ex.mod,Ex.kids,Ex.clauses] at *;obtain ⟨p,cap,rfl,hcl,hcm,hx⟩:=f0;obtain ⟨q,cap',rfl,hcl',hcm',hy⟩:=f1;have hnb:=sqM hcl hcm;have hmb:=sqM hcl' hcm';have hv:=ZhQ d kx nx tx mx ks cl pat deep;rw [hv];clear hv;generalize hn:ks.length=n at *;generalize hm:cl.length=m at *;have HN:=hid hn;have HM:=hid hm;have HX:=hid hx;have HY:=hid hy;clear hx hy hn hm;by_cases c1:deep<0
 . rw [decide_eq_false (by omega)]
   go_enter func62,ntmps62;go_wp2;go_ret;exact ⟨by simp,(sqN _ _)⟩
 rw [decide_eq_true (by omega:0<=deep)]
 cases hpl:ZC kx nx tx mx n m with
 | false =>
  go_enter func62,ntmps62;go_wp2_with fail;refine (Zbf _ _ _ _ _ _ _ _ _ _ _ hts hms hnb hmb).mono ?_;rintro e W1 ⟨rfl,hb⟩;rw [hpl];have B1:Hid (Bz w W1):=((sqN _ _)).trans (hb.mono (by simp));have bA:Hid (Blk W1 w.heap.size #[.int .i64 kx,.int .i64 nx,.string tx,.string mx,.slice p n cap,.slice q m cap'] 108):=(Blk.new (w:=w)).next hb;obtain ⟨xa0,xa1,xa2,xa3,xa4,xa5⟩:=sqB6 bA.out;clear hb;go_wp2;go_ret;exact ⟨by simp,B1.out⟩
 | true =>
  obtain ⟨r0,r1⟩:=Zde hpl
  cases pat with
  | true =>
   by_cases c6:kx<=6
   . have h6:inB kx 0 6=true:=by simp [inB];omega
     have hpt:patB kx true=true:=(by simp [patB];omega);rw [hpt,Bool.true_or];simp only [Bool.true_and];go_enter func62,ntmps62;go_wp2_with fail;refine (Zbf _ _ _ _ _ _ _ _ _ _ _ hts hms hnb hmb).mono ?_;rintro e W1 ⟨rfl,hb⟩;rw [hpl];have B1:Hid (Bz w W1):=((sqN _ _)).trans (hb.mono (by simp));have bA:Hid (Blk W1 w.heap.size #[.int .i64 kx,.int .i64 nx,.string tx,.string mx,.slice p n cap,.slice q m cap'] 108):=(Blk.new (w:=w)).next hb;obtain ⟨xa0,xa1,xa2,xa3,xa4,xa5⟩:=sqB6 bA.out;clear hb;go_wp2_with (first | (go_at_call 34;go_must (refine (ZP _ _ _ _).mono ?_;rintro e w9 ⟨rfl,hw9⟩;rw [h6,hw9];clear hw9 w9)));clear xa0 xa1 xa2 xa3 xa4 xa5
     go_loopw [7] (λiv wr=>∃ k1:Nat,k1<=n/\iv=.int .i64 k1/\Hid (Zaz (λy q=>exOk d y q (deep - 1)) (ks.take k1) true true=true)/\Hid (Ze All W1 wr)/\Bz w wr) (λiv _=>n - (intOf iv).toNat)
     case atStart=>exact ⟨0,Nat.zero_le _,rfl,ZdL _ _ _ _,sqS,B1.out⟩
     case round =>
      obtain ⟨k1,hk,rfl,hall,hso,hb⟩:=hrel;have HB:=hid hb;have b1:=bA.out.same_on hso.out;have hlw:=b1.lt;obtain ⟨xa0,xa1,xa2,xa3,xa4,xa5⟩:=sqB6 b1;clear b1;by_cases hlt:k1<n
      . obtain ⟨x,hxk⟩:=sqA (l:=ks) (k:=k1) HN.out hlt
        obtain ⟨g,off,rfl,-,hgl,hat⟩:=HX.out (sqE hxk);obtain ⟨cs,hcsl,hcs,r1⟩:=hat k1 x hxk;have E1:∀ w',Ze All wr w'->HEx w' All d cs x:=λw' hw=>r1.mono (Ze.trans (sqO hb) hw) sqj;obtain ⟨c0,c1,c2,c3,c4,c5,rfl⟩:=len6 hcsl;obtain ⟨a0,a1,a2,a3,a4,a5⟩:=sqC6 hcs (by omega);rw [<-hb.cell (p:=⟨g,_,none⟩) hgl] at a0 a1 a2 a3 a4 a5;simp at a0 a1 a2 a3 a4 a5;have hki:(k1:Int)<(n:Int):=(by omega);have hk0:=sqI k1;have hgw:g<wr.heap.size:=Nat.lt_of_lt_of_le hgl hb.size;have qa0:∀ m:Wd (λw'=>Ze All wr w'/\Bz w w'),m.val.cell? ⟨g,off+k1 * 6,none⟩=some c0:=λm=>(sqK (m.ok.1.2 g trivial hgw)).trans a0;have qa1:∀ m:Wd (λw'=>Ze All wr w'/\Bz w w'),m.val.cell? ⟨g,off+k1 * 6+1,none⟩=some c1:=λm=>(sqK (m.ok.1.2 g trivial hgw)).trans a1;have qa2:∀ m:Wd (λw'=>Ze All wr w'/\Bz w w'),m.val.cell? ⟨g,off+k1 * 6+2,none⟩=some c2:=λm=>(sqK (m.ok.1.2 g trivial hgw)).trans a2;have qa3:∀ m:Wd (λw'=>Ze All wr w'/\Bz w w'),m.val.cell? ⟨g,off+k1 * 6+3,none⟩=some c3:=λm=>(sqK (m.ok.1.2 g trivial hgw)).trans a3;have qa4:∀ m:Wd (λw'=>Ze All wr w'/\Bz w w'),m.val.cell? ⟨g,off+k1 * 6+4,none⟩=some c4:=λm=>(sqK (m.ok.1.2 g trivial hgw)).trans a4;have qa5:∀ m:Wd (λw'=>Ze All wr w'/\Bz w w'),m.val.cell? ⟨g,off+k1 * 6+5,none⟩=some c5:=λm=>(sqK (m.ok.1.2 g trivial hgw)).trans a5;have qx0:∀ m:Wd (λw'=>Ze All wr w'/\Bz w w'),m.val.cell? ⟨w.heap.size,0,none⟩=some (.int .i64 kx):=λm=>(sqK (m.ok.1.2 w.heap.size trivial hlw)).trans xa0;have qx4:∀ m:Wd (λw'=>Ze All wr w'/\Bz w w'),m.val.cell? ⟨w.heap.size,4,none⟩=some (.slice (some ⟨g,off,none⟩) n cap):=λm=>(sqK (m.ok.1.2 w.heap.size trivial hlw)).trans xa4;clear hb hcs hat hcsl r1;generalize hcv:exOk d x true (deep - 1)=cv;have HCV:=hid hcv;have HC2:Hid (cv=true->Zaz (λy q=>exOk d y q (deep - 1)) (ks.take (k1+1)) true true=true):=λh=>Zch _ ks _ _ k1 x hxk hall.out (by rw [ite_self];exact hcv.trans h);have HC3:Hid (cv=false->Zaz (λy q=>exOk d y q (deep - 1)) ks true true=false):=λh=>Zdw _ ks _ _ k1 x hxk (by rw [ite_self];exact hcv.trans h);clear hcv;go_wp2;have hCne:Nonempty (Wd (λw'=>Ze All wr w'/\Bz w w')):=⟨⟨wr.drew,⟨sqS,HB.out.drew⟩⟩⟩;refine Zw (λw'=>Ze All wr w'/\Bz w w') (by kernel_rfl) (by kernel_rfl) ⟨sqS,HB.out.drew⟩ ?_
        repeat (go_big_quiet_step (first | (rename_i m;go_at_call 62;refine (h1 _ _ x true (deep - 1) (E1 _ m.ok.1) (by omega) (by omega)).mono ?_;rintro e w1 ⟨rfl,hb1⟩;exact ⟨by rw [HCV.out],⟨⟨w1,⟨(Ze.trans m.ok.1 (sqO hb1)),m.ok.2.trans (hb1.mono m.ok.2.size)⟩⟩,rfl⟩⟩)))
        refine wpQuiet_nil ?_;rintro _ ⟨mq,rfl⟩;have HB4:=hid mq.ok.2;have HS4:=hid (hso.out.trans mq.ok.1);generalize mq.val=w4 at HB4 HS4 ⊢;clear HCV
        cases cv with
        | true =>
         have HT':Hid _:=HC2.out rfl;clear HC2 HC3;go_wp2_with fail;exact ⟨⟨k1+1,by omega,by go_num,HT'.out,HS4.out,HB4.out⟩,by simp [intOf];omega⟩
        | false =>
         have HF:Hid _:=HC3.out rfl;clear HC2 HC3;go_wp2;go_ret;exact ⟨by rw [HF.out];simp,HB4.out⟩
      . have HD_ks:Hid (Zaz (λy q=>exOk d y q (deep - 1)) ks true true=true):=by
         have:=hall.out
         rwa [List.take_of_length_le (by rw [HN.out];omega)] at this
        clear hb;go_wp2_with fail;clear xa0 xa1 xa2 xa3 xa4 xa5
        go_loopw [8] (λiv wr=>∃ k2:Nat,k2<=m/\iv=.int .i64 k2/\Hid ((cl.take k2).all (λy=>clB (λz q=>exOk d z q (deep - 1)) y 1)=true)/\Hid (Ze All W1 wr)/\Bz w wr) (λiv _=>m - (intOf iv).toNat)
        case atStart=>exact ⟨0,Nat.zero_le _,rfl,by show _=_;simp,hso.out,HB.out⟩
        case round =>
         obtain ⟨k2,hk,rfl,hall,hso,hb⟩:=hrel;have HB:=hid hb;have b1:=bA.out.same_on hso.out;obtain ⟨xa0,xa1,xa2,xa3,xa4,xa5⟩:=sqB6 b1;clear b1;by_cases hlt:k2<m
         . obtain ⟨x,hxk⟩:∃ x,cl[k2]?=some x:=⟨cl[k2]'(by rw [HM.out];exact hlt),List.getElem?_eq_getElem _⟩
           obtain ⟨g,off,rfl,-,hgl,hat⟩:=HY.out (sqE hxk);obtain ⟨cs,hcsl,hcs,r1⟩:=hat k2 x hxk;have E1:∀ w',Ze All wr w'->HCl w' All (HEx w' All d) cs x:=λw' hw=>r1.mono (Ze.trans (sqO hb) hw) sqj (λ_ _ h=>h.mono (Ze.trans (sqO hb) hw) sqj);obtain ⟨c0,c1,rfl⟩:=len2 hcsl;obtain ⟨a0,a1⟩:=sqC2 hcs (by omega);rw [<-hb.cell (p:=⟨g,_,none⟩) hgl] at a0 a1;simp at a0 a1;have hki:(k2:Int)<(m:Int):=(by omega);have hk0:=sqI k2;clear hb hcs hat hcsl r1;generalize hcv:(λy=>clB (λz q=>exOk d z q (deep - 1)) y 1) x=cv;have HCV:=hid hcv;have HC2:Hid (cv=true->(cl.take (k2+1)).all (λy=>clB (λz q=>exOk d z q (deep - 1)) y 1)=true):=λh=>ZaC _ cl k2 x hxk hall.out (hcv.trans h);have HC3:Hid (cv=false->cl.all (λy=>clB (λz q=>exOk d z q (deep - 1)) y 1)=false):=λh=>Zbk _ cl k2 x hxk (hcv.trans h);clear hcv;go_wp2_with fail;refine (h2 _ _ x 1 (deep - 1) (E1 _ sqS) (by omega) (by omega)).mono ?_;rintro e w4 ⟨rfl,hb4⟩;have HB4:=hid (HB.out.trans (hb4.mono HB.out.size));have HS4:=hid (hso.out.trans (sqO hb4));rw [show clB (λz q=>exOk d z q (deep - 1)) x 1=cv from HCV.out];clear hb4
           cases cv with
           | true =>
            have HT:=HC2.out rfl;clear HC2 HC3 HCV;have HT':Hid _:=HT;clear HT;go_wp2_with fail;exact ⟨⟨k2+1,by omega,by go_num,HT'.out,HS4.out,HB4.out⟩,by simp [intOf];omega⟩
           | false =>
            have HF:=hid (HC3.out rfl);clear HC2 HC3 HCV;go_wp2;go_ret;exact ⟨by first | (rw [HF.out];simp) | simp [HF.out],HB4.out⟩
         . have HD_cl:Hid (cl.all (λy=>clB (λz q=>exOk d z q (deep - 1)) y 1)=true):=by
            have:=hall.out
            rwa [List.take_of_length_le (by rw [HM.out];omega)] at this
           clear hb;go_wp2;go_ret;exact ⟨by rw [HD_ks.out,HD_cl.out];simp,HB.out⟩
   . have h6:inB kx 0 6=false:=by simp [inB];omega
     have hpt:patB kx true=false:=(by simp [patB];omega);rw [hpt];go_enter func62,ntmps62;go_wp2_with fail;refine (Zbf _ _ _ _ _ _ _ _ _ _ _ hts hms hnb hmb).mono ?_;rintro e W1 ⟨rfl,hb⟩;rw [hpl];have B1:Hid (Bz w W1):=((sqN _ _)).trans (hb.mono (by simp));have bA:Hid (Blk W1 w.heap.size #[.int .i64 kx,.int .i64 nx,.string tx,.string mx,.slice p n cap,.slice q m cap'] 108):=(Blk.new (w:=w)).next hb;obtain ⟨xa0,xa1,xa2,xa3,xa4,xa5⟩:=sqB6 bA.out;clear hb;go_wp2_with (first | (go_at_call 34;go_must (refine (ZP _ _ _ _).mono ?_;rintro e w9 ⟨rfl,hw9⟩;rw [h6,hw9];clear hw9 w9)));go_ret;exact ⟨by simp,B1.out⟩
  | false =>
   by_cases k3:kx=3
   . subst k3
     have hpt:patB 3 false=false:=(by simp [patB]);rw [hpt];go_enter func62,ntmps62;go_wp2_with fail;refine (Zbf _ _ _ _ _ _ _ _ _ _ _ hts hms hnb hmb).mono ?_;rintro e W1 ⟨rfl,hb⟩;rw [hpl];have B1:Hid (Bz w W1):=((sqN _ _)).trans (hb.mono (by simp));have bA:Hid (Blk W1 w.heap.size #[.int .i64 3,.int .i64 nx,.string tx,.string mx,.slice p n cap,.slice q m cap'] 108):=(Blk.new (w:=w)).next hb;obtain ⟨xa0,xa1,xa2,xa3,xa4,xa5⟩:=sqB6 bA.out;clear hb;go_wp2;go_ret;exact ⟨by simp,B1.out⟩
   have hpt:patB kx false=true:=(by simp [patB,k3]);rw [hpt];by_cases k9:kx=9
   . subst k9
     have e9:(false || decide ((9:Int)=9))=true:=rfl;rw [e9];simp only [Bool.true_and];go_enter func62,ntmps62;go_wp2_with fail;refine (Zbf _ _ _ _ _ _ _ _ _ _ _ hts hms hnb hmb).mono ?_;rintro e W1 ⟨rfl,hb⟩;rw [hpl];have B1:Hid (Bz w W1):=((sqN _ _)).trans (hb.mono (by simp));have bA:Hid (Blk W1 w.heap.size #[.int .i64 9,.int .i64 nx,.string tx,.string mx,.slice p n cap,.slice q m cap'] 108):=(Blk.new (w:=w)).next hb;obtain ⟨xa0,xa1,xa2,xa3,xa4,xa5⟩:=sqB6 bA.out;clear hb;go_wp2_with fail;clear xa0 xa1 xa2 xa3 xa4 xa5
     go_loopw [7] (λiv wr=>∃ k1:Nat,k1<=n/\iv=.int .i64 k1/\Hid (Zaz (λy q=>exOk d y q (deep - 1)) (ks.take k1) true false=true)/\Hid (Ze All W1 wr)/\Bz w wr) (λiv _=>n - (intOf iv).toNat)
     case atStart=>exact ⟨0,Nat.zero_le _,rfl,ZdL _ _ _ _,sqS,B1.out⟩
     case round =>
      obtain ⟨k1,hk,rfl,hall,hso,hb⟩:=hrel;have HB:=hid hb;have b1:=bA.out.same_on hso.out;have hlw:=b1.lt;obtain ⟨xa0,xa1,xa2,xa3,xa4,xa5⟩:=sqB6 b1;clear b1;by_cases hlt:k1<n
      . obtain ⟨x,hxk⟩:=sqA (l:=ks) (k:=k1) HN.out hlt
        obtain ⟨g,off,rfl,-,hgl,hat⟩:=HX.out (sqE hxk);obtain ⟨cs,hcsl,hcs,r1⟩:=hat k1 x hxk;have E1:∀ w',Ze All wr w'->HEx w' All d cs x:=λw' hw=>r1.mono (Ze.trans (sqO hb) hw) sqj;obtain ⟨c0,c1,c2,c3,c4,c5,rfl⟩:=len6 hcsl;obtain ⟨a0,a1,a2,a3,a4,a5⟩:=sqC6 hcs (by omega);rw [<-hb.cell (p:=⟨g,_,none⟩) hgl] at a0 a1 a2 a3 a4 a5;simp at a0 a1 a2 a3 a4 a5;have hki:(k1:Int)<(n:Int):=(by omega);have hk0:=sqI k1;have hgw:g<wr.heap.size:=Nat.lt_of_lt_of_le hgl hb.size;have qa0:∀ m:Wd (λw'=>Ze All wr w'/\Bz w w'),m.val.cell? ⟨g,off+k1 * 6,none⟩=some c0:=λm=>(sqK (m.ok.1.2 g trivial hgw)).trans a0;have qa1:∀ m:Wd (λw'=>Ze All wr w'/\Bz w w'),m.val.cell? ⟨g,off+k1 * 6+1,none⟩=some c1:=λm=>(sqK (m.ok.1.2 g trivial hgw)).trans a1;have qa2:∀ m:Wd (λw'=>Ze All wr w'/\Bz w w'),m.val.cell? ⟨g,off+k1 * 6+2,none⟩=some c2:=λm=>(sqK (m.ok.1.2 g trivial hgw)).trans a2;have qa3:∀ m:Wd (λw'=>Ze All wr w'/\Bz w w'),m.val.cell? ⟨g,off+k1 * 6+3,none⟩=some c3:=λm=>(sqK (m.ok.1.2 g trivial hgw)).trans a3;have qa4:∀ m:Wd (λw'=>Ze All wr w'/\Bz w w'),m.val.cell? ⟨g,off+k1 * 6+4,none⟩=some c4:=λm=>(sqK (m.ok.1.2 g trivial hgw)).trans a4;have qa5:∀ m:Wd (λw'=>Ze All wr w'/\Bz w w'),m.val.cell? ⟨g,off+k1 * 6+5,none⟩=some c5:=λm=>(sqK (m.ok.1.2 g trivial hgw)).trans a5;have qx0:∀ m:Wd (λw'=>Ze All wr w'/\Bz w w'),m.val.cell? ⟨w.heap.size,0,none⟩=some (.int .i64 9):=λm=>(sqK (m.ok.1.2 w.heap.size trivial hlw)).trans xa0;have qx4:∀ m:Wd (λw'=>Ze All wr w'/\Bz w w'),m.val.cell? ⟨w.heap.size,4,none⟩=some (.slice (some ⟨g,off,none⟩) n cap):=λm=>(sqK (m.ok.1.2 w.heap.size trivial hlw)).trans xa4;clear hb hcs hat hcsl r1;by_cases hz:k1=0
        . have HIF:Hid ((if k1=0 then true else false)=true):=by show _=_;rw [if_pos hz]
          have hz2:((k1:Int) == 0)=true:=(by simp;omega);clear hz;generalize hcv:exOk d x true (deep - 1)=cv;have HCV:=hid hcv;have HC2:Hid (cv=true->Zaz (λy q=>exOk d y q (deep - 1)) (ks.take (k1+1)) true false=true):=λh=>Zch _ ks _ _ k1 x hxk hall.out (by rw [HIF.out];exact hcv.trans h);have HC3:Hid (cv=false->Zaz (λy q=>exOk d y q (deep - 1)) ks true false=false):=λh=>Zdw _ ks _ _ k1 x hxk (by rw [HIF.out];exact hcv.trans h);clear hcv;go_wp2;have hCne:Nonempty (Wd (λw'=>Ze All wr w'/\Bz w w')):=⟨⟨wr.drew,⟨sqS,HB.out.drew⟩⟩⟩;refine Zw (λw'=>Ze All wr w'/\Bz w w') (by kernel_rfl) (by kernel_rfl) ⟨sqS,HB.out.drew⟩ ?_
          repeat (go_big_quiet_step (first | (rename_i m;go_at_call 62;refine (h1 _ _ x true (deep - 1) (E1 _ m.ok.1) (by omega) (by omega)).mono ?_;rintro e w1 ⟨rfl,hb1⟩;exact ⟨by rw [HCV.out],⟨⟨w1,⟨(Ze.trans m.ok.1 (sqO hb1)),m.ok.2.trans (hb1.mono m.ok.2.size)⟩⟩,rfl⟩⟩)))
          refine wpQuiet_nil ?_;rintro _ ⟨mq,rfl⟩;have HB4:=hid mq.ok.2;have HS4:=hid (hso.out.trans mq.ok.1);generalize mq.val=w4 at HB4 HS4 ⊢;clear HCV
          cases cv with
          | true =>
           have HT':Hid _:=HC2.out rfl;clear HC2 HC3;go_wp2_with fail;exact ⟨⟨k1+1,by omega,by go_num,HT'.out,HS4.out,HB4.out⟩,by simp [intOf];omega⟩
          | false =>
           have HF:Hid _:=HC3.out rfl;clear HC2 HC3;go_wp2;go_ret;exact ⟨by rw [HF.out];simp,HB4.out⟩
        . have HIF:Hid ((if k1=0 then true else false)=false):=by show _=_;rw [if_neg hz]
          have hz2:((k1:Int) == 0)=false:=(by simp;omega);clear hz;generalize hcv:exOk d x false (deep - 1)=cv;have HCV:=hid hcv;have HC2:Hid (cv=true->Zaz (λy q=>exOk d y q (deep - 1)) (ks.take (k1+1)) true false=true):=λh=>Zch _ ks _ _ k1 x hxk hall.out (by rw [HIF.out];exact hcv.trans h);have HC3:Hid (cv=false->Zaz (λy q=>exOk d y q (deep - 1)) ks true false=false):=λh=>Zdw _ ks _ _ k1 x hxk (by rw [HIF.out];exact hcv.trans h);clear hcv;go_wp2;have hCne:Nonempty (Wd (λw'=>Ze All wr w'/\Bz w w')):=⟨⟨wr.drew,⟨sqS,HB.out.drew⟩⟩⟩;refine Zw (λw'=>Ze All wr w'/\Bz w w') (by kernel_rfl) (by kernel_rfl) ⟨sqS,HB.out.drew⟩ ?_
          repeat (go_big_quiet_step (first | (rename_i m;go_at_call 62;refine (h1 _ _ x false (deep - 1) (E1 _ m.ok.1) (by omega) (by omega)).mono ?_;rintro e w1 ⟨rfl,hb1⟩;exact ⟨by rw [HCV.out],⟨⟨w1,⟨(Ze.trans m.ok.1 (sqO hb1)),m.ok.2.trans (hb1.mono m.ok.2.size)⟩⟩,rfl⟩⟩)))
          refine wpQuiet_nil ?_;rintro _ ⟨mq,rfl⟩;have HB4:=hid mq.ok.2;have HS4:=hid (hso.out.trans mq.ok.1);generalize mq.val=w4 at HB4 HS4 ⊢;clear HCV
          cases cv with
          | true =>
           have HT':Hid _:=HC2.out rfl;clear HC2 HC3;go_wp2_with fail;exact ⟨⟨k1+1,by omega,by go_num,HT'.out,HS4.out,HB4.out⟩,by simp [intOf];omega⟩
          | false =>
           have HF:Hid _:=HC3.out rfl;clear HC2 HC3;go_wp2;go_ret;exact ⟨by rw [HF.out];simp,HB4.out⟩
      . have HD_ks:Hid (Zaz (λy q=>exOk d y q (deep - 1)) ks true false=true):=by
         have:=hall.out
         rwa [List.take_of_length_le (by rw [HN.out];omega)] at this
        clear hb;go_wp2_with fail;clear xa0 xa1 xa2 xa3 xa4 xa5
        go_loopw [8] (λiv wr=>∃ k2:Nat,k2<=m/\iv=.int .i64 k2/\Hid ((cl.take k2).all (λy=>clB (λz q=>exOk d z q (deep - 1)) y 1)=true)/\Hid (Ze All W1 wr)/\Bz w wr) (λiv _=>m - (intOf iv).toNat)
        case atStart=>exact ⟨0,Nat.zero_le _,rfl,by show _=_;simp,hso.out,HB.out⟩
        case round =>
         obtain ⟨k2,hk,rfl,hall,hso,hb⟩:=hrel;have HB:=hid hb;have b1:=bA.out.same_on hso.out;obtain ⟨xa0,xa1,xa2,xa3,xa4,xa5⟩:=sqB6 b1;clear b1;by_cases hlt:k2<m
         . obtain ⟨x,hxk⟩:∃ x,cl[k2]?=some x:=⟨cl[k2]'(by rw [HM.out];exact hlt),List.getElem?_eq_getElem _⟩
           obtain ⟨g,off,rfl,-,hgl,hat⟩:=HY.out (sqE hxk);obtain ⟨cs,hcsl,hcs,r1⟩:=hat k2 x hxk;have E1:∀ w',Ze All wr w'->HCl w' All (HEx w' All d) cs x:=λw' hw=>r1.mono (Ze.trans (sqO hb) hw) sqj (λ_ _ h=>h.mono (Ze.trans (sqO hb) hw) sqj);obtain ⟨c0,c1,rfl⟩:=len2 hcsl;obtain ⟨a0,a1⟩:=sqC2 hcs (by omega);rw [<-hb.cell (p:=⟨g,_,none⟩) hgl] at a0 a1;simp at a0 a1;have hki:(k2:Int)<(m:Int):=(by omega);have hk0:=sqI k2;clear hb hcs hat hcsl r1;generalize hcv:(λy=>clB (λz q=>exOk d z q (deep - 1)) y 1) x=cv;have HCV:=hid hcv;have HC2:Hid (cv=true->(cl.take (k2+1)).all (λy=>clB (λz q=>exOk d z q (deep - 1)) y 1)=true):=λh=>ZaC _ cl k2 x hxk hall.out (hcv.trans h);have HC3:Hid (cv=false->cl.all (λy=>clB (λz q=>exOk d z q (deep - 1)) y 1)=false):=λh=>Zbk _ cl k2 x hxk (hcv.trans h);clear hcv;go_wp2_with fail;refine (h2 _ _ x 1 (deep - 1) (E1 _ sqS) (by omega) (by omega)).mono ?_;rintro e w4 ⟨rfl,hb4⟩;have HB4:=hid (HB.out.trans (hb4.mono HB.out.size));have HS4:=hid (hso.out.trans (sqO hb4));rw [show clB (λz q=>exOk d z q (deep - 1)) x 1=cv from HCV.out];clear hb4
           cases cv with
           | true =>
            have HT:=HC2.out rfl;clear HC2 HC3 HCV;have HT':Hid _:=HT;clear HT;go_wp2_with fail;exact ⟨⟨k2+1,by omega,by go_num,HT'.out,HS4.out,HB4.out⟩,by simp [intOf];omega⟩
           | false =>
            have HF:=hid (HC3.out rfl);clear HC2 HC3 HCV;go_wp2;go_ret;exact ⟨by first | (rw [HF.out];simp) | simp [HF.out],HB4.out⟩
         . have HD_cl:Hid (cl.all (λy=>clB (λz q=>exOk d z q (deep - 1)) y 1)=true):=by
            have:=hall.out
            rwa [List.take_of_length_le (by rw [HM.out];omega)] at this
           clear hb;go_wp2;go_ret;exact ⟨by rw [HD_ks.out,HD_cl.out];simp,HB.out⟩
   . have e9:(false || decide (kx=9))=false:=by simp [k9]
     have k9b:(kx == 9)=false:=(by simpa using k9);have k3b:(kx == 3)=false:=(by simpa using k3);rw [e9];simp only [Bool.true_and];go_enter func62,ntmps62;go_wp2_with fail;refine (Zbf _ _ _ _ _ _ _ _ _ _ _ hts hms hnb hmb).mono ?_;rintro e W1 ⟨rfl,hb⟩;rw [hpl];have B1:Hid (Bz w W1):=((sqN _ _)).trans (hb.mono (by simp));have bA:Hid (Blk W1 w.heap.size #[.int .i64 kx,.int .i64 nx,.string tx,.string mx,.slice p n cap,.slice q m cap'] 108):=(Blk.new (w:=w)).next hb;obtain ⟨xa0,xa1,xa2,xa3,xa4,xa5⟩:=sqB6 bA.out;clear hb;go_wp2_with fail;clear xa0 xa1 xa2 xa3 xa4 xa5
     go_loopw [7] (λiv wr=>∃ k1:Nat,k1<=n/\iv=.int .i64 k1/\Hid (Zaz (λy q=>exOk d y q (deep - 1)) (ks.take k1) false false=true)/\Hid (Ze All W1 wr)/\Bz w wr) (λiv _=>n - (intOf iv).toNat)
     case atStart=>exact ⟨0,Nat.zero_le _,rfl,ZdL _ _ _ _,sqS,B1.out⟩
     case round =>
      obtain ⟨k1,hk,rfl,hall,hso,hb⟩:=hrel;have HB:=hid hb;have b1:=bA.out.same_on hso.out;have hlw:=b1.lt;obtain ⟨xa0,xa1,xa2,xa3,xa4,xa5⟩:=sqB6 b1;clear b1;by_cases hlt:k1<n
      . obtain ⟨x,hxk⟩:=sqA (l:=ks) (k:=k1) HN.out hlt
        obtain ⟨g,off,rfl,-,hgl,hat⟩:=HX.out (sqE hxk);obtain ⟨cs,hcsl,hcs,r1⟩:=hat k1 x hxk;have E1:∀ w',Ze All wr w'->HEx w' All d cs x:=λw' hw=>r1.mono (Ze.trans (sqO hb) hw) sqj;obtain ⟨c0,c1,c2,c3,c4,c5,rfl⟩:=len6 hcsl;obtain ⟨a0,a1,a2,a3,a4,a5⟩:=sqC6 hcs (by omega);rw [<-hb.cell (p:=⟨g,_,none⟩) hgl] at a0 a1 a2 a3 a4 a5;simp at a0 a1 a2 a3 a4 a5;have hki:(k1:Int)<(n:Int):=(by omega);have hk0:=sqI k1;have hgw:g<wr.heap.size:=Nat.lt_of_lt_of_le hgl hb.size;have qa0:∀ m:Wd (λw'=>Ze All wr w'/\Bz w w'),m.val.cell? ⟨g,off+k1 * 6,none⟩=some c0:=λm=>(sqK (m.ok.1.2 g trivial hgw)).trans a0;have qa1:∀ m:Wd (λw'=>Ze All wr w'/\Bz w w'),m.val.cell? ⟨g,off+k1 * 6+1,none⟩=some c1:=λm=>(sqK (m.ok.1.2 g trivial hgw)).trans a1;have qa2:∀ m:Wd (λw'=>Ze All wr w'/\Bz w w'),m.val.cell? ⟨g,off+k1 * 6+2,none⟩=some c2:=λm=>(sqK (m.ok.1.2 g trivial hgw)).trans a2;have qa3:∀ m:Wd (λw'=>Ze All wr w'/\Bz w w'),m.val.cell? ⟨g,off+k1 * 6+3,none⟩=some c3:=λm=>(sqK (m.ok.1.2 g trivial hgw)).trans a3;have qa4:∀ m:Wd (λw'=>Ze All wr w'/\Bz w w'),m.val.cell? ⟨g,off+k1 * 6+4,none⟩=some c4:=λm=>(sqK (m.ok.1.2 g trivial hgw)).trans a4;have qa5:∀ m:Wd (λw'=>Ze All wr w'/\Bz w w'),m.val.cell? ⟨g,off+k1 * 6+5,none⟩=some c5:=λm=>(sqK (m.ok.1.2 g trivial hgw)).trans a5;have qx0:∀ m:Wd (λw'=>Ze All wr w'/\Bz w w'),m.val.cell? ⟨w.heap.size,0,none⟩=some (.int .i64 kx):=λm=>(sqK (m.ok.1.2 w.heap.size trivial hlw)).trans xa0;have qx4:∀ m:Wd (λw'=>Ze All wr w'/\Bz w w'),m.val.cell? ⟨w.heap.size,4,none⟩=some (.slice (some ⟨g,off,none⟩) n cap):=λm=>(sqK (m.ok.1.2 w.heap.size trivial hlw)).trans xa4;clear hb hcs hat hcsl r1;generalize hcv:exOk d x false (deep - 1)=cv;have HCV:=hid hcv;have HC2:Hid (cv=true->Zaz (λy q=>exOk d y q (deep - 1)) (ks.take (k1+1)) false false=true):=λh=>Zch _ ks _ _ k1 x hxk hall.out (by rw [ite_self];exact hcv.trans h);have HC3:Hid (cv=false->Zaz (λy q=>exOk d y q (deep - 1)) ks false false=false):=λh=>Zdw _ ks _ _ k1 x hxk (by rw [ite_self];exact hcv.trans h);clear hcv;go_wp2;have hCne:Nonempty (Wd (λw'=>Ze All wr w'/\Bz w w')):=⟨⟨wr.drew,⟨sqS,HB.out.drew⟩⟩⟩;refine Zw (λw'=>Ze All wr w'/\Bz w w') (by kernel_rfl) (by kernel_rfl) ⟨sqS,HB.out.drew⟩ ?_
        repeat (go_big_quiet_step (first | (rename_i m;go_at_call 62;refine (h1 _ _ x false (deep - 1) (E1 _ m.ok.1) (by omega) (by omega)).mono ?_;rintro e w1 ⟨rfl,hb1⟩;exact ⟨by rw [HCV.out],⟨⟨w1,⟨(Ze.trans m.ok.1 (sqO hb1)),m.ok.2.trans (hb1.mono m.ok.2.size)⟩⟩,rfl⟩⟩)))
        refine wpQuiet_nil ?_;rintro _ ⟨mq,rfl⟩;have HB4:=hid mq.ok.2;have HS4:=hid (hso.out.trans mq.ok.1);generalize mq.val=w4 at HB4 HS4 ⊢;clear HCV
        cases cv with
        | true =>
         have HT':Hid _:=HC2.out rfl;clear HC2 HC3;go_wp2_with fail;exact ⟨⟨k1+1,by omega,by go_num,HT'.out,HS4.out,HB4.out⟩,by simp [intOf];omega⟩
        | false =>
         have HF:Hid _:=HC3.out rfl;clear HC2 HC3;go_wp2;go_ret;exact ⟨by rw [HF.out];simp,HB4.out⟩
      . have HD_ks:Hid (Zaz (λy q=>exOk d y q (deep - 1)) ks false false=true):=by
         have:=hall.out
         rwa [List.take_of_length_le (by rw [HN.out];omega)] at this
        clear hb;go_wp2_with fail;clear xa0 xa1 xa2 xa3 xa4 xa5
        go_loopw [8] (λiv wr=>∃ k2:Nat,k2<=m/\iv=.int .i64 k2/\Hid ((cl.take k2).all (λy=>clB (λz q=>exOk d z q (deep - 1)) y 1)=true)/\Hid (Ze All W1 wr)/\Bz w wr) (λiv _=>m - (intOf iv).toNat)
        case atStart=>exact ⟨0,Nat.zero_le _,rfl,by show _=_;simp,hso.out,HB.out⟩
        case round =>
         obtain ⟨k2,hk,rfl,hall,hso,hb⟩:=hrel;have HB:=hid hb;have b1:=bA.out.same_on hso.out;obtain ⟨xa0,xa1,xa2,xa3,xa4,xa5⟩:=sqB6 b1;clear b1;by_cases hlt:k2<m
         . obtain ⟨x,hxk⟩:∃ x,cl[k2]?=some x:=⟨cl[k2]'(by rw [HM.out];exact hlt),List.getElem?_eq_getElem _⟩
           obtain ⟨g,off,rfl,-,hgl,hat⟩:=HY.out (sqE hxk);obtain ⟨cs,hcsl,hcs,r1⟩:=hat k2 x hxk;have E1:∀ w',Ze All wr w'->HCl w' All (HEx w' All d) cs x:=λw' hw=>r1.mono (Ze.trans (sqO hb) hw) sqj (λ_ _ h=>h.mono (Ze.trans (sqO hb) hw) sqj);obtain ⟨c0,c1,rfl⟩:=len2 hcsl;obtain ⟨a0,a1⟩:=sqC2 hcs (by omega);rw [<-hb.cell (p:=⟨g,_,none⟩) hgl] at a0 a1;simp at a0 a1;have hki:(k2:Int)<(m:Int):=(by omega);have hk0:=sqI k2;clear hb hcs hat hcsl r1;generalize hcv:(λy=>clB (λz q=>exOk d z q (deep - 1)) y 1) x=cv;have HCV:=hid hcv;have HC2:Hid (cv=true->(cl.take (k2+1)).all (λy=>clB (λz q=>exOk d z q (deep - 1)) y 1)=true):=λh=>ZaC _ cl k2 x hxk hall.out (hcv.trans h);have HC3:Hid (cv=false->cl.all (λy=>clB (λz q=>exOk d z q (deep - 1)) y 1)=false):=λh=>Zbk _ cl k2 x hxk (hcv.trans h);clear hcv;go_wp2_with fail;refine (h2 _ _ x 1 (deep - 1) (E1 _ sqS) (by omega) (by omega)).mono ?_;rintro e w4 ⟨rfl,hb4⟩;have HB4:=hid (HB.out.trans (hb4.mono HB.out.size));have HS4:=hid (hso.out.trans (sqO hb4));rw [show clB (λz q=>exOk d z q (deep - 1)) x 1=cv from HCV.out];clear hb4
           cases cv with
           | true =>
            have HT:=HC2.out rfl;clear HC2 HC3 HCV;have HT':Hid _:=HT;clear HT;go_wp2_with fail;exact ⟨⟨k2+1,by omega,by go_num,HT'.out,HS4.out,HB4.out⟩,by simp [intOf];omega⟩
           | false =>
            have HF:=hid (HC3.out rfl);clear HC2 HC3 HCV;go_wp2;go_ret;exact ⟨by first | (rw [HF.out];simp) | simp [HF.out],HB4.out⟩
         . have HD_cl:Hid (cl.all (λy=>clB (λz q=>exOk d z q (deep - 1)) y 1)=true):=by
            have:=hall.out
            rwa [List.take_of_length_le (by rw [HM.out];omega)] at this
           clear hb;go_wp2;go_ret;exact ⟨by rw [HD_ks.out,HD_cl.out];simp,HB.out⟩
theorem Zc6:∀ d,RgC d
 | 0=>λw cs x pat deep h _ _=>h.elim
 | d+1=>Zh7 (Zc6 d) (Zev (Zc6 d))
theorem Zgc (d:Nat):ClC d:=Zev (Zc6 d)
end
end Go.Proofs.YtacioihbhkcdcaaGreatDoor
