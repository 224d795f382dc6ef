/-
  SpecLexA SpecLexB SpecLexC SpecLexD SpecLex
-/
import Derived.Test.YtacioihbhkcdcaaGreatDoorP05
import Derived.Lib.Strings
set_option maxHeartbeats 16000000
set_option linter.unusedVariables false
set_option maxRecDepth 100000
namespace Go.Proofs.YtacioihbhkcdcaaGreatDoor
open Go.ChangeShapes Go.WideShapes Go.ChangeAt Go.RowKit
section
open Go.Proofs.Tryz
theorem ZjS {xs:List (List UInt8)} {i:Nat} {x t:List UInt8} (hlt:i<xs.length) (hx:x=xs.getD i []) (hc:x=t):true=decide (t ∈ xs):=by
 symm
 rw [decide_eq_true_eq,<-hc,hx,List.getD,List.getElem?_eq_getElem hlt];exact List.getElem_mem hlt
theorem Zhi (b cap:Nat) (xs:List (List UInt8)) (s:ByteArray) (w:World) (hn:xs.length<=4194304) (hcap:xs.length<=cap)
 (h:∀ i,i<xs.length->w.cell? ⟨b,i,none⟩=some (.string ⟨(xs.getD i []).toArray⟩)) :
 Calls prog 56 #[.slice (some ⟨b,0,none⟩) xs.length cap,.string s] w λe w'=>e=.returned (.bool (xs.contains s.data.toList))/\w'=w:=by
 have H:=hid h;clear h;go_enter func56,ntmps56;go_wp2
 go_loop [5] (λiv=>∃ i:Nat,i<=xs.length/\iv=.int .i64 i/\∀ j,j<i->xs.getD j []≠s.data.toList) (λiv=>xs.length - (intOf iv).toNat)
 case atStart=>exact ⟨0,Nat.zero_le _,rfl,λj hj=>by omega⟩
 case round =>
  obtain ⟨i,hi,rfl,hno⟩:=hrel;have HN:=hid hno;clear hno;by_cases hlt:i<xs.length
  . have e1:=H.out i hlt
    obtain ⟨x,hx⟩:∃ x,x=xs.getD i []:=⟨_,rfl⟩;rw [<-hx] at e1;have HX:=hid hx;clear hx;have hts:=Lib.toList_data s;by_cases hc:x=s.data.toList
    . have hb:(x == s.toList)=true:=by rw [hts,hc];simp
      have HC:=hid hc;clear hc hts;go_wp2
      all_goals go_ret
      all_goals exact ⟨ZO (ZjS hlt HX.out HC.out),rfl⟩
    . have hb:(x == s.toList)=false:=by rw [hts];simpa using hc
      have HC:=hid hc;clear hc hts;go_wp2
      all_goals go_round
      case rel=>exact ⟨i+1,by omega,by go_num,λj hj=>by
       rcases Nat.lt_or_ge j i with h' | h'
       . exact HN.out j h'
       . obtain rfl:j=i:=by omega
         rw [<-HX.out];exact HC.out⟩
      case measure=>simp [intOf];omega
  . go_wp2
    go_ret;refine ⟨ZO ?_,rfl⟩
    symm
    rw [Bool.eq_false_iff];intro hcon;obtain ⟨j,hj,he⟩:=List.getElem_of_mem (of_decide_eq_true hcon);exact HN.out j (by omega) (by rw [List.getD,List.getElem?_eq_getElem hj];exact he)
theorem Zcl (s:ByteArray) (w:World) (hs:s.size<=maxLen) :
 Calls prog 55 #[.string s] w λe w'=>(∃ k:Int,∃ ok:Bool,e=.returned (.tuple #[.agg #[.int .i64 k,.string s,.int .i64 0,.int .i64 0],.bool ok])/\nameKindM s.data.toList=(if ok=true then some k else none))/\Bz w w':=by
 have hs':=hs;unfold maxLen at hs;have eb:Zad s.data.toList=s:=(by unfold Zad;simp)
 have ha:atomB s=true\/atomB s=false:=by cases atomB s <;> simp
 rcases ha with ha | ha
 . go_enter func55,ntmps55
   go_wp2_with (go_at_call 33;go_must (refine (Zr _ _ hs').mono ?_;rintro e w' ⟨rfl,rfl⟩));refine bodyPost_ret (v:=.tuple #[.agg #[.int .i64 0,.string s,.int .i64 0,.int .i64 0],.bool true]) (by simp [results,results55,go_sem]) rfl ⟨⟨0,true,rfl,by simp [nameKindM,eb,ha]⟩,?_⟩;exact (sqN _ _)
 . have hv:varB s=true\/varB s=false:=by cases varB s <;> simp
   rcases hv with hv | hv
   . go_enter func55,ntmps55
     go_wp2_with (first
      | (go_at_call 33;go_must (refine (Zr _ _ hs').mono ?_;rintro e w' ⟨rfl,rfl⟩))
      | (go_at_call 91;go_must (refine (Z8 _ _ hs').mono ?_;rintro e w' ⟨rfl,rfl⟩)))
     refine bodyPost_ret (v:=.tuple #[.agg #[.int .i64 1,.string s,.int .i64 0,.int .i64 0],.bool true]) (by simp [results,results55,go_sem]) rfl ⟨⟨1,true,rfl,by simp [nameKindM,eb,ha,hv]⟩,?_⟩;exact (sqN _ _)
   . have hk:keyB s=true\/keyB s=false:=by cases keyB s <;> simp
     rcases hk with hk | hk
     . go_enter func55,ntmps55
       go_wp2_with (first
        | (go_at_call 33;go_must (refine (Zr _ _ hs').mono ?_;rintro e w' ⟨rfl,rfl⟩))
        | (go_at_call 91;go_must (refine (Z8 _ _ hs').mono ?_;rintro e w' ⟨rfl,rfl⟩))
        | (go_at_call 61;go_must (refine (Zcg _ _).mono ?_;rintro e w' ⟨rfl,rfl⟩)))
       refine bodyPost_ret (v:=.tuple #[.agg #[.int .i64 3,.string s,.int .i64 0,.int .i64 0],.bool true]) (by simp [results,results55,go_sem]) rfl ⟨⟨3,true,rfl,by simp [nameKindM,eb,ha,hv,hk]⟩,?_⟩;exact (sqN _ _)
     . have hts:=Lib.toList_data s
       have hu:(s.toList == [95])=true\/(s.toList == [95])=false:=by cases (s.toList == [95]) <;> simp
       rcases hu with hu | hu
       . have hu':s.data.toList = [95]:=by rw [hts] at hu;simpa using hu
         have HU:=hid hu';clear hu' hts;go_enter func55,ntmps55
         go_wp2_with (first
          | (go_at_call 33;go_must (refine (Zr _ _ hs').mono ?_;rintro e w' ⟨rfl,rfl⟩))
          | (go_at_call 91;go_must (refine (Z8 _ _ hs').mono ?_;rintro e w' ⟨rfl,rfl⟩))
          | (go_at_call 61;go_must (refine (Zcg _ _).mono ?_;rintro e w' ⟨rfl,rfl⟩)))
         refine bodyPost_ret (v:=.tuple #[.agg #[.int .i64 3,.string s,.int .i64 0,.int .i64 0],.bool true]) (by simp [results,results55,go_sem]) rfl ⟨⟨3,true,rfl,by rw [nameKindM,eb,ha,hv,hk];simp [HU.out]⟩,?_⟩;exact (sqN _ _)
       . have hu':¬ s.data.toList = [95]:=by rw [hts] at hu;simpa using hu
         have HU:=hid hu';clear hu' hts;go_enter func55,ntmps55
         go_wp2_with (first
          | (go_at_call 33;go_must (refine (Zr _ _ hs').mono ?_;rintro e w' ⟨rfl,rfl⟩))
          | (go_at_call 91;go_must (refine (Z8 _ _ hs').mono ?_;rintro e w' ⟨rfl,rfl⟩))
          | (go_at_call 61;go_must (refine (Zcg _ _).mono ?_;rintro e w' ⟨rfl,rfl⟩)))
         refine bodyPost_ret (v:=.tuple #[.agg #[.int .i64 3,.string s,.int .i64 0,.int .i64 0],.bool false]) (by simp [results,results55,go_sem]) rfl ⟨⟨3,false,rfl,by rw [nameKindM,eb,ha,hv,hk];simp [HU.out]⟩,?_⟩;exact (sqN _ _)
theorem Zae (s:ByteArray) (k:Nat) (h:k<s.size):s.data.toList.getD k 0=s[k]:=by
 have h':k<s.data.toList.length:=(by simpa using h);rw [List.getD,List.getElem?_eq_getElem h'];rfl
theorem ZiU (l:List UInt8) (i k:Nat) (hi:i<=k) (hk:k<l.length):cut l i (k+1)=cut l i k ++ [l.getD k 0]:=by
 unfold cut;rw [show k+1 - i=(k - i)+1 by omega,List.take_succ_eq_append_getElem (by rw [List.length_drop];omega)];simp [List.getElem_drop,show i+(k - i)=k by omega,List.getD,hk]
theorem ZgF (l:List UInt8) (i:Nat):cut l i i = []:=by simp [cut]
theorem Zc1 (l:List UInt8) (i k:Nat) (hk:k<=l.length):(cut l i k).length=k - i:=by
 unfold cut;rw [List.length_take,List.length_drop];omega
theorem Zaw (s:ByteArray) (i k:Nat):s.extract i k=Zad (cut s.data.toList i k):=by
 unfold Zad cut
 apply ByteArray.ext
 apply Array.ext'
 rw [ByteArray.data_extract,Array.toList_extract,List.extract_eq_take_drop]
def ZgG (l:List UInt8) (i:Nat) (tv:Value) (k:Int):Prop :=
 (∃ t k',Zaf l i 0=some (t,k')/\tv=t.agg/\k=(k':Int))\/(Zaf l i 0=none/\tv=.agg #[.int .i64 0,.string ⟨#[]⟩,.int .i64 0,.int .i64 0]/\k = -1)
theorem ZbT {l:List UInt8} {i:Nat} (hd:digB (l.getD i 0)=true) (h:¬ runEnd digB l i - i<=9):Zaf l i 0=none:=by
 simp only [Zaf];rw [if_pos hd,if_neg h]
theorem Zcm {l:List UInt8} {i k:Nat} (hd:digB (l.getD i 0)=true) (h:runEnd digB l i=k) (h9:k - i<=9):Zaf l i 0=some (⟨2,[],valOf (cut l i k),0⟩,k):=by
 simp only [Zaf];rw [if_pos hd,h,if_pos h9]
theorem ZeU (s:ByteArray) (i:Nat) (w:World) (hs:s.size<=4000) (hi:i<s.size) (hd:inB (s[i].toNat:Int) 48 57=true) :
 Calls prog 24 #[.string s,.int .i64 i] w λe w'=>(∃ tv k,e=.returned (.tuple #[tv,.int .i64 k])/\ZgG s.data.toList i tv k)/\Bz w w':=by
 have hb:=Zas s i hi;have hd0:digB (s.data.toList.getD i 0)=true:=(by rw [Zae s i hi];exact hd);have HD0:=hid hd0;have hll:s.data.toList.length=s.size:=(by simp);have HLL:=hid hll;clear hd0 hll;go_enter func24,ntmps24;go_wp2_with (go_at_call 53;go_must (refine (ZY _ _ hb.1 hb.2).mono ?_;rintro e w' ⟨rfl,rfl⟩))
 go_loopw [6,7] (λkv nv wr=>∃ k:Nat,i<=k/\k<=s.size/\k<=i+10/\kv=.int .i64 k/\nv=.int .i64 (valOf (cut s.data.toList i k))/\Zba (cut s.data.toList i k)=true/\runEnd digB s.data.toList i=runEnd digB s.data.toList k/\wr=w.alloc (.cells #[.int .i64 0,.string ⟨#[]⟩,.int .i64 0,.int .i64 0] 43)) (λkv _ _=>s.size - (intOf kv).toNat)
 case atStart=>exact ⟨i,Nat.le_refl _,by omega,by omega,rfl,by rw [ZgF];rfl,by rw [ZgF];rfl,rfl,rfl⟩
 case round =>
  obtain ⟨k,hik,hk,hk10,rfl,rfl,hall,hrun,rfl⟩:=hrel;have hv:=Zdx 10 (cut s.data.toList i k) (by rw [Zc1 _ _ _ (by rw [HLL.out];exact hk)];omega) hall;have hv1:valOf (cut s.data.toList i k)<10000000000:=hv.2;have hv0:0<=valOf (cut s.data.toList i k):=hv.1;have HA:=hid hall;have HR:=hid hrun;clear hv hall hrun;by_cases hlt:k<s.size
  . have hbk:=Zas s k hlt
    have hc:inB (s[k].toNat:Int) 48 57=true\/inB (s[k].toNat:Int) 48 57=false:=by cases inB (s[k].toNat:Int) 48 57 <;> simp
    have HG:=hid (Zae s k hlt)
    rcases hc with hc | hc
    . have hdb:=ZhZ _ hc
      have HC:=hid hc;by_cases h10:k<i+10
      . have hst:cut s.data.toList i (k+1)=cut s.data.toList i k ++ [s[k]]:=by rw [ZiU _ _ _ hik (by rw [HLL.out];exact hlt),HG.out]
        have HS:=hid hst;clear hst;go_wp2_with (go_at_call 53;go_must (refine (ZY _ _ hbk.1 hbk.2).mono ?_;rintro e w' ⟨rfl,rfl⟩))
        go_roundw
        case rel=>exact ⟨k+1,by omega,by omega,by omega,by go_num,by rw [HS.out,Zc0],by rw [HS.out];unfold Zba at *;rw [List.all_append,HA.out];simp [digB,HC.out],by rw [HR.out];exact ZaN _ _ _ (by rw [HLL.out];exact hlt) (by rw [HG.out];exact HC.out),(by first | rfl | trivial)⟩
        case measure=>simp [intOf];omega
      . have hno:¬ runEnd digB s.data.toList i - i<=9:=by have:=ZbE digB s.data.toList k;rw [HR.out];omega
        have HT:Hid _:=ZbT HD0.out hno;clear hno;go_wp2_with (go_at_call 53;go_must (refine (ZY _ _ hbk.1 hbk.2).mono ?_;rintro e w' ⟨rfl,rfl⟩));refine bodyPost_ret (v:=.tuple #[.agg #[.int .i64 0,.string ⟨#[]⟩,.int .i64 0,.int .i64 0],.int .i64 (-1)]) (by simp [results,results24,go_sem]) rfl ⟨⟨_,_,rfl,.inr ⟨HT.out,rfl,rfl⟩⟩,(sqN _ _)⟩
    . have hst:runEnd digB s.data.toList k=k:=Zag _ _ _ (.inr (by rw [HG.out];exact hc))
      by_cases h9:k - i<=9
      . have HT:Hid _:=Zcm HD0.out (HR.out.trans hst) h9
        clear hst;go_wp2_with (go_at_call 53;go_must (refine (ZY _ _ hbk.1 hbk.2).mono ?_;rintro e w' ⟨rfl,rfl⟩));refine bodyPost_ret (v:=.tuple #[.agg #[.int .i64 2,.string ⟨#[]⟩,.int .i64 (valOf (cut s.data.toList i k)),.int .i64 0],.int .i64 k]) (by simp [results,results24,go_sem]) rfl ⟨⟨_,_,rfl,.inl ⟨_,_,HT.out,rfl,rfl⟩⟩,(sqN _ _)⟩
      . have HT:Hid _:=ZbT HD0.out (by rw [HR.out,hst];exact h9)
        clear hst;go_wp2_with (go_at_call 53;go_must (refine (ZY _ _ hbk.1 hbk.2).mono ?_;rintro e w' ⟨rfl,rfl⟩));refine bodyPost_ret (v:=.tuple #[.agg #[.int .i64 0,.string ⟨#[]⟩,.int .i64 0,.int .i64 0],.int .i64 (-1)]) (by simp [results,results24,go_sem]) rfl ⟨⟨_,_,rfl,.inr ⟨HT.out,rfl,rfl⟩⟩,(sqN _ _)⟩
  . have hst:runEnd digB s.data.toList k=k:=Zag _ _ _ (.inl (by rw [HLL.out];omega))
    by_cases h9:k - i<=9
    . have HT:Hid _:=Zcm HD0.out (HR.out.trans hst) h9
      clear hst;go_wp2;refine bodyPost_ret (v:=.tuple #[.agg #[.int .i64 2,.string ⟨#[]⟩,.int .i64 (valOf (cut s.data.toList i k)),.int .i64 0],.int .i64 k]) (by simp [results,results24,go_sem]) rfl ⟨⟨_,_,rfl,.inl ⟨_,_,HT.out,rfl,rfl⟩⟩,(sqN _ _)⟩
    . have HT:Hid _:=ZbT HD0.out (by rw [HR.out,hst];exact h9)
      clear hst;go_wp2;refine bodyPost_ret (v:=.tuple #[.agg #[.int .i64 0,.string ⟨#[]⟩,.int .i64 0,.int .i64 0],.int .i64 (-1)]) (by simp [results,results24,go_sem]) rfl ⟨⟨_,_,rfl,.inr ⟨HT.out,rfl,rfl⟩⟩,(sqN _ _)⟩
theorem ZcC {l:List UInt8} {i k:Nat} {kd:Int} (hd:digB (l.getD i 0)=false) (hn:ZD (l.getD i 0)=true) (h:runEnd ZD l i=k) (hk:nameKindM (cut l i k)=some kd) :
 Zaf l i 0=some (⟨kd,cut l i k,0,0⟩,k):=by
 simp only [Zaf];rw [if_neg (by rw [hd];decide),if_pos hn,h,hk];rfl
theorem Zdf {l:List UInt8} {i k:Nat} (hd:digB (l.getD i 0)=false) (hn:ZD (l.getD i 0)=true) (h:runEnd ZD l i=k) (hk:nameKindM (cut l i k)=none):Zaf l i 0=none:=by
 simp only [Zaf];rw [if_neg (by rw [hd];decide),if_pos hn,h,hk];rfl
theorem Zkt {W w1:World} (hb:Bz W w1):(∀ b o,b<W.heap.size->w1.cell? ⟨b,o,none⟩=W.cell? ⟨b,o,none⟩)/\(∀ b o,b<W.heap.size->w1.frozen? ⟨b,o,none⟩=W.frozen? ⟨b,o,none⟩) :=
 ⟨λb o h=>hb.cell (p:=⟨b,o,none⟩) h,λb o h=>hb.frozen (p:=⟨b,o,none⟩) h⟩
theorem Zfl (s:ByteArray) (i:Nat) (w:World) (hs:s.size<=4000) (hi:i<s.size) (hd:inB (s[i].toNat:Int) 48 57=false) (hn:signB (s[i].toNat:Int)=true) :
 Calls prog 24 #[.string s,.int .i64 i] w λe w'=>(∃ tv k,e=.returned (.tuple #[tv,.int .i64 k])/\ZgG s.data.toList i tv k)/\Bz w w':=by
 have hb:=Zas s i hi;have HD0:Hid (digB (s.data.toList.getD i 0)=false):=(by show digB (s.data.toList.getD i 0)=false;rw [Zae s i hi];exact hd);have HN0:Hid (ZD (s.data.toList.getD i 0)=true):=(by show ZD (s.data.toList.getD i 0)=true;rw [Zae s i hi];exact hn);have HLL:Hid (s.data.toList.length=s.size):=(by show s.data.toList.length=s.size;simp);go_enter func24,ntmps24
 go_wp2_with (first
  | (go_at_call 53;go_must (refine (ZY _ _ hb.1 hb.2).mono ?_;rintro e w' ⟨rfl,rfl⟩))
  | (go_at_call 54;go_must (refine (Zaj _ _ hb.1 hb.2).mono ?_;rintro e w' ⟨rfl,rfl⟩)))
 go_loopw [6] (λkv wr=>∃ k:Nat,i<=k/\k<=s.size/\kv=.int .i64 k/\runEnd ZD s.data.toList i=runEnd ZD s.data.toList k/\wr=w.alloc (.cells #[.int .i64 0,.string ⟨#[]⟩,.int .i64 0,.int .i64 0] 43)) (λkv _=>s.size - (intOf kv).toNat)
 case atStart=>exact ⟨i,Nat.le_refl _,by omega,rfl,rfl,rfl⟩
 case round =>
  obtain ⟨k,hik,hk,rfl,hrun,rfl⟩:=hrel;have HR:=hid hrun;clear hrun
  have hc:(k<s.size/\∃ h:k<s.size,signB (s[k].toNat:Int)=true)\/(runEnd ZD s.data.toList k=k/\(∀ h:k<s.size,signB (s[k].toNat:Int)=false)):=by
   by_cases hlt:k<s.size
   . cases hv:signB (s[k].toNat:Int) with
     | true=>exact .inl ⟨hlt,hlt,hv⟩
     | false=>exact .inr ⟨Zag _ _ _ (.inr (by rw [Zae s k hlt];exact hv)),λ_=>hv⟩
   . exact .inr ⟨Zag _ _ _ (.inl (by rw [HLL.out];omega)),λh=>absurd h hlt⟩
  rcases hc with ⟨hlt,_,hc⟩ | ⟨hst,hcs⟩
  . have hbk:=Zas s k hlt
    have HG:=hid (Zae s k hlt);go_wp2_with (go_at_call 54;go_must (refine (Zaj _ _ hbk.1 hbk.2).mono ?_;rintro e w' ⟨rfl,rfl⟩))
    go_roundw
    case rel=>exact ⟨k+1,by omega,by omega,by go_num,by rw [HR.out];exact ZaN _ _ _ (by rw [HLL.out];exact hlt) (by rw [HG.out];exact hc),(by first | rfl | trivial)⟩
    case measure=>simp [intOf];omega
  . have HRK:Hid (runEnd ZD s.data.toList i=k):=HR.out.trans hst
    have hex:=Zaw s i k;have HEX:=hid hex;clear hst hex HR
    have hsz:(s.extract i k).size<=maxLen:=by
     rw [ByteArray.size_extract];unfold maxLen;omega
    by_cases hlt:k<s.size
    . have hbk:=Zas s k hlt
      have hck:=hcs hlt;clear hcs
      go_wp2_with (first
       | (go_at_call 54;go_must (refine (Zaj _ _ hbk.1 hbk.2).mono ?_;rintro e w' ⟨rfl,rfl⟩))
       | (go_at_call 55;fail))
      refine (Zcl _ _ hsz).mono ?_;rintro e w1 ⟨⟨kd,ok,rfl,hkd⟩,hb1⟩;have ecut:(s.extract i k).data.toList=cut s.data.toList i k:=(by rw [HEX.out];rfl);rw [ecut] at hkd;have HKD:=hid hkd;have HB1:Hid _:=hb1;obtain ⟨hc1,hf1⟩:=Zkt hb1;have hz1:w.heap.size<w1.heap.size:=(by have:=hb1.size;simp at this;omega);clear hkd hb1 ecut
      cases ok
      . have HT:Hid _:=Zdf HD0.out HN0.out HRK.out (by rw [HKD.out];rfl)
        go_wp2;refine bodyPost_ret (v:=.tuple #[.agg #[.int .i64 0,.string ⟨#[]⟩,.int .i64 0,.int .i64 0],.int .i64 (-1)]) (by simp [results,results24,go_sem,hc1,hz1]) rfl ⟨⟨_,_,rfl,.inr ⟨HT.out,rfl,rfl⟩⟩,(((((((Below.refl w.heap.size w).alloc (sqR _) _).trans (HB1.out.mono (by simp))).setCell (by simp) _).setCell (by simp) _).setCell (by simp) _).setCell (by simp) _).alloc (by simp;omega) _⟩
      . have HT:Hid _:=ZcC HD0.out HN0.out HRK.out (by rw [HKD.out];rfl)
        go_wp2;refine bodyPost_ret (v:=.tuple #[.agg #[.int .i64 kd,.string (s.extract i k),.int .i64 0,.int .i64 0],.int .i64 k]) (by simp [results,results24,go_sem,hc1,hz1]) rfl ⟨⟨_,_,rfl,.inl ⟨_,_,HT.out,by rw [HEX.out];rfl,rfl⟩⟩,(((((((Below.refl w.heap.size w).alloc (sqR _) _).trans (HB1.out.mono (by simp))).setCell (by simp) _).setCell (by simp) _).setCell (by simp) _).setCell (by simp) _).alloc (by simp;omega) _⟩
    . clear hcs
      go_wp2_with fail;refine (Zcl _ _ hsz).mono ?_;rintro e w1 ⟨⟨kd,ok,rfl,hkd⟩,hb1⟩;have ecut:(s.extract i k).data.toList=cut s.data.toList i k:=(by rw [HEX.out];rfl);rw [ecut] at hkd;have HKD:=hid hkd;have HB1:Hid _:=hb1;obtain ⟨hc1,hf1⟩:=Zkt hb1;have hz1:w.heap.size<w1.heap.size:=(by have:=hb1.size;simp at this;omega);clear hkd hb1 ecut
      cases ok
      . have HT:Hid _:=Zdf HD0.out HN0.out HRK.out (by rw [HKD.out];rfl)
        go_wp2;refine bodyPost_ret (v:=.tuple #[.agg #[.int .i64 0,.string ⟨#[]⟩,.int .i64 0,.int .i64 0],.int .i64 (-1)]) (by simp [results,results24,go_sem,hc1,hz1]) rfl ⟨⟨_,_,rfl,.inr ⟨HT.out,rfl,rfl⟩⟩,(((((((Below.refl w.heap.size w).alloc (sqR _) _).trans (HB1.out.mono (by simp))).setCell (by simp) _).setCell (by simp) _).setCell (by simp) _).setCell (by simp) _).alloc (by simp;omega) _⟩
      . have HT:Hid _:=ZcC HD0.out HN0.out HRK.out (by rw [HKD.out];rfl)
        go_wp2;refine bodyPost_ret (v:=.tuple #[.agg #[.int .i64 kd,.string (s.extract i k),.int .i64 0,.int .i64 0],.int .i64 k]) (by simp [results,results24,go_sem,hc1,hz1]) rfl ⟨⟨_,_,rfl,.inl ⟨_,_,HT.out,by rw [HEX.out];rfl,rfl⟩⟩,(((((((Below.refl w.heap.size w).alloc (sqR _) _).trans (HB1.out.mono (by simp))).setCell (by simp) _).setCell (by simp) _).setCell (by simp) _).setCell (by simp) _).alloc (by simp;omega) _⟩
theorem ZgH {l:List UInt8} {i:Nat} (hd:digB (l.getD i 0)=false) (hn:ZD (l.getD i 0)=false) (h2:i+2<=l.length) (hc:cut l i (i+2) = [45,62]\/cut l i (i+2) = [61,61]) :
 Zaf l i 0=some (⟨3,cut l i (i+2),0,0⟩,i+2):=by
 simp only [Zaf];rw [if_neg (by rw [hd];decide),if_neg (by rw [hn];decide),if_pos ⟨h2,hc⟩]
theorem ZgI {l:List UInt8} {i:Nat} (hd:digB (l.getD i 0)=false) (hn:ZD (l.getD i 0)=false) (h2:¬ (i+2<=l.length/\(cut l i (i+2) = [45,62]\/cut l i (i+2) = [61,61]))) (hc:Zau.contains (cut l i (i+1))=true) :
 Zaf l i 0=some (⟨3,cut l i (i+1),0,0⟩,i+1):=by
 simp only [Zaf];rw [if_neg (by rw [hd];decide),if_neg (by rw [hn];decide),if_neg h2,if_pos hc]
theorem Zfm {l:List UInt8} {i:Nat} (hd:digB (l.getD i 0)=false) (hn:ZD (l.getD i 0)=false) (h2:¬ (i+2<=l.length/\(cut l i (i+2) = [45,62]\/cut l i (i+2) = [61,61]))) (hc:Zau.contains (cut l i (i+1))=false) :
 Zaf l i 0=none:=by
 simp only [Zaf];rw [if_neg (by rw [hd];decide),if_neg (by rw [hn];decide),if_neg h2,if_neg (by rw [hc];decide)]
def oneBA (s:ByteArray):Bool:=Zau.contains s.data.toList
theorem Zh0 {s:ByteArray} {i:Nat} (he:s.extract i (i+1)=Zad (cut s.data.toList i (i+1))) (h:oneBA (s.extract i (i+1))=true):Zau.contains (cut s.data.toList i (i+1))=true:=by
 rw [he] at h;exact h
theorem Zjw {s:ByteArray} {i:Nat} (he:s.extract i (i+1)=Zad (cut s.data.toList i (i+1))) (h:oneBA (s.extract i (i+1))=false):Zau.contains (cut s.data.toList i (i+1))=false:=by
 rw [he] at h;exact h
theorem ZcD {s:ByteArray} {i k:Nat} {x:List UInt8} (h:(s.extract i k).toList=x):cut s.data.toList i k=x:=by
 rw [Lib.toList_data,Zaw] at h;exact h
theorem ZcE {s:ByteArray} {i k:Nat} {x:List UInt8} (h:cut s.data.toList i k=x):(s.extract i k).toList=x:=by
 rw [Lib.toList_data,Zaw];exact h
theorem Zc2 (w:World) (g:Nat) (hg:g=w.heap.size) (s:ByteArray) :
 Calls prog 56 #[.slice (some ⟨g,0,none⟩) 17 17,.string s] (w.alloc (.cells #[.string ⟨#[40]⟩,.string ⟨#[41]⟩,.string ⟨#[123]⟩,.string ⟨#[125]⟩,.string ⟨#[91]⟩,.string ⟨#[93]⟩,.string ⟨#[124]⟩,.string ⟨#[44]⟩,.string ⟨#[59]⟩,.string ⟨#[46]⟩,.string ⟨#[58]⟩,.string ⟨#[61]⟩,.string ⟨#[60]⟩,.string ⟨#[43]⟩,.string ⟨#[45]⟩,.string ⟨#[42]⟩,.string ⟨#[47]⟩] 9)) λe w'=>e=.returned (.bool (oneBA s))/\w'=w.alloc (.cells #[.string ⟨#[40]⟩,.string ⟨#[41]⟩,.string ⟨#[123]⟩,.string ⟨#[125]⟩,.string ⟨#[91]⟩,.string ⟨#[93]⟩,.string ⟨#[124]⟩,.string ⟨#[44]⟩,.string ⟨#[59]⟩,.string ⟨#[46]⟩,.string ⟨#[58]⟩,.string ⟨#[61]⟩,.string ⟨#[60]⟩,.string ⟨#[43]⟩,.string ⟨#[45]⟩,.string ⟨#[42]⟩,.string ⟨#[47]⟩] 9):=by
 subst hg
 have h:=Zhi w.heap.size 17 Zau s (w.alloc (.cells #[.string ⟨#[40]⟩,.string ⟨#[41]⟩,.string ⟨#[123]⟩,.string ⟨#[125]⟩,.string ⟨#[91]⟩,.string ⟨#[93]⟩,.string ⟨#[124]⟩,.string ⟨#[44]⟩,.string ⟨#[59]⟩,.string ⟨#[46]⟩,.string ⟨#[58]⟩,.string ⟨#[61]⟩,.string ⟨#[60]⟩,.string ⟨#[43]⟩,.string ⟨#[45]⟩,.string ⟨#[42]⟩,.string ⟨#[47]⟩] 9)) (by decide) (by decide) (by
  intro j hj;have hj':j<17:=hj
  rcases (by omega:j=0\/j=1\/j=2\/j=3\/j=4\/j=5\/j=6\/j=7\/j=8\/j=9\/j=10\/j=11\/j=12\/j=13\/j=14\/j=15\/j=16) with rfl | rfl | rfl | rfl | rfl | rfl | rfl | rfl | rfl | rfl | rfl | rfl | rfl | rfl | rfl | rfl | rfl
  all_goals simp [Zau])
 exact h
theorem Zfn (s:ByteArray) (i:Nat) (w:World) (hs:s.size<=4000) (hi:i<s.size) (hd:inB (s[i].toNat:Int) 48 57=false) (hn:signB (s[i].toNat:Int)=false) :
 Calls prog 24 #[.string s,.int .i64 i] w λe w'=>(∃ tv k,e=.returned (.tuple #[tv,.int .i64 k])/\ZgG s.data.toList i tv k)/\Bz w w':=by
 have hb:=Zas s i hi;have HD0:Hid (digB (s.data.toList.getD i 0)=false):=(by show digB (s.data.toList.getD i 0)=false;rw [Zae s i hi];exact hd);have HN0:Hid (ZD (s.data.toList.getD i 0)=false):=(by show ZD (s.data.toList.getD i 0)=false;rw [Zae s i hi];exact hn);have HLL:Hid (s.data.toList.length=s.size):=(by show s.data.toList.length=s.size;simp);have HE2:=hid (Zaw s i (i+2));have HE1:=hid (Zaw s i (i+1));by_cases h2:i+2<=s.size
 . by_cases hA:(s.extract i (i+2)).toList = [45,62]
   . have hA1:((s.extract i (i+2)).toList == [45,62])=true:=by simpa using hA
     have HT:Hid _:=ZgH HD0.out HN0.out (by rw [HLL.out];exact h2) (.inl (ZcD hA));go_enter func24,ntmps24
     go_wp2_with (first
      | (go_at_call 53;go_must (refine (ZY _ _ hb.1 hb.2).mono ?_;rintro e w' ⟨rfl,rfl⟩))
      | (go_at_call 54;go_must (refine (Zaj _ _ hb.1 hb.2).mono ?_;rintro e w' ⟨rfl,rfl⟩))
      | (go_at_call 56;go_must (refine (Zc2 (w.alloc (.cells #[.int .i64 0,.string ⟨#[]⟩,.int .i64 0,.int .i64 0] 43)) (w.heap.size+1) (by simp) (s.extract i (i+1))).mono ?_;rintro e w' ⟨rfl,rfl⟩)))
     refine bodyPost_ret (v:=.tuple #[.agg #[.int .i64 3,.string (s.extract i (i+2)),.int .i64 0,.int .i64 0],.int .i64 (i+2)]) (by simp [results,results24,go_sem]) rfl ⟨⟨_,_,rfl,.inl ⟨_,_,HT.out,by rw [HE2.out];rfl,rfl⟩⟩,(sqN _ _)⟩
   . by_cases hB:(s.extract i (i+2)).toList = [61,61]
     . have hA1:((s.extract i (i+2)).toList == [45,62])=false:=by simpa using hA
       have hB1:((s.extract i (i+2)).toList == [61,61])=true:=(by simpa using hB);have HT:Hid _:=ZgH HD0.out HN0.out (by rw [HLL.out];exact h2) (.inr (ZcD hB));go_enter func24,ntmps24
       go_wp2_with (first
        | (go_at_call 53;go_must (refine (ZY _ _ hb.1 hb.2).mono ?_;rintro e w' ⟨rfl,rfl⟩))
        | (go_at_call 54;go_must (refine (Zaj _ _ hb.1 hb.2).mono ?_;rintro e w' ⟨rfl,rfl⟩))
        | (go_at_call 56;go_must (refine (Zc2 (w.alloc (.cells #[.int .i64 0,.string ⟨#[]⟩,.int .i64 0,.int .i64 0] 43)) (w.heap.size+1) (by simp) (s.extract i (i+1))).mono ?_;rintro e w' ⟨rfl,rfl⟩)))
       refine bodyPost_ret (v:=.tuple #[.agg #[.int .i64 3,.string (s.extract i (i+2)),.int .i64 0,.int .i64 0],.int .i64 (i+2)]) (by simp [results,results24,go_sem]) rfl ⟨⟨_,_,rfl,.inl ⟨_,_,HT.out,by rw [HE2.out];rfl,rfl⟩⟩,(sqN _ _)⟩
     . have hA1:((s.extract i (i+2)).toList == [45,62])=false:=by simpa using hA
       have hB1:((s.extract i (i+2)).toList == [61,61])=false:=(by simpa using hB);have HNO:Hid (¬ (i+2<=s.data.toList.length/\(cut s.data.toList i (i+2) = [45,62]\/cut s.data.toList i (i+2) = [61,61]))):=λh=>h.2.elim (λe=>hA (ZcE e)) (λe=>hB (ZcE e))
       have hone:oneBA (s.extract i (i+1))=true\/oneBA (s.extract i (i+1))=false:=by cases oneBA (s.extract i (i+1)) <;> simp
       rcases hone with hone | hone
       . have HT:Hid _:=ZgI HD0.out HN0.out HNO.out (Zh0 HE1.out hone)
         go_enter func24,ntmps24
         go_wp2_with (first
          | (go_at_call 53;go_must (refine (ZY _ _ hb.1 hb.2).mono ?_;rintro e w' ⟨rfl,rfl⟩))
          | (go_at_call 54;go_must (refine (Zaj _ _ hb.1 hb.2).mono ?_;rintro e w' ⟨rfl,rfl⟩))
          | (go_at_call 56;go_must (refine (Zc2 (w.alloc (.cells #[.int .i64 0,.string ⟨#[]⟩,.int .i64 0,.int .i64 0] 43)) (w.heap.size+1) (by simp) (s.extract i (i+1))).mono ?_;rintro e w' ⟨rfl,rfl⟩)))
         refine bodyPost_ret (v:=.tuple #[.agg #[.int .i64 3,.string (s.extract i (i+1)),.int .i64 0,.int .i64 0],.int .i64 (i+1)]) (by simp [results,results24,go_sem]) rfl ⟨⟨_,_,rfl,.inl ⟨_,_,HT.out,by rw [HE1.out];rfl,rfl⟩⟩,((sqN _ _)).alloc (by simp) _⟩
       . have HT:Hid _:=Zfm HD0.out HN0.out HNO.out (Zjw HE1.out hone)
         go_enter func24,ntmps24
         go_wp2_with (first
          | (go_at_call 53;go_must (refine (ZY _ _ hb.1 hb.2).mono ?_;rintro e w' ⟨rfl,rfl⟩))
          | (go_at_call 54;go_must (refine (Zaj _ _ hb.1 hb.2).mono ?_;rintro e w' ⟨rfl,rfl⟩))
          | (go_at_call 56;go_must (refine (Zc2 (w.alloc (.cells #[.int .i64 0,.string ⟨#[]⟩,.int .i64 0,.int .i64 0] 43)) (w.heap.size+1) (by simp) (s.extract i (i+1))).mono ?_;rintro e w' ⟨rfl,rfl⟩)))
         refine bodyPost_ret (v:=.tuple #[.agg #[.int .i64 0,.string ⟨#[]⟩,.int .i64 0,.int .i64 0],.int .i64 (-1)]) (by simp [results,results24,go_sem]) rfl ⟨⟨_,_,rfl,.inr ⟨HT.out,rfl,rfl⟩⟩,((sqN _ _)).alloc (by simp) _⟩
 ·
  have HNO:Hid (¬ (i+2<=s.data.toList.length/\(cut s.data.toList i (i+2) = [45,62]\/cut s.data.toList i (i+2) = [61,61]))):=λh=>h2 (by have:=h.1;rw [HLL.out] at this;exact this)
  have hone:oneBA (s.extract i (i+1))=true\/oneBA (s.extract i (i+1))=false:=by cases oneBA (s.extract i (i+1)) <;> simp
  rcases hone with hone | hone
  . have HT:Hid _:=ZgI HD0.out HN0.out HNO.out (Zh0 HE1.out hone)
    go_enter func24,ntmps24
    go_wp2_with (first
     | (go_at_call 53;go_must (refine (ZY _ _ hb.1 hb.2).mono ?_;rintro e w' ⟨rfl,rfl⟩))
     | (go_at_call 54;go_must (refine (Zaj _ _ hb.1 hb.2).mono ?_;rintro e w' ⟨rfl,rfl⟩))
     | (go_at_call 56;go_must (refine (Zc2 (w.alloc (.cells #[.int .i64 0,.string ⟨#[]⟩,.int .i64 0,.int .i64 0] 43)) (w.heap.size+1) (by simp) (s.extract i (i+1))).mono ?_;rintro e w' ⟨rfl,rfl⟩)))
    refine bodyPost_ret (v:=.tuple #[.agg #[.int .i64 3,.string (s.extract i (i+1)),.int .i64 0,.int .i64 0],.int .i64 (i+1)]) (by simp [results,results24,go_sem]) rfl ⟨⟨_,_,rfl,.inl ⟨_,_,HT.out,by rw [HE1.out];rfl,rfl⟩⟩,((sqN _ _)).alloc (by simp) _⟩
  . have HT:Hid _:=Zfm HD0.out HN0.out HNO.out (Zjw HE1.out hone)
    go_enter func24,ntmps24
    go_wp2_with (first
     | (go_at_call 53;go_must (refine (ZY _ _ hb.1 hb.2).mono ?_;rintro e w' ⟨rfl,rfl⟩))
     | (go_at_call 54;go_must (refine (Zaj _ _ hb.1 hb.2).mono ?_;rintro e w' ⟨rfl,rfl⟩))
     | (go_at_call 56;go_must (refine (Zc2 (w.alloc (.cells #[.int .i64 0,.string ⟨#[]⟩,.int .i64 0,.int .i64 0] 43)) (w.heap.size+1) (by simp) (s.extract i (i+1))).mono ?_;rintro e w' ⟨rfl,rfl⟩)))
    refine bodyPost_ret (v:=.tuple #[.agg #[.int .i64 0,.string ⟨#[]⟩,.int .i64 0,.int .i64 0],.int .i64 (-1)]) (by simp [results,results24,go_sem]) rfl ⟨⟨_,_,rfl,.inr ⟨HT.out,rfl,rfl⟩⟩,((sqN _ _)).alloc (by simp) _⟩
theorem Zf1 (s:ByteArray) (i:Nat) (w:World) (hs:s.size<=4000) (hi:i<s.size) :
 Calls prog 24 #[.string s,.int .i64 i] w λe w'=>(∃ tv k,e=.returned (.tuple #[tv,.int .i64 k])/\ZgG s.data.toList i tv k)/\Bz w w':=by
 cases hd:inB (s[i].toNat:Int) 48 57 with
 | true=>exact ZeU s i w hs hi hd
 | false =>
  cases hn:signB (s[i].toNat:Int) with
  | true=>exact Zfl s i w hs hi hd hn
  | false=>exact Zfn s i w hs hi hd hn
theorem Zem (l:List UInt8) (i:Nat) (line:Int):Zaf l i line=(Zaf l i 0).map λx=>(⟨x.1.kind,x.1.text,x.1.n,line⟩,x.2):=by
 unfold Zaf;simp only
 split
 . split <;> rfl
 . split
   . cases nameKindM (cut l i (runEnd ZD l i)) <;> rfl
   . split
     . rfl
     . split <;> rfl
theorem Zen (ts:List Tok) (t:Tok):Za6 (ts ++ [t])=Za6 ts ++ t.cells:=by simp [Za6]
theorem Zku:(prog.info? 43).map (λi=>(i.zero,i.size,i.bytes))=some (some (.agg #[.int .i64 0,.string ByteArray.empty,.int .i64 0,.int .i64 0]),4,40):=by kernel_rfl
theorem Zdg (w:World) (t:Tok) (ty:TypeId) (g:Nat) (hg:g=w.heap.size):∀ (j:Nat) (u:Value),t.cells[j]?=some u->(w.alloc (.cells #[.int .i64 t.kind,.string ⟨t.text.toArray⟩,.int .i64 t.n,.int .i64 t.line] ty)).cell? ((⟨g,0,none⟩:Addr).add j)=some u:=by
 subst hg;intro j u hj
 match j,hj with
 | 0,hj=>simp [Tok.cells] at hj;subst hj;simp [Addr.add]
 | 1,hj=>simp [Tok.cells] at hj;subst hj;simp [Addr.add]
 | 2,hj=>simp [Tok.cells] at hj;subst hj;simp [Addr.add]
 | 3,hj=>simp [Tok.cells] at hj;subst hj;simp [Addr.add]
 | j+4,hj=>simp [Tok.cells] at hj
theorem ZdV (t:Tok):∀ u ∈ t.cells,u.oneCell'=true:=by
 intro u hu;simp only [Tok.cells,List.mem_cons,List.not_mem_nil,or_false] at hu
 rcases hu with rfl | rfl | rfl | rfl <;> rfl
theorem Zjx {s:ByteArray} {i:Nat} {line:Int} (h:i<s.size) (hc:(s[i].toNat:Int)=37):Zav s.data.toList i line=some (runEnd Za9 s.data.toList i,line):=by
 unfold Zav;simp only;rw [Zae s i h,if_pos (by omega)]
theorem Zjy {s:ByteArray} {i:Nat} {line:Int} (h:i<s.size) (hc:(s[i].toNat:Int)=32):Zav s.data.toList i line=some (i+1,line):=by
 unfold Zav;simp only;rw [Zae s i h,if_neg (by omega),if_pos (by omega)]
theorem Zjz {s:ByteArray} {i:Nat} {line:Int} (h:i<s.size) (hc:(s[i].toNat:Int)=10):Zav s.data.toList i line=some (i+1,line+1):=by
 unfold Zav;simp only;rw [Zae s i h,if_neg (by omega),if_neg (by omega),if_pos (by omega)]
theorem ZjA {s:ByteArray} {i:Nat} {line:Int} (h:i<s.size) (h1:(s[i].toNat:Int)≠37) (h2:(s[i].toNat:Int)≠32) (h3:(s[i].toNat:Int)≠10):Zav s.data.toList i line=none:=by
 unfold Zav;simp only;rw [Zae s i h,if_neg (by omega),if_neg (by omega),if_neg (by omega)]
theorem Zfo (s:ByteArray) (w:World) (hs:s.size<=maxLen) (hl:¬ s.size<=4000) :
 Calls prog 9 #[.string s] w λe w'=>∃ v,e=.returned (.tuple #[v,.int .i64 (lexM s.data.toList).2])/\w'.ownsRow w.heap.size 43 4 v (lexM s.data.toList).1.length (Za6 (lexM s.data.toList).1)/\Bz w w':=by
 have e:lexM s.data.toList=([],1):=(by unfold lexM;rw [if_neg (by simpa using hl)]);rw [e];unfold maxLen at hs;go_enter func9,ntmps9;go_wp2
 go_ret2
 exact ⟨_,rfl,World.ownsRow_lit w #[] 0 (sqR _) (Nat.zero_le _) rfl,(sqN _ _)⟩
theorem ZeV (s:ByteArray) (w:World) (hl:s.size<=4000) :
 Calls prog 9 #[.string s] w λe w'=>∃ v,e=.returned (.tuple #[v,.int .i64 (lexM s.data.toList).2])/\w'.ownsRow w.heap.size 43 4 v (lexM s.data.toList).1.length (Za6 (lexM s.data.toList).1)/\Bz w w':=by
 obtain ⟨i0,hi,hz0,hz1_,hz2⟩:=info_parts Zku;obtain ⟨R,hR⟩:∃ R,R=lexM s.data.toList:=⟨_,rfl⟩;rw [<-hR];have e0:R=lexF s.data.toList (s.data.toList.length+1) 0 1 []:=(by rw [hR];unfold lexM;rw [if_pos (by simpa using hl)]);have HLL:Hid (s.data.toList.length=s.size):=(by show s.data.toList.length=s.size;simp);have E0:Hid (R=lexF s.data.toList (s.data.toList.length+1) 0 1 []):=e0;clear hR e0;go_enter func9,ntmps9;go_wp2
 go_loopw [4,5,6] (λv lv iv wr=>∃ (i f:Nat) (line:Int) (acc:List Tok),i<=s.size/\iv=.int .i64 i/\lv=.int .i64 line/\1<=line/\line<=i+1/\acc.length<=i/\s.size - i<f/\wr.ownsRow w.heap.size 43 4 v acc.length (Za6 acc)/\R=lexF s.data.toList f i line acc/\Bz w wr) (λ_ _ iv _=>s.size - (intOf iv).toNat)
 case atStart=>exact ⟨0,s.data.toList.length+1,1,[],Nat.zero_le _,rfl,rfl,by omega,by omega,Nat.le_refl _,by rw [HLL.out];omega,World.ownsRow_lit w #[] 0 (sqR _) (Nat.zero_le _) rfl,E0.out,(sqN _ _)⟩
 case round =>
  obtain ⟨i,f,line,acc,hi',rfl,rfl,hl1,hl2,hacc,hf,hown,hR,hb⟩:=hrel;have HR:Hid (R=lexF s.data.toList f i line acc):=hR;have HB:Hid (Bz w wr):=hb;have HO:Hid (wr.ownsRow w.heap.size 43 4 u4 acc.length (Za6 acc)):=hown;clear hR hb hown;by_cases hlt:i<s.size
  . obtain ⟨g,rfl⟩:∃ g,f=g+1:=⟨f - 1,by omega⟩
    have hltl:i<s.data.toList.length:=(by rw [HLL.out];exact hlt);have hbi:=Zas s i hlt;by_cases h37:(s[i].toNat:Int)=37
    . have h37b:((s[i].toNat:Int) == 37)=true:=by rw [beq_iff_eq];exact h37
      have hgs:=Zjx (line:=line) hlt h37;have HR':Hid (R=lexF s.data.toList g (runEnd Za9 s.data.toList i) line acc):=HR.out.trans (ZcB hltl hgs);have HGT:Hid (i<runEnd Za9 s.data.toList i):=(ZbF hltl hgs).1;have HX:Hid ((s[i].toNat:Int)=37):=h37;clear hgs HR h37;go_wp2
      go_loopw [6] (λkv wr'=>∃ k:Nat,i<=k/\k<=s.size/\kv=.int .i64 k/\runEnd Za9 s.data.toList i=runEnd Za9 s.data.toList k/\wr'=wr) (λkv _=>s.size - (intOf kv).toNat)
      case atStart=>exact ⟨i,Nat.le_refl _,by omega,rfl,rfl,rfl⟩
      case round =>
       obtain ⟨k,hik,hk,rfl,hrun,rfl⟩:=hrel;have HK:Hid (runEnd Za9 s.data.toList i=runEnd Za9 s.data.toList k):=hrun;clear hrun;by_cases hkl:k<s.size
       . have hbk:=Zas s k hkl
         have HGB:Hid (s.data.toList.getD k 0=s[k]):=Zae s k hkl;by_cases hkc:(s[k].toNat:Int)=10
         . have hkb:((s[k].toNat:Int) != 10)=false:=by rw [hkc];rfl
           have hst:runEnd Za9 s.data.toList k=k:=Zag _ _ _ (.inr (by rw [HGB.out,Za9];rw [bne_eq_false_iff_eq];omega));have HKE:Hid (runEnd Za9 s.data.toList i=k):=HK.out.trans hst;have HKC:Hid ((s[k].toNat:Int)=10):=hkc;clear hst HK hkc;go_wp2;refine ⟨⟨k,g,line,acc,by omega,rfl,rfl,by omega,by omega,by omega,by have:=HGT.out;rw [HKE.out] at this;omega,HO.out,by have:=HR'.out;rw [HKE.out] at this;exact this,HB.out⟩,?_⟩;have:=HGT.out;rw [HKE.out] at this;simp only [intOf];omega
         . have hkb:((s[k].toNat:Int) != 10)=true:=by rw [bne_iff_ne];exact hkc
           have HS:Hid (runEnd Za9 s.data.toList k=runEnd Za9 s.data.toList (k+1)):=ZaN _ _ _ (by rw [HLL.out];exact hkl) (by rw [HGB.out,Za9,bne_iff_ne];omega);have HKC:Hid (¬ (s[k].toNat:Int)=10):=hkc;clear hkc;go_wp2;refine ⟨⟨k+1,by omega,by omega,by go_num,HK.out.trans HS.out,(by first | rfl | trivial)⟩,?_⟩;simp [intOf];omega
       . have hst:runEnd Za9 s.data.toList k=k:=Zag _ _ _ (.inl (by rw [HLL.out];omega))
         have HKE:Hid (runEnd Za9 s.data.toList i=k):=HK.out.trans hst;clear hst HK;go_wp2;refine ⟨⟨k,g,line,acc,by omega,rfl,rfl,by omega,by omega,by omega,by have:=HGT.out;rw [HKE.out] at this;omega,HO.out,by have:=HR'.out;rw [HKE.out] at this;exact this,HB.out⟩,?_⟩;have:=HGT.out;rw [HKE.out] at this;simp only [intOf];omega
    . have h37b:((s[i].toNat:Int) == 37)=false:=by rw [beq_eq_false_iff_ne];exact h37
      have H37:Hid (¬ (s[i].toNat:Int)=37):=h37;clear h37;by_cases h32:(s[i].toNat:Int)=32
      . have h32b:((s[i].toNat:Int) == 32)=true:=by rw [beq_iff_eq];exact h32
        have h10b:((s[i].toNat:Int) == 10)=false:=(by rw [beq_eq_false_iff_ne];omega);have HR':Hid (R=lexF s.data.toList g (i+1) line acc):=HR.out.trans (ZcB hltl (Zjy hlt h32));have H32:Hid ((s[i].toNat:Int)=32):=h32;clear HR h32;go_wp2;refine ⟨⟨i+1,g,line,acc,by omega,by go_num,rfl,by omega,by omega,by omega,by omega,HO.out,HR'.out,HB.out⟩,?_⟩;simp [intOf];omega
      . have h32b:((s[i].toNat:Int) == 32)=false:=by rw [beq_eq_false_iff_ne];exact h32
        have H32:Hid (¬ (s[i].toNat:Int)=32):=h32;clear h32;by_cases h10:(s[i].toNat:Int)=10
        . have h10b:((s[i].toNat:Int) == 10)=true:=by rw [beq_iff_eq];exact h10
          have HR':Hid (R=lexF s.data.toList g (i+1) (line+1) acc):=HR.out.trans (ZcB hltl (Zjz hlt h10));have H10:Hid ((s[i].toNat:Int)=10):=h10;clear HR h10;go_wp2;refine ⟨⟨i+1,g,line+1,acc,by omega,by go_num,by go_num,by omega,by omega,by omega,by omega,HO.out,HR'.out,HB.out⟩,?_⟩;simp [intOf];omega
        . have h10b:((s[i].toNat:Int) == 10)=false:=by rw [beq_eq_false_iff_ne];exact h10
          have HNG:Hid (Zav s.data.toList i line=none):=ZjA hlt H37.out H32.out h10;clear h10;go_wp2_with fail;refine (Zf1 s i _ hl hlt).mono ?_;rintro e w1 ⟨⟨tv,k,rfl,hnext⟩,hb1⟩;have HB1:Hid (Bz wr w1):=hb1;have hz1:wr.heap.size<=w1.heap.size:=hb1.size;clear hb1
          rcases hnext with ⟨t,k',ht,rfl,rfl⟩ | ⟨hno,rfl,rfl⟩
          . have htl:=Zem s.data.toList i line
            rw [ht] at htl;have hgt:=ZeQ hltl htl;have HR':Hid (R=lexF s.data.toList g k' line (acc ++ [⟨t.kind,t.text,t.n,line⟩])):=HR.out.trans (ZeR hltl HNG.out htl);have hk1:i<k':=hgt.1;have hk2:k'<=s.size:=(by have:=hgt.2.1;rw [HLL.out] at this;exact this);clear htl hgt ht HR;have HO1:Hid (w1.ownsRow w.heap.size 43 4 u4 acc.length (Za6 acc)):=HO.out.kept (row:=none) ⟨HB1.out.os,HB1.out.tape,HB1.out.output,HB1.out.size,λj hj _=>HB1.out.block j hj⟩ (by cases hv:u4.ownBlock with | none=>exact .inl rfl | some b=>exact .inr (by simp));have hwz:w.heap.size<=w1.heap.size:=Nat.le_trans HB.out.size hz1;simp only [Tok.agg];go_wp2_with (at_builtin;refine wpList_append_own _ rfl _ _ 31 rfl w.heap.size 43 i0 _ 4 40 underlying31 hi hz0 hz1_ hz2 rfl (by decide) _ _ _ rfl ((HO1.out.alloc _).alloc _) ⟨w1.heap.size+1,0,none⟩ 1 1 (Tok.cells ⟨t.kind,t.text,t.n,line⟩) rfl rfl (Zdg _ ⟨t.kind,t.text,t.n,line⟩ _ _ (by simp)) (ZdV _) (by unfold maxLen;omega) (by omega) (by simp;omega) ?_;intro v' w2 hown' hgr _;have HO2:Hid _:=hown';have HG2:Hid _:=hgr;clear hown' hgr);have hown2:w2.ownsRow w.heap.size 43 4 v' (acc.length+1) (Za6 acc ++ Tok.cells ⟨t.kind,t.text,t.n,line⟩):=HO2.out;have hbe:Bz w w2:=((((HB.out.trans (HB1.out.mono HB.out.size)).alloc hwz _).alloc (by simp;omega) _)).grown HG2.out (by simp;omega) (λj hj=>(HO1.out.lt j hj).1);refine ⟨⟨k',g,line,acc ++ [⟨t.kind,t.text,t.n,line⟩],hk2,rfl,rfl,by omega,by omega,by rw [List.length_append];simp only [List.length_cons,List.length_nil];omega,by omega,by rw [Zen,List.length_append];exact hown2,HR'.out,hbe⟩,?_⟩;simp only [intOf];omega
          . have htl:=Zem s.data.toList i line
            rw [hno] at htl;have HE:Hid (R=([],line)):=HR.out.trans (ZeS hltl HNG.out htl);clear htl hno HR;go_wp2
            go_ret2
            have hwz:w.heap.size<=w1.heap.size:=Nat.le_trans HB.out.size hz1;have ho:=World.ownsRow_lit (base:=w.heap.size) (e:=43) (size:=4) (w1.alloc (.cells #[.int .i64 0,.string ⟨#[]⟩,.int .i64 0,.int .i64 0] 43)) #[] 0 (by simp;omega) (Nat.zero_le _) rfl;have hbe:Bz w ((w1.alloc (.cells #[.int .i64 0,.string ⟨#[]⟩,.int .i64 0,.int .i64 0] 43)).alloc (.cells #[] 43)):=(((HB.out.trans (HB1.out.mono HB.out.size)).alloc hwz _).alloc (by simp;omega) _);exact ⟨.slice (some ⟨w1.heap.size+1,0,none⟩) 0 0,by rw [HE.out];rfl,by rw [HE.out];simpa [Za6] using ho,hbe⟩
  . have hend:=ZeT (l:=s.data.toList) (f:=f) (i:=i) (line:=line) (acc:=acc) (by rw [HLL.out];exact hlt)
    have HE:Hid (R=(acc,0)):=HR.out.trans hend;clear hend HR;go_wp2
    go_ret2
    exact ⟨u4,by rw [HE.out];rfl,by rw [HE.out];exact HO.out,HB.out⟩
theorem Zf2 (s:ByteArray) (w:World) (hs:s.size<=maxLen) :
 Calls prog 9 #[.string s] w λe w'=>∃ v,e=.returned (.tuple #[v,.int .i64 (lexM s.data.toList).2])/\w'.ownsRow w.heap.size 43 4 v (lexM s.data.toList).1.length (Za6 (lexM s.data.toList).1)/\Bz w w':=by
 by_cases hl:s.size<=4000
 . exact ZeV s w hl
 . exact Zfo s w hs hl
end
end Go.Proofs.YtacioihbhkcdcaaGreatDoor
