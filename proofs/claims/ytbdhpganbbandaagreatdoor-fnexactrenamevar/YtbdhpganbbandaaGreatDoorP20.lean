/-
  OrdBase ModOkRefs ModOkFuns ModOkImplC ModOkSpecE
-/
import Derived.Lib.Bytealg
import Derived.Laws.Cover1
import Derived.Test.YtbdhpganbbandaaGreatDoorP13
set_option maxHeartbeats 16000000
set_option linter.unusedVariables false
set_option maxRecDepth 100000
namespace Go.Proofs.YtbdhpganbbandaaGreatDoor
open Go.ChangeShapes Go.WideShapes Go.ChangeAt Go.RowKit
section
open Go.Proofs.Tryz
def cmpI (a b:Int):Int:=if a<b then -1 else if b<a then 1 else 0
def cmpS (a b:ByteArray):Int:=Lib.compareBytes a.data.toList b.data.toList
theorem cmpI_lt {a b:Int} (h:a<b):cmpI a b = -1:=if_pos h
theorem cmpI_gt {a b:Int} (h:b<a):cmpI a b=1:=by unfold cmpI;rw [if_neg (by omega),if_pos h]
theorem cmpI_self (a:Int):cmpI a a=0:=by unfold cmpI;rw [if_neg (by omega),if_neg (by omega)]
theorem compare_lt:∀ {a b:List UInt8},Op.bytesLess a b=true->Lib.compareBytes a b = -1
 | [],[],h=>by simp [Op.bytesLess] at h
 | _ :: _,[],h=>by simp [Op.bytesLess] at h
 | [],_ :: _,_=>rfl
 | x :: a,y :: b,h=>by
  simp only [Op.bytesLess,Bool.or_eq_true,decide_eq_true_eq,Bool.and_eq_true,beq_iff_eq] at h;unfold Lib.compareBytes
  rcases h with h | ⟨rfl,h⟩
  . rw [if_pos h]
  . rw [if_neg (UInt8.lt_irrefl _),if_neg (UInt8.lt_irrefl _)];exact compare_lt h
theorem compare_self:∀ (a:List UInt8),Lib.compareBytes a a=0
 | []=>rfl
 | x :: a=>by unfold Lib.compareBytes;rw [if_neg (UInt8.lt_irrefl _),if_neg (UInt8.lt_irrefl _)];exact compare_self a
theorem compare_gt:∀ {a b:List UInt8},Op.bytesLess a b=false->a≠b->Lib.compareBytes a b=1
 | [],[],_,h=>absurd rfl h
 | _ :: _,[],_,_=>rfl
 | [],_ :: _,h,_=>by simp [Op.bytesLess] at h
 | x :: a,y :: b,h,hne=>by
  simp only [Op.bytesLess,Bool.or_eq_false_iff,decide_eq_false_iff_not,Bool.and_eq_false_iff,beq_eq_false_iff_ne] at h;unfold Lib.compareBytes;rw [if_neg h.1];by_cases hxy:x=y
  . subst hxy
    rw [if_neg (UInt8.lt_irrefl _)]
    rcases h.2 with h2 | h2
    . exact absurd rfl h2
    . exact compare_gt h2 (λe=>hne (by rw [e]))
  . have:y<x:=by
     rw [UInt8.lt_iff_toNat_lt] at h ⊢;have:x.toNat≠y.toNat:=λe=>hxy (UInt8.toNat_inj.1 e);omega
    rw [if_pos this]
theorem cmpS_lt {a b:ByteArray} (h:Op.bytesLess a.toList b.toList=true):cmpS a b = -1:=by
 unfold cmpS;rw [ByteArray.toList_eq,ByteArray.toList_eq] at h;exact compare_lt h
theorem cmpS_gt {a b:ByteArray} (h:Op.bytesLess a.toList b.toList=false) (hne:a≠b):cmpS a b=1:=by
 unfold cmpS;rw [ByteArray.toList_eq,ByteArray.toList_eq] at h;exact compare_gt h (λe=>hne (bytes_inj e))
theorem cmpS_self (a:ByteArray):cmpS a a=0:=compare_self _
theorem bytesLess_self:∀ (a:List UInt8),Op.bytesLess a a=false
 | []=>rfl
 | x :: a=>by simp [Op.bytesLess,bytesLess_self a]
theorem isNaN_any (a:Int) (w:World):Calls prog 196 #[.int .i64 a] w λe w'=>e=.returned (.bool false)/\w'=w:=by
 go_enter func196,ntmps196;go_wp2;go_ret;exact ⟨rfl,rfl⟩
theorem cmpInt_any (a b:Int) (w:World):Calls prog 186 #[.int .i64 a,.int .i64 b] w λe w'=>e=.returned (.int .i64 (cmpI a b))/\w'=w:=by
 by_cases h1:a<b
 . have HS:Hid (cmpI a b = -1):=cmpI_lt h1
   go_enter func186,ntmps186;go_wp2_with (go_at_call 196;go_must (refine (isNaN_any _ _).mono ?_;rintro e w' ⟨rfl,rfl⟩));go_ret;exact ⟨by rw [HS.out];rfl,rfl⟩
 by_cases h2:b<a
 . have HS:Hid (cmpI a b=1):=cmpI_gt h2
   go_enter func186,ntmps186;go_wp2_with (go_at_call 196;go_must (refine (isNaN_any _ _).mono ?_;rintro e w' ⟨rfl,rfl⟩));go_ret;exact ⟨by rw [HS.out];rfl,rfl⟩
 obtain rfl:a=b:=(by omega);have HS:=hid (cmpI_self a);go_enter func186,ntmps186;go_wp2_with (go_at_call 196;go_must (refine (isNaN_any _ _).mono ?_;rintro e w' ⟨rfl,rfl⟩));go_ret;exact ⟨by rw [HS.out];rfl,rfl⟩
theorem compareString_any (a b:ByteArray) (w:World) :
 Calls prog 195 #[.string a,.string b] w λe w'=>e=.returned (.int .i64 (cmpS a b))/\w'=w:=by
 go_enter func195,ntmps195;go_wp2;rw [run_callFunc_extern func203 (by kernel_rfl) (by kernel_rfl) (by kernel_rfl) (e:=Extern.BytealgCompare.compare) (by kernel_rfl),Lib.run_compareString];simp only [Result.andThen];rw [Oper.upon_value];go_wp2;go_ret;exact ⟨rfl,rfl⟩
theorem stringsCompare_any (a b:ByteArray) (w:World) :
 Calls prog 185 #[.string a,.string b] w λe w'=>e=.returned (.int .i64 (cmpS a b))/\w'=w:=by
 go_enter func185,ntmps185;go_wp2_with (go_at_call 195;go_must (refine (compareString_any _ _ _).mono ?_;rintro e w' ⟨rfl,rfl⟩));go_ret;exact ⟨rfl,rfl⟩
def or2 (a b:Int):Int:=if a=0 then b else a
theorem cmpOr2_any (a b:Int) (g:Nat) (w:World) (h0:w.cell? ⟨g,0,none⟩=some (.int .i64 a)) (h1:w.cell? ⟨g,1,none⟩=some (.int .i64 b)) :
 Calls prog 184 #[.slice (some ⟨g,0,none⟩) 2 2] w λe w'=>e=.returned (.int .i64 (or2 a b))/\w'=w:=by
 go_enter func184,ntmps184;go_wp2
 go_loopw [8] (λiv wr=>∃ k:Nat,k<=2/\iv=.int .i64 k/\(1<=k->a=0)/\(2<=k->b=0)/\wr=w) (λiv _=>2 - (intOf iv).toNat)
 case atStart=>exact ⟨0,by omega,rfl,λh=>by omega,λh=>by omega,rfl⟩
 case round =>
  obtain ⟨k,hk,rfl,e0,e1,rfl⟩:=hrel
  match k,hk with
  | 0,_ =>
   by_cases hz:a=0
   . go_wp2
     exact ⟨⟨1,by omega,by go_num,λ_=>hz,λh=>by omega,(by first | rfl | trivial)⟩,by simp [intOf]⟩
   . have HS:Hid (or2 a b=a):=if_neg hz
     go_wp2;go_ret;exact ⟨by rw [HS.out];rfl,rfl⟩
  | 1,_ =>
   have z0:=e0 (by omega);by_cases hz:b=0
   . go_wp2
     exact ⟨⟨2,by omega,by go_num,λ_=>z0,λ_=>hz,(by first | rfl | trivial)⟩,by simp [intOf]⟩
   . have HS:Hid (or2 a b=b):=by show _=_;unfold or2;rw [if_pos z0]
     go_wp2;go_ret;exact ⟨by rw [HS.out];rfl,rfl⟩
  | 2,_ =>
   have HS:Hid (or2 a b=0):=(by show _=_;unfold or2;rw [if_pos (e0 (by omega)),e1 (by omega)]);go_wp2;go_ret;exact ⟨by rw [HS.out];rfl,rfl⟩
  | k+3,hk=>omega
def cmpRf (a b:Rf):Int:=or2 (cmpS a.name b.name) (cmpI a.arity b.arity)
def lessB (a b:Rf):Bool:=decide (cmpRf a b<0)
def refB (r:Rf):Bool:=atomB r.name && inB r.arity 0 6
def sameR (r:Rf) (f:Fn'):Bool:=f.name.toList == r.name.toList && f.arity == r.arity
theorem l02Less_any (a b:Rf) (w:World):Calls prog 104 #[.agg #[.string a.name,.int .i64 a.arity],.agg #[.string b.name,.int .i64 b.arity]] w λe w'=>e=.returned (.bool (lessB a b))/\Bz w w':=by
 obtain ⟨s,m⟩:=a;obtain ⟨t,n⟩:=b;have BL:Hid (Bz w ((w.alloc (.cells #[.string s,.int .i64 m] 110)).alloc (.cells #[.string t,.int .i64 n] 110))):=((sqN _ _)).alloc (by simp) _;simp only
 cases hb:Op.bytesLess s.toList t.toList with
 | true =>
  have HS:Hid (lessB ⟨s,m⟩ ⟨t,n⟩=true):=(by show _=_;simp [lessB,cmpRf,or2,cmpS_lt hb]);go_enter func104,ntmps104;go_wp2;go_ret;exact ⟨by rw [HS.out];rfl,BL.out⟩
 | false =>
  by_cases he:s=t
  . subst he
    have HS:Hid (lessB ⟨s,m⟩ ⟨s,n⟩=decide (m<n)):=by
     show _=_;simp only [lessB,cmpRf,or2,cmpS_self,if_true,cmpI];by_cases h1:m<n
     . simp [h1]
     . by_cases h2:n<m <;> simp [h1,h2]
    go_enter func104,ntmps104;go_wp2;go_ret;exact ⟨by rw [HS.out];rfl,BL.out⟩
  . have HS:Hid (lessB ⟨s,m⟩ ⟨t,n⟩=false):=by show _=_;simp [lessB,cmpRf,or2,cmpS_gt hb he]
    have hq1:=str_ne he;have hq2:=str_neB he;go_enter func104,ntmps104;go_wp2;go_ret;exact ⟨by rw [HS.out];rfl,BL.out⟩
theorem compareRef_any (a b:Rf) (w:World):Calls prog 167 #[.agg #[.string a.name,.int .i64 a.arity],.agg #[.string b.name,.int .i64 b.arity]] w λe w'=>e=.returned (.int .i64 (cmpRf a b))/\Bz w w':=by
 obtain ⟨s,m⟩:=a;obtain ⟨t,n⟩:=b;simp only;obtain ⟨W2,hW2⟩:∃ W2,W2=(w.alloc (.cells #[.string s,.int .i64 m] 110)).alloc (.cells #[.string t,.int .i64 n] 110):=⟨_,rfl⟩;have bA:Hid (Blk W2 w.heap.size #[.string s,.int .i64 m] 110):=(by show Blk _ _ _ _;rw [hW2];exact Blk.new.alloc)
 have bB:Hid (Blk W2 (w.heap.size+1) #[.string t,.int .i64 n] 110):=by
  show Blk _ _ _ _;rw [hW2];have:=Blk.new (w:=w.alloc (.cells #[.string s,.int .i64 m] 110)) (cs:=#[.string t,.int .i64 n]) (t:=110)
  rwa [alloc_hs] at this
 have HAL:Hid (Bz w W2):=(by show Below _ _ _;rw [hW2];exact ((sqN _ _)).alloc (by simp) _);have HW2:Hid (W2=(w.alloc (.cells #[.string s,.int .i64 m] 110)).alloc (.cells #[.string t,.int .i64 n] 110)):=hW2;clear hW2;obtain ⟨a0,a1⟩:=sqB2 bA.out;obtain ⟨b0,b1⟩:=sqB2 bB.out;generalize ho:or2 (cmpS s t) (cmpI m n)=o;have HO:Hid (or2 (cmpS s t) (cmpI m n)=o):=ho;have HS:Hid (cmpRf ⟨s,m⟩ ⟨t,n⟩=o):=ho;clear ho;go_enter func167,ntmps167;go_wp2_with fail;rw [<-HW2.out]
 go_region_held3 (λw'=>w'.cell? ⟨w.heap.size,0,none⟩=some (.string s)/\w'.cell? ⟨w.heap.size,1,none⟩=some (.int .i64 m)/\w'.cell? ⟨w.heap.size+1,0,none⟩=some (.string t)/\w'.cell? ⟨w.heap.size+1,1,none⟩=some (.int .i64 n))
  (first | go_keep)
  (first
   | (go_at_call 186;refine (cmpInt_any _ _ _).mono ?_;rintro e w' ⟨rfl,rfl⟩)
   | (go_at_call 185;refine (stringsCompare_any _ _ _).mono ?_;rintro e w' ⟨rfl,rfl⟩)
   | (go_at_call 184;refine (cmpOr2_any (cmpS s t) (cmpI m n) _ _ (by exact cell_new _ _ _ 0 _ rfl) (by exact cell_new _ _ _ 1 _ rfl)).mono ?_;rintro e w' ⟨rfl,rfl⟩;rw [HO.out]))
 go_split_ands;have K3:Bz W2 ((W2.alloc (.cells #[.int .i64 (cmpS s t),.int .i64 (cmpI m n)] 3)).drew):=((sqN _ _)).drew;have HB3:Hid (Bz w ((W2.alloc (.cells #[.int .i64 (cmpS s t),.int .i64 (cmpI m n)] 3)).drew)):=HAL.out.trans (K3.mono HAL.out.size);clear K3;go_wp2;go_ret;exact ⟨by rw [HS.out];rfl,HB3.out⟩
theorem refOk_any (r:Rf) (w:World) (hs:r.name.size<=maxLen) (hk:KeysAt w):Calls prog 166 #[.agg #[.string r.name,.int .i64 r.arity]] w λe w'=>e=.returned (.bool (refB r))/\Bz w w':=by
 obtain ⟨s,n⟩:=r;simp only at *;have BL:Hid (Bz w (w.alloc (.cells #[.string s,.int .i64 n] 110))):=(sqN _ _);have HK:Hid (KeysAt (w.alloc (.cells #[.string s,.int .i64 n] 110))):=⟨cell_next BL.out hk.1,cell_next BL.out hk.2.1,cell_next BL.out hk.2.2⟩;clear hk
 cases ha:atomB s with
 | true =>
  go_enter func166,ntmps166;go_wp2_with (first | (go_at_call 137;go_must (refine (implAtomOk_any _ _ hs HK.out).mono ?_;rintro e w' ⟨rfl,rfl⟩;rw [ha])) | (go_at_call 61;go_must (refine (withinM_any _ _ _ _).mono ?_;rintro e w' ⟨rfl,rfl⟩)));go_ret;exact ⟨by simp [refB,ha],BL.out⟩
 | false =>
  go_enter func166,ntmps166;go_wp2_with (first | (go_at_call 137;go_must (refine (implAtomOk_any _ _ hs HK.out).mono ?_;rintro e w' ⟨rfl,rfl⟩;rw [ha])));go_ret;exact ⟨by simp [refB,ha],BL.out⟩
theorem refOf_any (s:ByteArray) (n:Int) (p:Option Addr) (l c:Nat) (w:World):Calls prog 91 #[.agg #[.string s,.int .i64 n,.slice p l c]] w λe w'=>e=.returned (.agg #[.string s,.int .i64 n])/\Bz w w':=by
 go_enter func91,ntmps91;go_wp2;refine bodyPost_ret (v:=.agg #[.string s,.int .i64 n]) (by simp [results,results91,go_sem]) rfl ⟨rfl,?_⟩
 first | exact (sqN _ _) | exact ((sqN _ _)).alloc (by simp) _ | exact ((((sqN _ _)).alloc (by simp) _).setCell (by simp) _).setCell (by simp) _
theorem fnShape {w:World} {S:Nat->Prop} {d:Nat} {cs:List Value} {x:Fn'} (h:HFn w S d cs x):∃ p1 n1 q1,cs = [.string x.name,.int .i64 x.arity,.slice p1 n1 q1]:=by
 obtain ⟨cv,rfl,_,_,⟨p1,c1,rfl,_⟩⟩:=h;exact ⟨_,_,_,rfl⟩
theorem Rows.take {α:Type} {w:World} {S:Nat->Prop} {c:Nat} {R:List Value->α->Prop} {p:Option Addr} {n cap:Nat} {es:List α} (h:Rows w S c R (.slice p n cap) es) (k:Nat) (hk:k<=n):Rows w S c R (.slice p k cap) (es.take k):=by
 obtain ⟨p',cap',hv,h1,h2,hx⟩:=h;simp only [Value.slice.injEq] at hv;obtain ⟨rfl,rfl,rfl⟩:=hv;refine ⟨p,cap,by rw [List.length_take,Nat.min_eq_left hk],by rw [List.length_take];omega,h2,λhne=>?_⟩;obtain ⟨g,off,hp,hS,hl,hat⟩:=hx (λe=>hne (by rw [e];simp));exact ⟨g,off,hp,hS,hl,λi x hi=>hat i x (by rw [List.getElem?_take] at hi;split at hi;exact hi;cases hi)⟩
theorem refG:prog.eqGuardType prog.depth 110=false:=by kernel_rfl
theorem refH:prog.stoodInHeld 110=false:=by kernel_rfl
theorem refU:prog.underlying 110=some (.struct (prog.fieldsOf 110)):=by kernel_rfl
theorem refE (a c:ByteArray) (b d:Int) (w:World):(Op.equalIn 10000 110 (.agg #[.string a,.int .i64 b]) (.agg #[.string c,.int .i64 d])).run prog w=.ok ((a.toList == c.toList) && (b == d)) w:=by
 rw [show (10000:Nat)=9999+1 from rfl,run_equalIn_struct w 9999 _ _ _ refU refH]
 cases h1:(a.toList == c.toList) <;> cases h2:(b == d) <;> simp [go_sem,Program.fieldsOf,underlying110,underlying3,underlying9,Op.eqFields,h1,h2]
theorem hasFun_any (d:Nat) (w:World) (v:Value) (fs:List Fn') (r:Rf) (h:Rows w All 3 (HFn w All d) v fs) :
 Calls prog 140 #[v,.agg #[.string r.name,.int .i64 r.arity]] w λe w'=>e=.returned (.bool (fs.any (sameR r)))/\Bz w w':=by
 obtain ⟨rs,rn⟩:=r;simp only;obtain ⟨p,cap,rfl,hcl,hcm,hx⟩:=h;have hnb:=sqM hcl hcm;generalize hn:fs.length=n at *;have HN:=hid hn;have HX:=hid hx;obtain ⟨W1,hW1⟩:∃ W1,W1=w.alloc (.cells #[.string rs,.int .i64 rn] 110):=⟨_,rfl⟩;have bA:Hid (Blk W1 w.heap.size #[.string rs,.int .i64 rn] 110):=(by show Blk _ _ _ _;rw [hW1];exact Blk.new);have B1:Hid (Bz w W1):=(by show Below _ _ _;rw [hW1];exact (sqN _ _));have HW1:=hid hW1;clear hx hn hW1;go_enter func140,ntmps140;go_wp2_with fail;rw [<-HW1.out]
 go_loopw [9] (λiv wr=>∃ k:Nat,k<=n/\iv=.int .i64 k/\Hid ((fs.take k).any (sameR ⟨rs,rn⟩)=false)/\Hid (SameOn All W1 wr)/\Bz w wr) (λiv _=>n - (intOf iv).toNat)
 case atStart=>exact ⟨0,Nat.zero_le _,rfl,by show _=_;simp,sqS,B1.out⟩
 case round =>
  obtain ⟨k,hk,rfl,hall,hso,hb⟩:=hrel;have HB:=hid hb;by_cases hlt:k<n
  . obtain ⟨x,hxk⟩:=sqA (l:=fs) (k:=k) HN.out hlt
    obtain ⟨g,off,rfl,-,hgl,hat⟩:=HX.out (sqE hxk);obtain ⟨cs,hcsl,hcs,r1⟩:=hat k x hxk;obtain ⟨p1,n1,q1,rfl⟩:=fnShape r1;obtain ⟨xs,xn,xc⟩:=x;simp only at *;obtain ⟨a0,a1,a2⟩:=sqC3 hcs (by omega);rw [<-hb.cell (p:=⟨g,_,none⟩) hgl] at a0 a1 a2;simp at a0 a1 a2;have hki:(k:Int)<(n:Int):=(by omega);have hk0:=sqI k;obtain ⟨W5,hW5⟩:∃ W5,W5=wr.alloc (.cells #[.string xs,.int .i64 xn,.slice p1 n1 q1] 57):=⟨_,rfl⟩;have bF:Hid (Blk W5 wr.heap.size #[.string xs,.int .i64 xn,.slice p1 n1 q1] 57):=(by show Blk _ _ _ _;rw [hW5];exact Blk.new);have K5:Bz wr W5:=(by rw [hW5];exact (sqN _ _));have B5:=hid (hb.trans (K5.mono hb.size));have S5:=hid (hso.out.trans (sqO K5));have HW5:=hid hW5;have bR:=bA.out.same_on S5.out;obtain ⟨y0,y1⟩:=sqB2 bR;obtain ⟨z0,z1,z2⟩:=sqB3 bF.out;have l1:=bR.lt;have l2:=bF.out.lt;have qy0:∀ m:Wd (λw'=>SameOn All W5 w'/\Bz w w'),m.val.cell? ⟨w.heap.size,0,none⟩=some (.string rs):=λm=>(sqK (m.ok.1.2 w.heap.size trivial l1)).trans y0;have qy1:∀ m:Wd (λw'=>SameOn All W5 w'/\Bz w w'),m.val.cell? ⟨w.heap.size,1,none⟩=some (.int .i64 rn):=λm=>(sqK (m.ok.1.2 w.heap.size trivial l1)).trans y1;have qz0:∀ m:Wd (λw'=>SameOn All W5 w'/\Bz w w'),m.val.cell? ⟨wr.heap.size,0,none⟩=some (.string xs):=λm=>(sqK (m.ok.1.2 wr.heap.size trivial l2)).trans z0;have qz1:∀ m:Wd (λw'=>SameOn All W5 w'/\Bz w w'),m.val.cell? ⟨wr.heap.size,1,none⟩=some (.int .i64 xn):=λm=>(sqK (m.ok.1.2 wr.heap.size trivial l2)).trans z1;have qz2:∀ m:Wd (λw'=>SameOn All W5 w'/\Bz w w'),m.val.cell? ⟨wr.heap.size,2,none⟩=some (.slice p1 n1 q1):=λm=>(sqK (m.ok.1.2 wr.heap.size trivial l2)).trans z2;clear hb hcs hat hcsl r1 hW5 K5 y0 y1 z0 z1 z2 l1 l2 bR;go_wp2_with fail;rw [<-HW5.out];have e1:=refG;have e2:=refE;have hCne:Nonempty (Wd (λw'=>SameOn All W5 w'/\Bz w w')):=⟨⟨W5.drew,⟨sqS,B5.out.drew⟩⟩⟩;refine wp_region_class (λw'=>SameOn All W5 w'/\Bz w w') (by kernel_rfl) (by kernel_rfl) ⟨sqS,B5.out.drew⟩ ?_
    repeat (go_big_quiet_step (first | (rename_i m;go_at_call 91;refine (refOf_any _ _ _ _ _ _).mono ?_;rintro e w1 ⟨rfl,hb1⟩;exact ⟨rfl,⟨⟨w1,⟨(SameOn.trans m.ok.1 (sqO hb1)),m.ok.2.trans (hb1.mono m.ok.2.size)⟩⟩,rfl⟩⟩)))
    refine wpQuiet_nil ?_;rintro _ ⟨mq,rfl⟩;have HB4:=hid mq.ok.2;have HS4:=hid (S5.out.trans mq.ok.1);generalize mq.val=w4 at HB4 HS4 ⊢;generalize hcv:(xs.toList == rs.toList && xn == rn)=cv;have HC2:Hid (cv=false->(fs.take (k+1)).any (sameR ⟨rs,rn⟩)=false):=λh=>anyT_succ _ fs k _ hxk hall.out (show (xs.toList == rs.toList && xn == rn)=false from hcv.trans h);have HC3:Hid (cv=true->fs.any (sameR ⟨rs,rn⟩)=true):=λh=>anyT_at _ fs k _ hxk (show (xs.toList == rs.toList && xn == rn)=true from hcv.trans h);clear hcv
    cases cv with
    | false =>
     have HT':Hid _:=HC2.out rfl;clear HC2 HC3;go_wp2_with fail;exact ⟨⟨k+1,by omega,by go_num,HT'.out,HS4.out,HB4.out⟩,by simp [intOf];omega⟩
    | true =>
     have HF:Hid _:=HC3.out rfl;clear HC2 HC3;go_wp2;go_ret;exact ⟨by rw [HF.out];rfl,HB4.out⟩
  . have HD:Hid (fs.any (sameR ⟨rs,rn⟩)=false):=by
     have:=hall.out
     rwa [List.take_of_length_le (by rw [HN.out];omega)] at this
    clear hb;go_wp2;go_ret;exact ⟨by rw [HD.out];rfl,HB.out⟩
def rfsAt (es:List Rf) (k:Nat):Bool :=
 match es[k]? with
 | none=>true
 | some r=>refB r && (match k with
  | 0=>true
  | j+1=>match es[j]? with
   | none=>true
   | some q=>lessB q r)
def rfsB (es:List Rf):Bool:=(List.range es.length).all (rfsAt es)
def fnB (d:Nat) (f:Fn'):Bool:=refB ⟨f.name,f.arity⟩ && (inB f.clauses.length 1 20 && f.clauses.all (λc=>clB (λy q=>exOk d y q 40) c f.arity))
def fnsAt (d:Nat) (fs:List Fn') (k:Nat):Bool :=
 match fs[k]? with
 | none=>true
 | some f=>fnB d f && !(fs.take k).any (sameR ⟨f.name,f.arity⟩)
def fnsB (d:Nat) (fs:List Fn'):Bool:=(List.range fs.length).all (fnsAt d fs)
def mdOk (d:Nat) (m:Md):Bool:=atomB m.name && ((decide (m.exports.length<=20) && rfsB m.exports) && (inB m.funs.length 1 30 && fnsB d m.funs))
theorem rangeT_succ (f:Nat->Bool) (k:Nat) (h:(List.range k).all f=true) (hk:f k=true):(List.range (k+1)).all f=true:=by
 rw [List.range_succ,List.all_append,h];simp [hk]
theorem rangeT_at (f:Nat->Bool) (n k:Nat) (hk:k<n) (h:f k=false):(List.range n).all f=false:=by
 rw [List.all_eq_false];exact ⟨k,List.mem_range.2 hk,by simp [h]⟩
theorem rfsAt_zero {es:List Rf} {k:Nat} {r:Rf} (hk:k=0) (h:es[k]?=some r):rfsAt es k=refB r:=by
 subst hk;simp [rfsAt,h]
theorem rfsAt_succ {es:List Rf} {k:Nat} {q r:Rf} (hk:¬ k=0) (hq:es[k - 1]?=some q) (hr:es[k]?=some r):rfsAt es k=(refB r && lessB q r):=by
 obtain ⟨j,rfl⟩:∃ j,k=j+1:=⟨k - 1,by omega⟩;simp only [Nat.add_sub_cancel] at hq;simp [rfsAt,hr,hq]
theorem fnsAt_eq {d:Nat} {fs:List Fn'} {k:Nat} {f:Fn'} (h:fs[k]?=some f):fnsAt d fs k=(fnB d f && !(fs.take k).any (sameR ⟨f.name,f.arity⟩)):=by
 simp [fnsAt,h]
theorem fnB_eq (d:Nat) (s:ByteArray) (n:Int) (cl:List Cl):fnB d ⟨s,n,cl⟩=(refB ⟨s,n⟩ && (inB cl.length 1 20 && cl.all (λc=>clB (λy q=>exOk d y q (40 - 0)) c n))):=by
 simp [fnB]
theorem funOk_any (d:Nat) (w:World) (cs:List Value) (f:Fn') (hT:Tabs w) (h:HFn w All d cs f) :
 Calls prog 168 #[.agg cs.toArray] w λe w'=>e=.returned (.bool (fnB d f))/\Bz w w':=by
 have HT:=hid hT;obtain ⟨cv,rfl,hs,-,f0⟩:=h;obtain ⟨fs,fa,cl⟩:=f;simp only at *;obtain ⟨p,cap,rfl,hcl,hcm,hx⟩:=f0;have hnb:=sqM hcl hcm;rw [fnB_eq];generalize hn:cl.length=n at *;have HN:=hid hn;have HX:=hid hx;have BL:Hid (Bz w (w.alloc (.cells #[.string fs,.int .i64 fa,.slice p n cap] 57))):=(sqN _ _);clear hx hn hT
 cases hr:refB ⟨fs,fa⟩ with
 | false =>
  go_enter func168,ntmps168;go_wp2_with fail;refine (refOf_any fs fa p n cap _).mono ?_;rintro e w2 ⟨rfl,hb2⟩;have B2:=hid (BL.out.trans (hb2.mono BL.out.size));have g2:Hid (Blk w2 w.heap.size #[.string fs,.int .i64 fa,.slice p n cap] 57):=(Blk.new (w:=w)).next hb2;clear hb2;go_wp2_with fail;refine (refOk_any ⟨fs,fa⟩ _ hs (HT.out.below B2.out).keys).mono ?_;rintro e w3 ⟨rfl,hb3⟩;rw [hr];have B3:=hid (B2.out.trans (hb3.mono B2.out.size));have g3:=hid (g2.out.next hb3);clear hb3 g2;go_wp2;go_ret;exact ⟨by simp,B3.out⟩
 | true =>
  cases hin:inB n 1 20 with
  | false =>
   go_enter func168,ntmps168;go_wp2_with fail;refine (refOf_any fs fa p n cap _).mono ?_;rintro e w2 ⟨rfl,hb2⟩;have B2:=hid (BL.out.trans (hb2.mono BL.out.size));have g2:Hid (Blk w2 w.heap.size #[.string fs,.int .i64 fa,.slice p n cap] 57):=(Blk.new (w:=w)).next hb2;clear hb2;go_wp2_with fail;refine (refOk_any ⟨fs,fa⟩ _ hs (HT.out.below B2.out).keys).mono ?_;rintro e w3 ⟨rfl,hb3⟩;rw [hr];have B3:=hid (B2.out.trans (hb3.mono B2.out.size));have g3:=hid (g2.out.next hb3);clear hb3 g2;obtain ⟨xa0,xa1,xa2⟩:=sqB3 g3.out;go_wp2_with (first | (go_at_call 61;go_must (refine (withinM_any _ _ _ _).mono ?_;rintro e w9 ⟨rfl,hw9⟩;rw [hin,hw9];clear hw9 w9)));go_ret;exact ⟨by simp,B3.out⟩
  | true =>
   go_enter func168,ntmps168;go_wp2_with fail;refine (refOf_any fs fa p n cap _).mono ?_;rintro e w2 ⟨rfl,hb2⟩;have B2:=hid (BL.out.trans (hb2.mono BL.out.size));have g2:Hid (Blk w2 w.heap.size #[.string fs,.int .i64 fa,.slice p n cap] 57):=(Blk.new (w:=w)).next hb2;clear hb2;go_wp2_with fail;refine (refOk_any ⟨fs,fa⟩ _ hs (HT.out.below B2.out).keys).mono ?_;rintro e w3 ⟨rfl,hb3⟩;rw [hr];have B3:=hid (B2.out.trans (hb3.mono B2.out.size));have g3:=hid (g2.out.next hb3);clear hb3 g2;obtain ⟨xa0,xa1,xa2⟩:=sqB3 g3.out;go_wp2_with (first | (go_at_call 61;go_must (refine (withinM_any _ _ _ _).mono ?_;rintro e w9 ⟨rfl,hw9⟩;rw [hin,hw9];clear hw9 w9)));obtain ⟨W1,hW1⟩:∃ W1,W1=w3:=⟨_,rfl⟩;have bA:Hid (Blk W1 w.heap.size #[.string fs,.int .i64 fa,.slice p n cap] 57):=(by show Blk _ _ _ _;rw [hW1];exact g3.out);have B1:Hid (Bz w W1):=(by show Below _ _ _;rw [hW1];exact B3.out);rw [<-hW1];clear hW1 g3 B3 xa0 xa1 xa2
   go_loopw [19] (λiv wr=>∃ k:Nat,k<=n/\iv=.int .i64 k/\Hid ((cl.take k).all (λc=>clB (λy q=>exOk d y q (40 - 0)) c fa)=true)/\Hid (SameOn All W1 wr)/\Bz w wr) (λiv _=>n - (intOf iv).toNat)
   case atStart=>exact ⟨0,Nat.zero_le _,rfl,by show _=_;simp,sqS,B1.out⟩
   case round =>
    obtain ⟨k,hk,rfl,hall,hso,hb⟩:=hrel;have HB:=hid hb;have b1:=bA.out.same_on hso.out;have hlw:=b1.lt;have xa1:=b1.cell 1 _ rfl;clear b1;by_cases hlt:k<n
    . obtain ⟨x,hxk⟩:=sqA (l:=cl) (k:=k) HN.out hlt
      obtain ⟨g,off,rfl,-,hgl,hat⟩:=HX.out (sqE hxk);obtain ⟨cs,hcsl,hcs,r1⟩:=hat k x hxk;obtain ⟨p1,n1,q1,p2,n2,q2,rfl⟩:=clShape r1;have E1:∀ w',Bz w w'->HCl w' All (HEx w' All d) [.slice p1 n1 q1,.slice p2 n2 q2] x:=λw' hw=>r1.mono (sqO hw) sqj (λ_ _ h=>h.mono (sqO hw) sqj);obtain ⟨a0,a1⟩:=sqC2 hcs (by omega);rw [<-hb.cell (p:=⟨g,_,none⟩) hgl] at a0 a1;simp at a0 a1;have hki:(k:Int)<(n:Int):=(by omega);have hk0:=sqI k;have HBA:Hid (Bz w (wr.alloc (.cells #[.slice p1 n1 q1,.slice p2 n2 q2] 44))):=HB.out.alloc HB.out.size _;clear hb hcs hat hcsl r1;generalize hcv:clB (λy q=>exOk d y q (40 - 0)) x fa=cv;have HCV:=hid hcv;have HC2:Hid (cv=true->(cl.take (k+1)).all (λc=>clB (λy q=>exOk d y q (40 - 0)) c fa)=true):=λh=>allT_succ _ cl k x hxk hall.out (hcv.trans h);have HC3:Hid (cv=false->cl.all (λc=>clB (λy q=>exOk d y q (40 - 0)) c fa)=false):=λh=>allT_at _ cl k x hxk (hcv.trans h);clear hcv;go_wp2_with fail;refine (clause_allI d _ _ x fa 0 (HT.out.below HBA.out) (E1 _ HBA.out) (by omega) (by omega)).mono ?_;rintro e w4 ⟨rfl,hb4⟩;rw [HCV.out];have HB4:=hid (HBA.out.trans (hb4.mono HBA.out.size));have HS4:Hid (SameOn All W1 w4):=(hso.out.trans (sqO ((sqN _ _)))).trans (sqO hb4);clear hb4 HCV
      cases cv with
      | true =>
       have HT':Hid _:=HC2.out rfl;clear HC2 HC3;go_wp2_with fail;exact ⟨⟨k+1,by omega,by go_num,HT'.out,HS4.out,HB4.out⟩,by simp [intOf];omega⟩
      | false =>
       have HF:Hid (cl.all (λc=>clB (λy q=>exOk d y q (40 - 0)) c fa)=false):=HC3.out rfl;clear HC2 HC3;go_wp2;go_ret;exact ⟨by first | (rw [HF.out];rfl) | (rw [HF.out];simp),HB4.out⟩
    . have HD:Hid (cl.all (λc=>clB (λy q=>exOk d y q (40 - 0)) c fa)=true):=by
       have:=hall.out
       rwa [List.take_of_length_le (by rw [HN.out];omega)] at this
      clear hb;go_wp2;go_ret;exact ⟨by first | (rw [HD.out];rfl) | (rw [HD.out];simp),HB.out⟩
theorem funsOk_any (d:Nat) (w:World) (v:Value) (fs:List Fn') (hT:Tabs w) (h:Rows w All 3 (HFn w All d) v fs) :
 Calls prog 139 #[v] w λe w'=>e=.returned (.bool (inB fs.length 1 30 && fnsB d fs))/\Bz w w':=by
 have HT:=hid hT;have HR:∀ w',Bz w w'->Rows w' All 3 (HFn w' All d) v fs:=λw' hw=>h.mono (sqO hw) sqj (λ_ _ _ h=>h.mono (sqO hw) sqj);obtain ⟨p,cap,rfl,hcl,hcm,hx⟩:=h;have hnb:=sqM hcl hcm;have hfn:fnsB d fs=(List.range fs.length).all (fnsAt d fs):=rfl;rw [hfn];clear hfn;generalize hn:fs.length=n at *;have HN:=hid hn;have HX:=hid hx;clear hx hn hT
 cases hin:inB n 1 30 with
 | false =>
  go_enter func139,ntmps139;go_wp2_with (first | (go_at_call 61;go_must (refine (withinM_any _ _ _ _).mono ?_;rintro e w9 ⟨rfl,hw9⟩;rw [hin,hw9];clear hw9 w9)));go_ret;exact ⟨by simp,Below.refl _ _⟩
 | true =>
  go_enter func139,ntmps139;go_wp2_with (first | (go_at_call 61;go_must (refine (withinM_any _ _ _ _).mono ?_;rintro e w9 ⟨rfl,hw9⟩;rw [hin,hw9];clear hw9 w9)))
  go_loopw [11] (λiv wr=>∃ k:Nat,k<=n/\iv=.int .i64 k/\Hid ((List.range k).all (fnsAt d fs)=true)/\Bz w wr) (λiv _=>n - (intOf iv).toNat)
  case atStart=>exact ⟨0,Nat.zero_le _,rfl,by show _=_;simp,Below.refl _ _⟩
  case round =>
   obtain ⟨k,hk,rfl,hall,hb⟩:=hrel;have HB:=hid hb;by_cases hlt:k<n
   . obtain ⟨x,hxk⟩:=sqA (l:=fs) (k:=k) HN.out hlt
     obtain ⟨g,off,rfl,-,hgl,hat⟩:=HX.out (sqE hxk);obtain ⟨cs,hcsl,hcs,r1⟩:=hat k x hxk;obtain ⟨p1,n1,q1,rfl⟩:=fnShape r1;have E1:∀ w',Bz w w'->HFn w' All d [.string x.name,.int .i64 x.arity,.slice p1 n1 q1] x:=λw' hw=>r1.mono (sqO hw) sqj;have HAT:Hid (fnsAt d fs k=(fnB d x && !(fs.take k).any (sameR ⟨x.name,x.arity⟩))):=fnsAt_eq hxk;have RT:∀ w',Bz w w'->Rows w' All 3 (HFn w' All d) (.slice (some ⟨g,off,none⟩) k cap) (fs.take k):=λw' hw=>(HR w' hw).take k (by omega);generalize hca:fnB d x=ca at *;generalize hcb:(fs.take k).any (sameR ⟨x.name,x.arity⟩)=cb at *;have HCA:=hid hca;have HCB:=hid hcb;generalize x.name=xs at *;generalize x.arity=xn at *;obtain ⟨a0,a1,a2⟩:=sqC3 hcs (by omega);rw [<-hb.cell (p:=⟨g,_,none⟩) hgl] at a0 a1 a2;simp at a0 a1 a2;have hki:(k:Int)<(n:Int):=(by omega);have hk0:=sqI k;have hkc:(k:Int)<=(cap:Int):=(by omega);obtain ⟨W5,hW5⟩:∃ W5,W5=wr.alloc (.cells #[.string xs,.int .i64 xn,.slice p1 n1 q1] 57):=⟨_,rfl⟩;have bF:Hid (Blk W5 wr.heap.size #[.string xs,.int .i64 xn,.slice p1 n1 q1] 57):=(by show Blk _ _ _ _;rw [hW5];exact Blk.new);have K5:Bz wr W5:=(by rw [hW5];exact (sqN _ _));have B5:=hid (hb.trans (K5.mono hb.size));have HW5:=hid hW5;obtain ⟨z0,z1,z2⟩:=sqB3 bF.out;have l2:=bF.out.lt;have qz0:∀ m:Wd (λw'=>SameOn All W5 w'/\Bz w w'),m.val.cell? ⟨wr.heap.size,0,none⟩=some (.string xs):=λm=>(sqK (m.ok.1.2 wr.heap.size trivial l2)).trans z0;have qz1:∀ m:Wd (λw'=>SameOn All W5 w'/\Bz w w'),m.val.cell? ⟨wr.heap.size,1,none⟩=some (.int .i64 xn):=λm=>(sqK (m.ok.1.2 wr.heap.size trivial l2)).trans z1;have qz2:∀ m:Wd (λw'=>SameOn All W5 w'/\Bz w w'),m.val.cell? ⟨wr.heap.size,2,none⟩=some (.slice p1 n1 q1):=λm=>(sqK (m.ok.1.2 wr.heap.size trivial l2)).trans z2;clear hb hcs hat hcsl r1 hW5 K5 z0 z1 z2 l2 hca hcb
     cases ca with
     | false =>
      have HF:Hid ((List.range n).all (fnsAt d fs)=false):=rangeT_at _ n k hlt (by rw [HAT.out];rfl);go_wp2_with fail;rw [<-HW5.out];have hCne:Nonempty (Wd (λw'=>SameOn All W5 w'/\Bz w w')):=⟨⟨W5.drew,⟨sqS,B5.out.drew⟩⟩⟩;refine wp_region_class (λw'=>SameOn All W5 w'/\Bz w w') (by kernel_rfl) (by kernel_rfl) ⟨sqS,B5.out.drew⟩ ?_
      repeat (go_big_quiet_step (first | (rename_i m;go_at_call 168;refine (funOk_any d _ _ x (HT.out.below m.ok.2) (E1 _ m.ok.2)).mono ?_;rintro e w1 ⟨rfl,hb1⟩;exact ⟨by rw [HCA.out],⟨⟨w1,⟨(SameOn.trans m.ok.1 (sqO hb1)),m.ok.2.trans (hb1.mono m.ok.2.size)⟩⟩,rfl⟩⟩)))
      refine wpQuiet_nil ?_;rintro _ ⟨mq,rfl⟩;have HB4:=hid mq.ok.2;have HS4:=hid mq.ok.1;generalize mq.val=w4 at HB4 HS4 ⊢;go_wp2;go_ret;exact ⟨by rw [HF.out];rfl,HB4.out⟩
     | true =>
      have HT2:Hid (cb=false->(List.range (k+1)).all (fnsAt d fs)=true):=λh=>rangeT_succ _ k hall.out (by rw [HAT.out,h];rfl);have HF:Hid (cb=true->(List.range n).all (fnsAt d fs)=false):=λh=>rangeT_at _ n k hlt (by rw [HAT.out,h];rfl);go_wp2_with fail;rw [<-HW5.out];have hCne:Nonempty (Wd (λw'=>SameOn All W5 w'/\Bz w w')):=⟨⟨W5.drew,⟨sqS,B5.out.drew⟩⟩⟩;refine wp_region_class (λw'=>SameOn All W5 w'/\Bz w w') (by kernel_rfl) (by kernel_rfl) ⟨sqS,B5.out.drew⟩ ?_
      repeat (go_big_quiet_step (first | (rename_i m;go_at_call 168;refine (funOk_any d _ _ x (HT.out.below m.ok.2) (E1 _ m.ok.2)).mono ?_;rintro e w1 ⟨rfl,hb1⟩;exact ⟨by rw [HCA.out],⟨⟨w1,⟨(SameOn.trans m.ok.1 (sqO hb1)),m.ok.2.trans (hb1.mono m.ok.2.size)⟩⟩,rfl⟩⟩) | (rename_i m;go_at_call 91;refine (refOf_any _ _ _ _ _ _).mono ?_;rintro e w1 ⟨rfl,hb1⟩;exact ⟨rfl,⟨⟨w1,⟨(SameOn.trans m.ok.1 (sqO hb1)),m.ok.2.trans (hb1.mono m.ok.2.size)⟩⟩,rfl⟩⟩) | (rename_i m;go_at_call 140;refine (hasFun_any d _ _ (fs.take k) ⟨xs,xn⟩ (RT _ m.ok.2)).mono ?_;rintro e w1 ⟨rfl,hb1⟩;exact ⟨by rw [HCB.out],⟨⟨w1,⟨(SameOn.trans m.ok.1 (sqO hb1)),m.ok.2.trans (hb1.mono m.ok.2.size)⟩⟩,rfl⟩⟩)))
      refine wpQuiet_nil ?_;rintro _ ⟨mq,rfl⟩;have HB4:=hid mq.ok.2;have HS4:=hid mq.ok.1;generalize mq.val=w4 at HB4 HS4 ⊢
      cases cb with
      | false =>
       have HT':Hid _:=HT2.out rfl;clear HT2 HF;go_wp2_with fail;exact ⟨⟨k+1,by omega,by go_num,HT'.out,HB4.out⟩,by simp [intOf];omega⟩
      | true =>
       have HF':Hid _:=HF.out rfl;clear HT2 HF;go_wp2;go_ret;exact ⟨by rw [HF'.out];rfl,HB4.out⟩
   . have HD:Hid ((List.range n).all (fnsAt d fs)=true):=by
      obtain rfl:k=n:=(by omega);exact hall.out
     clear hb;go_wp2;go_ret;exact ⟨by rw [HD.out];rfl,HB.out⟩
theorem any_take_lt {α:Type} (f:α->Bool) (xs:List α) (i k:Nat) (x:α) (h:xs[k]?=some x) (hf:f x=true) (hki:k<i):(xs.take i).any f=true:=by
 rw [List.any_eq_true];refine ⟨x,List.mem_of_getElem? (i:=k) ?_,hf⟩;rw [List.getElem?_take,if_pos hki];exact h
theorem l02Find_any (d:Nat) (w:World) (ms:ByteArray) (pe:Option Addr) (ne ce:Nat) (v:Value) (fs:List Fn') (i:Nat) (f:Fn') (h:Rows w All 3 (HFn w All d) v fs) (hi:fs[i]?=some f) :
 Calls prog 49 #[.agg #[.string ms,.slice pe ne ce,v],.string f.name,.int .i64 f.arity] w λe w'=>∃ r:Int,e=.returned (.int .i64 r)/\(r == (i:Int)) = !(fs.take i).any (sameR ⟨f.name,f.arity⟩)/\Below w.heap.size w w':=by
 obtain ⟨pf,cf,rfl,hcl,hcm,hx⟩:=h;have hnb:=sqM hcl hcm;have HI:=hid hi;have hself:sameR ⟨f.name,f.arity⟩ f=true:=(by simp [sameR]);have HSELF:=hid hself;obtain ⟨rs,rn,fcl⟩:=f;simp only at *;generalize hn:fs.length=nf at *;have HN:=hid hn;have HX:=hid hx;obtain ⟨W1,hW1⟩:∃ W1,W1=w.alloc (.cells #[.string ms,.slice pe ne ce,.slice pf nf cf] 61):=⟨_,rfl⟩;have bA:Hid (Blk W1 w.heap.size #[.string ms,.slice pe ne ce,.slice pf nf cf] 61):=(by show Blk _ _ _ _;rw [hW1];exact Blk.new);have B1:Hid (Below w.heap.size w W1):=(by show Below _ _ _;rw [hW1];exact (sqN _ _));have xa2:=bA.out.cell 2 _ rfl;have HW1:=hid hW1;clear hx hn hi hself hW1;go_enter func49,ntmps49;go_wp2_with fail;rw [<-HW1.out]
 go_loop [7] (λiv=>∃ k:Nat,k<=nf/\iv=.int .i64 k/\Hid ((fs.take k).any (sameR ⟨rs,rn⟩)=false)) (λiv=>nf - (intOf iv).toNat)
 case atStart=>exact ⟨0,Nat.zero_le _,rfl,by show _=_;simp⟩
 case round =>
  obtain ⟨k,hk,rfl,hall⟩:=hrel;by_cases hlt:k<nf
  . obtain ⟨x,hxk⟩:=sqA (l:=fs) (k:=k) HN.out hlt
    obtain ⟨g,off,rfl,-,hgl,hat⟩:=HX.out (sqE hxk);obtain ⟨cs,hcsl,hcs,r1⟩:=hat k x hxk;obtain ⟨p1,n1,q1,rfl⟩:=fnShape r1;have HC2:Hid (sameR ⟨rs,rn⟩ x=false->(fs.take (k+1)).any (sameR ⟨rs,rn⟩)=false):=λh=>anyT_succ _ fs k _ hxk hall.out h
    have HC3:Hid (sameR ⟨rs,rn⟩ x=true->((k:Int) == (i:Int)) = !(fs.take i).any (sameR ⟨rs,rn⟩)):=λh=>by
     have hki:k<=i:=Classical.byContradiction λhc=>by
      have:=any_take_lt (sameR ⟨rs,rn⟩) fs k i _ HI.out HSELF.out (by omega);rw [hall.out] at this;cases this
     by_cases he:k=i
     . subst he;rw [hall.out];simp
     . rw [any_take_lt (sameR ⟨rs,rn⟩) fs i k x hxk h (by omega)];simp;omega
    obtain ⟨xs,xn,xc⟩:=x;simp only at *;have hsm:sameR ⟨rs,rn⟩ ⟨xs,xn,xc⟩=(xs.toList == rs.toList && xn == rn):=rfl;rw [hsm] at HC2 HC3;obtain ⟨a0,a1,a2⟩:=sqC3 hcs (by omega);rw [<-B1.out.cell (p:=⟨g,_,none⟩) hgl] at a0 a1 a2;simp at a0 a1 a2;have hki:(k:Int)<(nf:Int):=(by omega);have hk0:=sqI k;clear hcs hat hcsl r1 hsm
    cases c1:(xs.toList == rs.toList) with
    | false =>
     have HT':=hid (HC2.out (by rw [c1];rfl));clear HC2 HC3;go_wp2
     go_round
     case rel=>exact ⟨k+1,by omega,by go_num,HT'⟩
     case measure=>simp [intOf];omega
    | true =>
     cases c2:(xn == rn) with
     | false =>
      have HT':=hid (HC2.out (by rw [c2,Bool.and_false]));clear HC2 HC3;go_wp2
      go_round
      case rel=>exact ⟨k+1,by omega,by go_num,HT'⟩
      case measure=>simp [intOf];omega
     | true =>
      have HF:=hid (HC3.out (by rw [c1,c2];rfl));clear HC2 HC3;go_wp2;go_ret;exact ⟨_,rfl,HF.out,B1.out⟩
  . exfalso
    have h1:=hall.out
    have h2:=any_take_lt (sameR ⟨rs,rn⟩) fs k i _ HI.out HSELF.out (by
     have:=(List.getElem?_eq_some_iff.1 HI.out).1;have:=HN.out
     omega)
    rw [h1] at h2;cases h2
theorem specModuleOk_any (d:Nat) (w:World) (cs:List Value) (m:Md) (h:HMd w All d cs m) :
 Calls prog 72 #[.agg cs.toArray] w λe w'=>e=.returned (.bool (mdOk d m))/\Below w.heap.size w w':=by
 obtain ⟨ev,fv,rfl,hs,f0,f1⟩:=h;obtain ⟨ms,es,fs⟩:=m;simp only at *;have FR:∀ w',Below w.heap.size w w'->Rows w' All 3 (HFn w' All d) fv fs:=λw' hw=>f1.mono (sqO hw) sqj (λ_ _ _ h=>h.mono (sqO hw) sqj);obtain ⟨pe,ce,rfl,hce,hcme,hxe⟩:=f0;obtain ⟨pf,cf,rfl,hcf,hcmf,hxf⟩:=f1;have hne:es.length<=9223372036854775807:=(by unfold maxLen at hcme;omega);have hnf:fs.length<=9223372036854775807:=(by unfold maxLen at hcmf;omega);have hv:mdOk d ⟨ms,es,fs⟩=(atomB ms && ((decide (es.length<=20) && (List.range es.length).all (rfsAt es)) && (inB fs.length 1 30 && (List.range fs.length).all (fnsAt d fs)))):=rfl;rw [hv];clear hv;generalize hn:es.length=ne at *;generalize hn2:fs.length=nf at *;have HN:Hid (es.length=ne):=hn;have HN2:Hid (fs.length=nf):=hn2;have HE:Hid (es≠[]->∃ g off,pe=some ⟨g,off,none⟩/\All g/\g<w.heap.size/\∀ i x,es[i]?=some x->∃ cs,cs.length=2/\(∀ j,j<2->w.cell? ⟨g,off+i * 2+j,none⟩=cs[j]?)/\HRf cs x):=hxe;have HF0:Hid (fs≠[]->∃ g off,pf=some ⟨g,off,none⟩/\All g/\g<w.heap.size/\∀ i x,fs[i]?=some x->∃ cs,cs.length=3/\(∀ j,j<3->w.cell? ⟨g,off+i * 3+j,none⟩=cs[j]?)/\HFn w All d cs x):=hxf;obtain ⟨W1,hW1⟩:∃ W1,W1=w.alloc (.cells #[.string ms,.slice pe ne ce,.slice pf nf cf] 61):=⟨_,rfl⟩;have bA:Hid (Blk W1 w.heap.size #[.string ms,.slice pe ne ce,.slice pf nf cf] 61):=(by show Blk _ _ _ _;rw [hW1];exact Blk.new);have B1:Hid (Below w.heap.size w W1):=(by show Below _ _ _;rw [hW1];exact (sqN _ _));have HW1:Hid (W1=w.alloc (.cells #[.string ms,.slice pe ne ce,.slice pf nf cf] 61)):=hW1;clear hxe hxf hn hn2 hW1
 cases ha:atomB ms with
 | false =>
  go_enter func72,ntmps72;go_wp2_with (first | (go_at_call 103;go_must (refine (specAtomOk_any _ _ hs).mono ?_;rintro e w9 ⟨rfl,rfl⟩;rw [ha])));rw [<-HW1.out];go_ret;exact ⟨by simp,B1.out⟩
 | true =>
 by_cases h20:¬ ne<=20
 . have h21:(20:Int)<(ne:Int):=by omega
   rw [decide_eq_false h20];go_enter func72,ntmps72;go_wp2_with (first | (go_at_call 103;go_must (refine (specAtomOk_any _ _ hs).mono ?_;rintro e w9 ⟨rfl,rfl⟩;rw [ha])));rw [<-HW1.out];go_ret;exact ⟨by simp,B1.out⟩
 replace h20:ne<=20:=by omega
 have h21:¬ (20:Int)<(ne:Int):=(by omega);rw [decide_eq_true h20]
 cases hin:inB nf 1 30 with
 | false =>
  go_enter func72,ntmps72;go_wp2_with (first | (go_at_call 103;go_must (refine (specAtomOk_any _ _ hs).mono ?_;rintro e w9 ⟨rfl,rfl⟩;rw [ha])) | (go_at_call 40;go_must (refine (l01In_any _ _ _ _).mono ?_;rintro e w9 ⟨rfl,rfl⟩;rw [hin])));rw [<-HW1.out];go_ret;exact ⟨by simp,B1.out⟩
 | true =>
 simp only [Bool.true_and];go_enter func72,ntmps72;go_wp2_with (first | (go_at_call 103;go_must (refine (specAtomOk_any _ _ hs).mono ?_;rintro e w9 ⟨rfl,rfl⟩;rw [ha])) | (go_at_call 40;go_must (refine (l01In_any _ _ _ _).mono ?_;rintro e w9 ⟨rfl,rfl⟩;rw [hin])));rw [<-HW1.out]
 go_loopw [3] (λiv wr=>∃ k:Nat,k<=ne/\iv=.int .i64 k/\Hid ((List.range k).all (rfsAt es)=true)/\Hid (SameOn All W1 wr)/\Below w.heap.size w wr) (λiv _=>ne - (intOf iv).toNat)
 case atStart=>exact ⟨0,Nat.zero_le _,rfl,by show _=_;simp,sqS,B1.out⟩
 case round =>
  obtain ⟨k,hk,rfl,hall,hso,hb⟩:=hrel;have HB:Hid (Below w.heap.size w wr):=hb;have b1:=bA.out.same_on hso.out;have hlw:=b1.lt;obtain ⟨xa0,xa1,xa2⟩:=sqB3 b1;clear b1;by_cases hlt:k<ne
  . obtain ⟨x,hxk⟩:=sqA (l:=es) (k:=k) HN.out hlt
    obtain ⟨g,off,rfl,-,hgl,hat⟩:=HE.out (sqE hxk);obtain ⟨cs,hcsl,hcs,r1⟩:=hat k x hxk;obtain ⟨rfl,hxs,-⟩:=r1;have hgw:g<wr.heap.size:=Nat.lt_of_lt_of_le hgl hb.size;have HAT0:Hid (k=0->rfsAt es k=refB x):=λh=>rfsAt_zero h hxk
    have HATS:Hid (∀ j,k=j+1->∃ q:Rf,rfsAt es k=(refB x && lessB q x)/\wr.cell? ⟨g,off+j * 2,none⟩=some (.string q.name)/\wr.cell? ⟨g,off+j * 2+1,none⟩=some (.int .i64 q.arity)):=λj hj=>by
     obtain ⟨q,hq⟩:∃ q,es[j]?=some q:=⟨es[j]'(by rw [HN.out];omega),List.getElem?_eq_getElem _⟩;obtain ⟨cs',_,hcs',rfl,hqs,_⟩:=hat j q hq;obtain ⟨b0,b1⟩:=sqC2 hcs' (by omega);rw [<-hb.cell (p:=⟨g,_,none⟩) hgl] at b0 b1;exact ⟨q,rfsAt_succ (by omega) (by rw [hj];exact hq) hxk,by simpa using b0,by simpa using b1⟩
    obtain ⟨a0,a1⟩:=sqC2 hcs (by omega);rw [<-hb.cell (p:=⟨g,_,none⟩) hgl] at a0 a1;simp at a0 a1;have hki:(k:Int)<(ne:Int):=(by omega);have hk0:=sqI k;obtain ⟨xs,xn⟩:=x;simp only at *;have hrf:refB ⟨xs,xn⟩=(atomB xs && inB xn 0 6):=rfl;rw [hrf] at HAT0 HATS;generalize hca:atomB xs=ca at *;have HCA:Hid (atomB xs=ca):=hca;generalize hci:inB xn 0 6=ci at *;have HCI:Hid (inB xn 0 6=ci):=hci;obtain ⟨W5,hW5⟩:∃ W5,W5=wr.alloc (.cells #[.string xs,.int .i64 xn] 110):=⟨_,rfl⟩;have bF:Hid (Blk W5 wr.heap.size #[.string xs,.int .i64 xn] 110):=(by show Blk _ _ _ _;rw [hW5];exact Blk.new);have K5:Hid (Below wr.heap.size wr W5):=(by show Below _ _ _;rw [hW5];exact (sqN _ _));have B5:Hid (Below w.heap.size w W5):=hb.trans (K5.out.mono hb.size);have S5:Hid (SameOn All W1 W5):=hso.out.trans (sqO K5.out);have HW5:Hid (W5=wr.alloc (.cells #[.string xs,.int .i64 xn] 110)):=hW5;have hg5:g<W5.heap.size:=Nat.lt_of_lt_of_le hgw K5.out.size;obtain ⟨z0,z1⟩:=sqB2 bF.out;have l2:=bF.out.lt;have bM:=bA.out.same_on S5.out;have u1:=bM.cell 1 _ rfl;have l3:=bM.lt;have qz0:∀ m:Wd (λw'=>SameOn All W5 w'/\Below w.heap.size w w'),m.val.cell? ⟨wr.heap.size,0,none⟩=some (.string xs):=λm=>(sqK (m.ok.1.2 wr.heap.size trivial l2)).trans z0;have qz1:∀ m:Wd (λw'=>SameOn All W5 w'/\Below w.heap.size w w'),m.val.cell? ⟨wr.heap.size,1,none⟩=some (.int .i64 xn):=λm=>(sqK (m.ok.1.2 wr.heap.size trivial l2)).trans z1;have qu1:∀ m:Wd (λw'=>SameOn All W5 w'/\Below w.heap.size w w'),m.val.cell? ⟨w.heap.size,1,none⟩=some (.slice (some ⟨g,off,none⟩) ne ce):=λm=>(sqK (m.ok.1.2 w.heap.size trivial l3)).trans u1;clear hb hcs hat hcsl hW5 z0 z1 l2 hca hci bM u1 l3;by_cases hac:(ca && ci)=false
    . have HF:Hid ((List.range ne).all (rfsAt es)=false):=rangeT_at _ ne k hlt (by
       rcases Nat.eq_zero_or_pos k with h | h
       . rw [HAT0.out h,hac]
       . obtain ⟨q,hq,_⟩:=HATS.out (k - 1) (by omega)
         rw [hq,hac];rfl)
      clear HAT0 HATS
      cases ca with
      | false =>
       go_wp2_with fail;rw [<-HW5.out];have hCne:Nonempty (Wd (λw'=>SameOn All W5 w'/\Below w.heap.size w w')):=⟨⟨W5.drew,⟨sqS,B5.out.drew⟩⟩⟩;refine wp_region_class (λw'=>SameOn All W5 w'/\Below w.heap.size w w') (by kernel_rfl) (by kernel_rfl) ⟨sqS,B5.out.drew⟩ ?_
       repeat (go_big_quiet_step (first | (rename_i m;go_at_call 103;refine (specAtomOk_any _ _ hxs).mono ?_;rintro e w1 ⟨rfl,rfl⟩;exact ⟨by rw [HCA.out],⟨m,rfl⟩⟩)))
       refine wpQuiet_nil ?_;rintro _ ⟨mq,rfl⟩;have HB4:Hid (Below w.heap.size w mq.val):=mq.ok.2;have HS4:Hid (SameOn All W5 mq.val):=mq.ok.1;generalize mq.val=w4 at HB4 HS4 ⊢;go_wp2;go_ret;exact ⟨by rw [HF.out];rfl,HB4.out⟩
      | true =>
       obtain rfl:ci=false:=(by simpa using hac);clear hac;go_wp2_with fail;rw [<-HW5.out];have hCne:Nonempty (Wd (λw'=>SameOn All W5 w'/\Below w.heap.size w w')):=⟨⟨W5.drew,⟨sqS,B5.out.drew⟩⟩⟩;refine wp_region_class (λw'=>SameOn All W5 w'/\Below w.heap.size w w') (by kernel_rfl) (by kernel_rfl) ⟨sqS,B5.out.drew⟩ ?_
       repeat (go_big_quiet_step (first | (rename_i m;go_at_call 103;refine (specAtomOk_any _ _ hxs).mono ?_;rintro e w1 ⟨rfl,rfl⟩;exact ⟨by rw [HCA.out],⟨m,rfl⟩⟩) | (rename_i m;go_at_call 40;refine (l01In_any _ _ _ _).mono ?_;rintro e w1 ⟨rfl,rfl⟩;exact ⟨by rw [HCI.out],⟨m,rfl⟩⟩)))
       refine wpQuiet_nil ?_;rintro _ ⟨mq,rfl⟩;have HB4:Hid (Below w.heap.size w mq.val):=mq.ok.2;have HS4:Hid (SameOn All W5 mq.val):=mq.ok.1;generalize mq.val=w4 at HB4 HS4 ⊢;go_wp2;go_ret;exact ⟨by rw [HF.out];rfl,HB4.out⟩
    . obtain ⟨rfl,rfl⟩:ca=true/\ci=true:=by simpa using hac
      clear hac
      rcases Nat.eq_zero_or_pos k with hz | hz
      . have HT':Hid ((List.range (k+1)).all (rfsAt es)=true):=rangeT_succ _ k hall.out (HAT0.out hz)
        have hz1:¬ (0:Int)<(k:Int):=(by omega);have hz3:¬ 0<k:=(by omega);have hz4:decide (0<k)=false:=decide_eq_false hz3;clear HAT0 HATS hz;go_wp2_with fail;rw [<-HW5.out];have hCne:Nonempty (Wd (λw'=>SameOn All W5 w'/\Below w.heap.size w w')):=⟨⟨W5.drew,⟨sqS,B5.out.drew⟩⟩⟩;refine wp_region_class (λw'=>SameOn All W5 w'/\Below w.heap.size w w') (by kernel_rfl) (by kernel_rfl) ⟨sqS,B5.out.drew⟩ ?_
        repeat (go_big_quiet_step (first | (rename_i m;go_at_call 103;refine (specAtomOk_any _ _ hxs).mono ?_;rintro e w1 ⟨rfl,rfl⟩;exact ⟨by rw [HCA.out],⟨m,rfl⟩⟩) | (rename_i m;go_at_call 40;refine (l01In_any _ _ _ _).mono ?_;rintro e w1 ⟨rfl,rfl⟩;exact ⟨by rw [HCI.out],⟨m,rfl⟩⟩)))
        refine wpQuiet_nil ?_;rintro _ ⟨mq,rfl⟩;have HB4:Hid (Below w.heap.size w mq.val):=mq.ok.2;have HS4:Hid (SameOn All W5 mq.val):=mq.ok.1;generalize mq.val=w4 at HB4 HS4 ⊢;have HS9:Hid (SameOn All W1 w4):=S5.out.trans HS4.out;go_wp2_with fail;exact ⟨⟨k+1,by omega,by go_num,HT'.out,HS9.out,HB4.out⟩,by simp [intOf];omega⟩
      . obtain ⟨j,rfl⟩:∃ j,k=j+1:=⟨k - 1,by omega⟩
        obtain ⟨q,hat,y0,y1⟩:=HATS.out j rfl;have HAT:Hid (rfsAt es (j+1)=((true && true) && lessB q ⟨xs,xn⟩)):=hat;obtain ⟨qs,qn⟩:=q;simp only at *;have qy0:∀ m:Wd (λw'=>SameOn All W5 w'/\Below w.heap.size w w'),m.val.cell? ⟨g,off+j * 2,none⟩=some (.string qs):=λm=>(sqK (m.ok.1.2 g trivial hg5)).trans (cell_next K5.out y0);have qy1:∀ m:Wd (λw'=>SameOn All W5 w'/\Below w.heap.size w w'),m.val.cell? ⟨g,off+j * 2+1,none⟩=some (.int .i64 qn):=λm=>(sqK (m.ok.1.2 g trivial hg5)).trans (cell_next K5.out y1);have hji:(j:Int)<(ne:Int):=(by omega);have hj0:=sqI j;have hj1:(0:Int)<(j:Int)+1:=(by omega);generalize hz9:lessB ⟨qs,qn⟩ ⟨xs,xn⟩=z;have HCL:Hid (lessB ⟨qs,qn⟩ ⟨xs,xn⟩=z):=hz9;have HT2:Hid (z=true->(List.range (j+1+1)).all (rfsAt es)=true):=λh=>rangeT_succ _ (j+1) hall.out (by rw [HAT.out,hz9,h];rfl);have HF2:Hid (z=false->(List.range ne).all (rfsAt es)=false):=λh=>rangeT_at _ ne (j+1) hlt (by rw [HAT.out,hz9,h];rfl);clear HAT0 HATS hat hz y0 y1 hz9;go_wp2_with fail;rw [<-HW5.out];have hCne:Nonempty (Wd (λw'=>SameOn All W5 w'/\Below w.heap.size w w')):=⟨⟨W5.drew,⟨sqS,B5.out.drew⟩⟩⟩;refine wp_region_class (λw'=>SameOn All W5 w'/\Below w.heap.size w w') (by kernel_rfl) (by kernel_rfl) ⟨sqS,B5.out.drew⟩ ?_
        repeat (go_big_quiet_step (first | (rename_i m;go_at_call 103;refine (specAtomOk_any _ _ hxs).mono ?_;rintro e w1 ⟨rfl,rfl⟩;exact ⟨by rw [HCA.out],⟨m,rfl⟩⟩) | (rename_i m;go_at_call 40;refine (l01In_any _ _ _ _).mono ?_;rintro e w1 ⟨rfl,rfl⟩;exact ⟨by rw [HCI.out],⟨m,rfl⟩⟩) | (rename_i m;go_at_call 104;refine (l02Less_any ⟨qs,qn⟩ ⟨xs,xn⟩ _).mono ?_;rintro e w1 ⟨rfl,hb1⟩;exact ⟨by rw [HCL.out],⟨⟨w1,⟨(SameOn.trans m.ok.1 (sqO hb1)),m.ok.2.trans (hb1.mono m.ok.2.size)⟩⟩,rfl⟩⟩)))
        refine wpQuiet_nil ?_;rintro _ ⟨mq,rfl⟩;have HB4:Hid (Below w.heap.size w mq.val):=mq.ok.2;have HS4:Hid (SameOn All W5 mq.val):=mq.ok.1;generalize mq.val=w4 at HB4 HS4 ⊢;have HS9:Hid (SameOn All W1 w4):=S5.out.trans HS4.out
        cases z with
        | true =>
         have HT':Hid _:=HT2.out rfl;clear HT2 HF2;go_wp2_with fail;exact ⟨⟨j+1+1,by omega,by go_num,HT'.out,HS9.out,HB4.out⟩,by simp [intOf];omega⟩
        | false =>
         have HF':Hid _:=HF2.out rfl;clear HT2 HF2;go_wp2;go_ret;exact ⟨by rw [HF'.out];rfl,HB4.out⟩
  . have HDE:Hid ((List.range ne).all (rfsAt es)=true):=by
     obtain rfl:k=ne:=(by omega);exact hall.out
    clear hb;go_wp2_with fail;clear xa0 xa1 xa2
    go_loopw [5] (λiv wr=>∃ k:Nat,k<=nf/\iv=.int .i64 k/\Hid ((List.range k).all (fnsAt d fs)=true)/\Hid (SameOn All W1 wr)/\Below w.heap.size w wr) (λiv _=>nf - (intOf iv).toNat)
    case atStart=>exact ⟨0,Nat.zero_le _,rfl,by show _=_;simp,hso.out,HB.out⟩
    case round =>
     clear HB hso;obtain ⟨k,hk,rfl,hall,hso,hb⟩:=hrel;have HB:Hid (Below w.heap.size w wr):=hb;have b1:=bA.out.same_on hso.out;have hlw:=b1.lt;obtain ⟨xa0,xa1,xa2⟩:=sqB3 b1;clear b1;by_cases hlt:k<nf
     . obtain ⟨x,hxk⟩:∃ x,fs[k]?=some x:=⟨fs[k]'(by rw [HN2.out];exact hlt),List.getElem?_eq_getElem _⟩
       obtain ⟨g,off,rfl,-,hgl,hat⟩:=HF0.out (sqE hxk);obtain ⟨cs,hcsl,hcs,r1⟩:=hat k x hxk;have HAT:Hid (fnsAt d fs k=(fnB d x && !(fs.take k).any (sameR ⟨x.name,x.arity⟩))):=fnsAt_eq hxk;have HFI:Hid (∀ w',Below w.heap.size w w'->Calls prog 49 #[.agg #[.string ms,.slice pe ne ce,.slice (some ⟨g,off,none⟩) nf cf],.string x.name,.int .i64 x.arity] w' λe w''=>∃ r:Int,e=.returned (.int .i64 r)/\(r == (k:Int)) = !(fs.take k).any (sameR ⟨x.name,x.arity⟩)/\Below w'.heap.size w' w''):=λw' hw=>l02Find_any d w' ms pe ne ce _ fs k x (FR w' hw) hxk;obtain ⟨cv,rfl,hxs,-,hcr⟩:=r1;obtain ⟨xs,xn,xc⟩:=x;simp only at *;have CR:∀ w',Below w.heap.size w w'->Rows w' All 2 (HCl w' All (HEx w' All d)) cv xc:=λw' hw=>hcr.mono (sqO hw) sqj (λ_ _ _ h=>h.mono (sqO hw) sqj (λ_ _ h=>h.mono (sqO hw) sqj));obtain ⟨pc,cc,rfl,hcc,hcmc,hxc⟩:=hcr;have hncb:xc.length<=9223372036854775807:=(by unfold maxLen at hcmc;omega);have hfb:fnB d ⟨xs,xn,xc⟩=((atomB xs && inB xn 0 6) && (inB xc.length 1 20 && xc.all (λc=>clB (λy q=>exOk d y q 40) c xn))):=rfl;rw [hfb] at HAT;clear hfb;generalize hn3:xc.length=nc at *;have HN3:Hid (xc.length=nc):=hn3;have HC0:Hid (xc≠[]->∃ g off,pc=some ⟨g,off,none⟩/\All g/\g<w.heap.size/\∀ i x,xc[i]?=some x->∃ cs,cs.length=2/\(∀ j,j<2->w.cell? ⟨g,off+i * 2+j,none⟩=cs[j]?)/\HCl w All (HEx w All d) cs x):=hxc;obtain ⟨a0,a1,a2⟩:=sqC3 hcs (by omega);rw [<-hb.cell (p:=⟨g,_,none⟩) hgl] at a0 a1 a2;simp at a0 a1 a2;have hki:(k:Int)<(nf:Int):=(by omega);have hk0:=sqI k;generalize hcb:(fs.take k).any (sameR ⟨xs,xn⟩)=cb at *;obtain ⟨W5,hW5⟩:∃ W5,W5=wr.alloc (.cells #[.string xs,.int .i64 xn,.slice pc nc cc] 57):=⟨_,rfl⟩;have bF:Hid (Blk W5 wr.heap.size #[.string xs,.int .i64 xn,.slice pc nc cc] 57):=(by show Blk _ _ _ _;rw [hW5];exact Blk.new);have K5:Hid (Below wr.heap.size wr W5):=(by show Below _ _ _;rw [hW5];exact (sqN _ _));have B5:Hid (Below w.heap.size w W5):=hb.trans (K5.out.mono hb.size);have S5:Hid (SameOn All W1 W5):=hso.out.trans (sqO K5.out);have HW5:Hid (W5=wr.alloc (.cells #[.string xs,.int .i64 xn,.slice pc nc cc] 57)):=hW5;clear hb hcs hat hcsl hW5 hcb hxc hn3;by_cases hac:(atomB xs && inB xn 0 6)=false
       . have HF:Hid ((List.range nf).all (fnsAt d fs)=false):=rangeT_at _ nf k hlt (by rw [HAT.out,hac];rfl)
         clear HAT
         cases ca:atomB xs with
         | false =>
          go_wp2_with (first | (go_at_call 103;go_must (refine (specAtomOk_any _ _ hxs).mono ?_;rintro e w9 ⟨rfl,rfl⟩;rw [ca])));rw [<-HW5.out];go_ret;exact ⟨by rw [HDE.out,HF.out];rfl,B5.out⟩
         | true =>
          have ci:inB xn 0 6=false:=(by rw [ca] at hac;simpa using hac);go_wp2_with (first | (go_at_call 103;go_must (refine (specAtomOk_any _ _ hxs).mono ?_;rintro e w9 ⟨rfl,rfl⟩;rw [ca])) | (go_at_call 40;go_must (refine (l01In_any _ _ _ _).mono ?_;rintro e w9 ⟨rfl,rfl⟩;rw [ci])));rw [<-HW5.out];go_ret;exact ⟨by rw [HDE.out,HF.out];rfl,B5.out⟩
       obtain ⟨ca,ci⟩:atomB xs=true/\inB xn 0 6=true:=(by simpa using hac);rw [ca,ci] at HAT;clear hac;have bM:=bA.out.same_on S5.out;obtain ⟨u0,u1,u2⟩:=sqB3 bM;rw [HW5.out] at u0 u1 u2;clear bM
       cases cb with
       | true =>
        have HF:Hid ((List.range nf).all (fnsAt d fs)=false):=rangeT_at _ nf k hlt (by rw [HAT.out];simp);clear HAT;go_wp2_with (first | (go_at_call 103;go_must (refine (specAtomOk_any _ _ hxs).mono ?_;rintro e w9 ⟨rfl,rfl⟩;rw [ca])) | (go_at_call 40;go_must (refine (l01In_any _ _ _ _).mono ?_;rintro e w9 ⟨rfl,rfl⟩;rw [ci])));rw [<-HW5.out];refine (HFI.out _ B5.out).mono ?_;rintro e w6 ⟨r,rfl,hri,hb6⟩;have hr2:(r != (k:Int))=true:=(by simpa using hri);have B6:Hid (Below w.heap.size w w6):=B5.out.trans (hb6.mono B5.out.size);clear hri hb6;go_wp2;go_ret;exact ⟨by rw [HDE.out,HF.out];rfl,B6.out⟩
       | false =>
        cases cin:inB nc 1 20 with
        | false =>
         have HF:Hid ((List.range nf).all (fnsAt d fs)=false):=rangeT_at _ nf k hlt (by rw [HAT.out,cin];simp);clear HAT;go_wp2_with (first | (go_at_call 103;go_must (refine (specAtomOk_any _ _ hxs).mono ?_;rintro e w9 ⟨rfl,rfl⟩;rw [ca])) | (go_at_call 40;go_must (refine (l01In_any _ _ _ _).mono ?_;rintro e w9 ⟨rfl,rfl⟩;rw [ci])));rw [<-HW5.out];refine (HFI.out _ B5.out).mono ?_;rintro e w6 ⟨r,rfl,hri,hb6⟩;obtain rfl:r=(k:Int):=(by simpa using hri);have B6:Hid (Below w.heap.size w w6):=B5.out.trans (hb6.mono B5.out.size);have S6:Hid (SameOn All W5 w6):=sqO hb6;have bG:Hid (Blk w6 wr.heap.size #[.string xs,.int .i64 xn,.slice pc nc cc] 57):=bF.out.next hb6;obtain ⟨v0,v1,v2⟩:=sqB3 bG.out;clear hri hb6;go_wp2_with (first | (go_at_call 40;go_must (refine (l01In_any _ _ _ _).mono ?_;rintro e w9 ⟨rfl,hw9⟩;rw [cin,hw9];clear hw9 w9)));go_ret;exact ⟨by rw [HDE.out,HF.out];rfl,B6.out⟩
        | true =>
         rw [cin] at HAT;go_wp2_with (first | (go_at_call 103;go_must (refine (specAtomOk_any _ _ hxs).mono ?_;rintro e w9 ⟨rfl,rfl⟩;rw [ca])) | (go_at_call 40;go_must (refine (l01In_any _ _ _ _).mono ?_;rintro e w9 ⟨rfl,rfl⟩;rw [ci])));rw [<-HW5.out];refine (HFI.out _ B5.out).mono ?_;rintro e w6 ⟨r,rfl,hri,hb6⟩;obtain rfl:r=(k:Int):=(by simpa using hri);have B6:Hid (Below w.heap.size w w6):=B5.out.trans (hb6.mono B5.out.size);have S6:Hid (SameOn All W5 w6):=sqO hb6;have bG:Hid (Blk w6 wr.heap.size #[.string xs,.int .i64 xn,.slice pc nc cc] 57):=bF.out.next hb6;obtain ⟨v0,v1,v2⟩:=sqB3 bG.out;clear hri hb6;go_wp2_with (first | (go_at_call 40;go_must (refine (l01In_any _ _ _ _).mono ?_;rintro e w9 ⟨rfl,hw9⟩;rw [cin,hw9];clear hw9 w9)));clear v0 v1 v2 u0 u1 u2 xa0 xa1 xa2;obtain ⟨W6,hW6⟩:∃ W6,W6=wr.heap.size:=⟨_,rfl⟩;have HW6:Hid (W6=wr.heap.size):=hW6;rw [<-hW6] at bG ⊢;have S1:Hid (SameOn All W1 w6):=S5.out.trans S6.out;clear hW6 HW6 hlw bF HW5 K5 S5 S6 B5
         go_loopw [7] (λiv wr=>∃ k2:Nat,k2<=nc/\iv=.int .i64 k2/\Hid ((xc.take k2).all (λc=>clB (λy q=>exOk d y q 40) c xn)=true)/\Hid (SameOn All w6 wr)/\Below w.heap.size w wr) (λiv _=>nc - (intOf iv).toNat)
         case atStart=>exact ⟨0,Nat.zero_le _,rfl,by show _=_;simp,sqS,B6.out⟩
         case round =>
          clear HB hso;obtain ⟨k2,hk2,rfl,hall2,hso,hb⟩:=hrel;have HB:Hid (Below w.heap.size w wr):=hb;have b1:=bG.out.same_on hso.out;have hlw:=b1.lt;have xa1:=b1.cell 1 _ rfl;have xa2:=b1.cell 2 _ rfl;clear b1;by_cases hlt2:k2<nc
          . obtain ⟨c,hck⟩:∃ c,xc[k2]?=some c:=⟨xc[k2]'(by rw [HN3.out];exact hlt2),List.getElem?_eq_getElem _⟩
            obtain ⟨g2,off2,rfl,-,hgl2,hat2⟩:=HC0.out (sqE hck);obtain ⟨cs,hcsl,hcs,r1⟩:=hat2 k2 c hck;have E1:∀ w',SameOn All wr w'->HCl w' All (HEx w' All d) cs c:=λw' hw=>r1.mono (SameOn.trans (sqO hb) hw) sqj (λ_ _ h=>h.mono (SameOn.trans (sqO hb) hw) sqj);obtain ⟨c0,c1,rfl⟩:=len2 hcsl;obtain ⟨a0,a1⟩:=sqC2 hcs (by omega);rw [<-hb.cell (p:=⟨g2,_,none⟩) hgl2] at a0 a1;simp at a0 a1;have hki2:(k2:Int)<(nc:Int):=(by omega);have hk02:=sqI k2;have hgw:g2<wr.heap.size:=Nat.lt_of_lt_of_le hgl2 hb.size;have qa0:∀ m:Wd (λw'=>SameOn All wr w'/\Below w.heap.size w w'),m.val.cell? ⟨g2,off2+k2 * 2,none⟩=some c0:=λm=>(sqK (m.ok.1.2 g2 trivial hgw)).trans a0;have qa1:∀ m:Wd (λw'=>SameOn All wr w'/\Below w.heap.size w w'),m.val.cell? ⟨g2,off2+k2 * 2+1,none⟩=some c1:=λm=>(sqK (m.ok.1.2 g2 trivial hgw)).trans a1;have qx1:∀ m:Wd (λw'=>SameOn All wr w'/\Below w.heap.size w w'),m.val.cell? ⟨W6,1,none⟩=some (.int .i64 xn):=λm=>(sqK (m.ok.1.2 W6 trivial hlw)).trans xa1;have qx2:∀ m:Wd (λw'=>SameOn All wr w'/\Below w.heap.size w w'),m.val.cell? ⟨W6,2,none⟩=some (.slice (some ⟨g2,off2,none⟩) nc cc):=λm=>(sqK (m.ok.1.2 W6 trivial hlw)).trans xa2;clear hb hcs hat2 hcsl r1;generalize hcv:clB (λy q=>exOk d y q 40) c xn=cv;have HCV:Hid (clB (λy q=>exOk d y q 40) c xn=cv):=hcv;have HC2:Hid (cv=true->(xc.take (k2+1)).all (λc=>clB (λy q=>exOk d y q 40) c xn)=true):=λh=>allT_succ _ xc k2 c hck hall2.out (hcv.trans h);have HC3:Hid (cv=false->(List.range nf).all (fnsAt d fs)=false):=λh=>rangeT_at _ nf k hlt (by rw [HAT.out,allT_at _ xc k2 c hck (hcv.trans h)];rfl);clear hcv;go_wp2;have hCne:Nonempty (Wd (λw'=>SameOn All wr w'/\Below w.heap.size w w')):=⟨⟨wr.drew,⟨sqS,HB.out.drew⟩⟩⟩;refine wp_region_class (λw'=>SameOn All wr w'/\Below w.heap.size w w') (by kernel_rfl) (by kernel_rfl) ⟨sqS,HB.out.drew⟩ ?_
            repeat (go_big_quiet_step (first | (rename_i m;go_at_call 105;refine (clause_allS d _ _ c xn 40 (E1 _ m.ok.1) (by omega) (by omega)).mono ?_;rintro e w1 ⟨rfl,hb1⟩;exact ⟨by rw [HCV.out],⟨⟨w1,⟨(SameOn.trans m.ok.1 (sqO hb1)),m.ok.2.trans (hb1.mono m.ok.2.size)⟩⟩,rfl⟩⟩)))
            refine wpQuiet_nil ?_;rintro _ ⟨mq,rfl⟩;have HB4:Hid (Below w.heap.size w mq.val):=mq.ok.2;have HS4:Hid (SameOn All w6 mq.val):=hso.out.trans mq.ok.1;generalize mq.val=w4 at HB4 HS4 ⊢;clear HCV
            cases cv with
            | true =>
             have HT':Hid _:=HC2.out rfl;clear HC2 HC3;go_wp2_with fail;exact ⟨⟨k2+1,by omega,by go_num,HT'.out,HS4.out,HB4.out⟩,by simp [intOf];omega⟩
            | false =>
             have HF:Hid _:=HC3.out rfl;clear HC2 HC3;go_wp2;go_ret;exact ⟨by rw [HDE.out,HF.out];rfl,HB4.out⟩
          . have HT':Hid ((List.range (k+1)).all (fnsAt d fs)=true):=rangeT_succ _ k hall.out (by
             have:=hall2.out;rw [List.take_of_length_le (by rw [HN3.out];omega)] at this
             rw [HAT.out,this];rfl)
            have HS9:Hid (SameOn All W1 wr):=S1.out.trans hso.out;clear hb;go_wp2_with fail;exact ⟨⟨k+1,by omega,by go_num,HT'.out,HS9.out,HB.out⟩,by simp [intOf];omega⟩
     . have HD:Hid ((List.range nf).all (fnsAt d fs)=true):=by
        obtain rfl:k=nf:=(by omega);exact hall.out
       clear hb;go_wp2;go_ret;exact ⟨by rw [HDE.out,HD.out];rfl,HB.out⟩
end
end Go.Proofs.YtbdhpganbbandaaGreatDoor
