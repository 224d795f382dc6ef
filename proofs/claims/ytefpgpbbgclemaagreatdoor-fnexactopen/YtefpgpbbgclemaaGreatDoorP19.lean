/-
  OrdBase ModOkRefs ModOkFuns ModOkImplC
-/
import Derived.Lib.Bytealg
import Derived.Laws.Cover1
import Derived.Test.YtefpgpbbgclemaaGreatDoorP10
set_option maxHeartbeats 16000000
set_option linter.unusedVariables false
set_option maxRecDepth 100000
namespace Go.Proofs.YtefpgpbbgclemaaGreatDoor
open Go.ChangeShapes Go.WideShapes Go.ChangeAt Go.RowKit
def cmpI (a b:Int):Int:=if a<b then -1 else if b<a then 1 else 0
def cmpS (a b:ByteArray):Int:=Lib.compareBytes a.data.toList b.data.toList
theorem cmpI_lt {a b:Int} (h:a<b):cmpI a b = -1:=if_pos h
theorem cmpI_gt {a b:Int} (h:b<a):cmpI a b=1:=by unfold cmpI;rw [if_neg (by omega),if_pos h]
theorem cmpI_self (a:Int):cmpI a a=0:=by unfold cmpI;rw [if_neg (by omega),if_neg (by omega)]
theorem compare_lt:∀ {a b:List UInt8},Op.bytesLess a b=true→Lib.compareBytes a b = -1
  | [],[],h=>by simp [Op.bytesLess] at h
  | _ :: _,[],h=>by simp [Op.bytesLess] at h
  | [],_ :: _,_=>rfl
  | x :: a,y :: b,h=>by
    simp only [Op.bytesLess,Bool.or_eq_true,decide_eq_true_eq,Bool.and_eq_true,beq_iff_eq] at h
    unfold Lib.compareBytes
    rcases h with h | ⟨rfl,h⟩
    · rw [if_pos h]
    · rw [if_neg (UInt8.lt_irrefl _),if_neg (UInt8.lt_irrefl _)];exact compare_lt h
theorem compare_self:∀ (a:List UInt8),Lib.compareBytes a a=0
  | []=>rfl
  | x :: a=>by unfold Lib.compareBytes;rw [if_neg (UInt8.lt_irrefl _),if_neg (UInt8.lt_irrefl _)];exact compare_self a
theorem compare_gt:∀ {a b:List UInt8},Op.bytesLess a b=false→a≠b→Lib.compareBytes a b=1
  | [],[],_,h=>absurd rfl h
  | _ :: _,[],_,_=>rfl
  | [],_ :: _,h,_=>by simp [Op.bytesLess] at h
  | x :: a,y :: b,h,hne=>by
    simp only [Op.bytesLess,Bool.or_eq_false_iff,decide_eq_false_iff_not,Bool.and_eq_false_iff,beq_eq_false_iff_ne] at h
    unfold Lib.compareBytes
    rw [if_neg h.1]
    by_cases hxy:x=y
    · subst hxy
      rw [if_neg (UInt8.lt_irrefl _)]
      rcases h.2 with h2 | h2
      · exact absurd rfl h2
      · exact compare_gt h2 (fun e=>hne (by rw [e]))
    · have:y<x:=by
        rw [UInt8.lt_iff_toNat_lt] at h ⊢
        have:x.toNat≠y.toNat:=fun e=>hxy (UInt8.toNat_inj.1 e)
        omega
      rw [if_pos this]
theorem cmpS_lt {a b:ByteArray} (h:Op.bytesLess a.toList b.toList=true):cmpS a b = -1:=by
  unfold cmpS;rw [ByteArray.toList_eq,ByteArray.toList_eq] at h;exact compare_lt h
theorem cmpS_gt {a b:ByteArray} (h:Op.bytesLess a.toList b.toList=false) (hne:a≠b):cmpS a b=1:=by
  unfold cmpS;rw [ByteArray.toList_eq,ByteArray.toList_eq] at h;exact compare_gt h (fun e=>hne (bytes_inj e))
theorem cmpS_self (a:ByteArray):cmpS a a=0:=compare_self _
theorem bytesLess_self:∀ (a:List UInt8),Op.bytesLess a a=false
  | []=>rfl
  | x :: a=>by simp [Op.bytesLess,bytesLess_self a]
theorem isNaN_any (a:Int) (w:World):Calls Tryz.prog 167 #[.int .i64 a] w fun e w'=>e=.returned (.bool false)∧w'=w:=by
  go_enter Tryz.func167,Tryz.ntmps167
  go_wp2
  go_ret
  exact ⟨rfl,rfl⟩
theorem cmpInt_any (a b:Int) (w:World):Calls Tryz.prog 148 #[.int .i64 a,.int .i64 b] w fun e w'=>e=.returned (.int .i64 (cmpI a b))∧w'=w:=by
  by_cases h1:a<b
  · have HS:Hid (cmpI a b = -1):=cmpI_lt h1
    go_enter Tryz.func148,Tryz.ntmps148
    go_wp2_with (go_at_call 167;go_must (refine (isNaN_any _ _).mono ?_;rintro e w' ⟨rfl,rfl⟩))
    go_ret
    exact ⟨by rw [HS.out];rfl,rfl⟩
  by_cases h2:b<a
  · have HS:Hid (cmpI a b=1):=cmpI_gt h2
    go_enter Tryz.func148,Tryz.ntmps148
    go_wp2_with (go_at_call 167;go_must (refine (isNaN_any _ _).mono ?_;rintro e w' ⟨rfl,rfl⟩))
    go_ret
    exact ⟨by rw [HS.out];rfl,rfl⟩
  obtain rfl:a=b:=by omega
  have HS:Hid (cmpI a a=0):=cmpI_self a
  go_enter Tryz.func148,Tryz.ntmps148
  go_wp2_with (go_at_call 167;go_must (refine (isNaN_any _ _).mono ?_;rintro e w' ⟨rfl,rfl⟩))
  go_ret
  exact ⟨by rw [HS.out];rfl,rfl⟩
theorem compareString_any (a b:ByteArray) (w:World) :
    Calls Tryz.prog 166 #[.string a,.string b] w fun e w'=>e=.returned (.int .i64 (cmpS a b))∧w'=w:=by
  go_enter Tryz.func166,Tryz.ntmps166
  go_wp2
  rw [run_callFunc_extern Tryz.func173 (by kernel_rfl) (by kernel_rfl) (by kernel_rfl) (e:=Extern.BytealgCompare.compare) (by kernel_rfl),Lib.run_compareString]
  simp only [Result.andThen]
  rw [Oper.upon_value]
  go_wp2
  go_ret
  exact ⟨rfl,rfl⟩
theorem stringsCompare_any (a b:ByteArray) (w:World) :
    Calls Tryz.prog 147 #[.string a,.string b] w fun e w'=>e=.returned (.int .i64 (cmpS a b))∧w'=w:=by
  go_enter Tryz.func147,Tryz.ntmps147
  go_wp2_with (go_at_call 166;go_must (refine (compareString_any _ _ _).mono ?_;rintro e w' ⟨rfl,rfl⟩))
  go_ret
  exact ⟨rfl,rfl⟩
def or2 (a b:Int):Int:=if a=0 then b else a
theorem cmpOr2_any (a b:Int) (g:Nat) (w:World) (h0:w.cell? ⟨g,0,none⟩=some (.int .i64 a)) (h1:w.cell? ⟨g,1,none⟩=some (.int .i64 b)) :
    Calls Tryz.prog 146 #[.slice (some ⟨g,0,none⟩) 2 2] w fun e w'=>e=.returned (.int .i64 (or2 a b))∧w'=w:=by
  go_enter Tryz.func146,Tryz.ntmps146
  go_wp2
  go_loopw [8] (fun iv wr=>∃ k:Nat,k≤2∧iv=.int .i64 k∧(1≤k→a=0)∧(2≤k→b=0)∧wr=w) (fun iv _=>2 - (intOf iv).toNat)
  case atStart=>exact ⟨0,by omega,rfl,fun h=>by omega,fun h=>by omega,rfl⟩
  case round =>
    obtain ⟨k,hk,rfl,e0,e1,rfl⟩:=hrel
    match k,hk with
    | 0,_ =>
      by_cases hz:a=0
      · go_wp2
        exact ⟨⟨1,by omega,by go_num,fun _=>hz,fun h=>by omega,(by first | rfl | trivial)⟩,by simp [intOf]⟩
      · have HS:Hid (or2 a b=a):=if_neg hz
        go_wp2
        go_ret
        exact ⟨by rw [HS.out];rfl,rfl⟩
    | 1,_ =>
      have z0:=e0 (by omega)
      by_cases hz:b=0
      · go_wp2
        exact ⟨⟨2,by omega,by go_num,fun _=>z0,fun _=>hz,(by first | rfl | trivial)⟩,by simp [intOf]⟩
      · have HS:Hid (or2 a b=b):=by show _=_;unfold or2;rw [if_pos z0]
        go_wp2
        go_ret
        exact ⟨by rw [HS.out];rfl,rfl⟩
    | 2,_ =>
      have HS:Hid (or2 a b=0):=by show _=_;unfold or2;rw [if_pos (e0 (by omega)),e1 (by omega)]
      go_wp2
      go_ret
      exact ⟨by rw [HS.out];rfl,rfl⟩
    | k+3,hk=>omega
def cmpRf (a b:Rf):Int:=or2 (cmpS a.name b.name) (cmpI a.arity b.arity)
def lessB (a b:Rf):Bool:=decide (cmpRf a b<0)
def refB (r:Rf):Bool:=atomB r.name && inB r.arity 0 6
def sameR (r:Rf) (f:Fn'):Bool:=f.name.toList == r.name.toList && f.arity == r.arity
theorem l02Less_any (a b:Rf) (w:World):Calls Tryz.prog 78 #[.agg #[.string a.name,.int .i64 a.arity],.agg #[.string b.name,.int .i64 b.arity]] w fun e w'=>e=.returned (.bool (lessB a b))∧Below w.heap.size w w':=by
  obtain ⟨s,m⟩:=a
  obtain ⟨t,n⟩:=b
  have BL:Hid (Below w.heap.size w ((w.alloc (.cells #[.string s,.int .i64 m] 89)).alloc (.cells #[.string t,.int .i64 n] 89))):=((Below.refl _ _).alloc (Nat.le_refl _) _).alloc (by simp) _
  simp only
  cases hb:Op.bytesLess s.toList t.toList with
  | true =>
    have HS:Hid (lessB ⟨s,m⟩ ⟨t,n⟩=true):=by show _=_;simp [lessB,cmpRf,or2,cmpS_lt hb]
    go_enter Tryz.func78,Tryz.ntmps78
    go_wp2
    go_ret
    exact ⟨by rw [HS.out];rfl,BL.out⟩
  | false =>
    by_cases he:s=t
    · subst he
      have HS:Hid (lessB ⟨s,m⟩ ⟨s,n⟩=decide (m<n)):=by
        show _=_
        simp only [lessB,cmpRf,or2,cmpS_self,if_true,cmpI]
        by_cases h1:m<n
        · simp [h1]
        · by_cases h2:n<m <;> simp [h1,h2]
      go_enter Tryz.func78,Tryz.ntmps78
      go_wp2
      go_ret
      exact ⟨by rw [HS.out];rfl,BL.out⟩
    · have HS:Hid (lessB ⟨s,m⟩ ⟨t,n⟩=false):=by show _=_;simp [lessB,cmpRf,or2,cmpS_gt hb he]
      have hq1:=str_ne he
      have hq2:=str_neB he
      go_enter Tryz.func78,Tryz.ntmps78
      go_wp2
      go_ret
      exact ⟨by rw [HS.out];rfl,BL.out⟩
theorem compareRef_any (a b:Rf) (w:World):Calls Tryz.prog 121 #[.agg #[.string a.name,.int .i64 a.arity],.agg #[.string b.name,.int .i64 b.arity]] w fun e w'=>e=.returned (.int .i64 (cmpRf a b))∧Below w.heap.size w w':=by
  obtain ⟨s,m⟩:=a
  obtain ⟨t,n⟩:=b
  simp only
  obtain ⟨W2,hW2⟩:∃ W2,W2=(w.alloc (.cells #[.string s,.int .i64 m] 89)).alloc (.cells #[.string t,.int .i64 n] 89):=⟨_,rfl⟩
  have bA:Hid (Blk W2 w.heap.size #[.string s,.int .i64 m] 89):=by show Blk _ _ _ _;rw [hW2];exact Blk.new.alloc
  have bB:Hid (Blk W2 (w.heap.size+1) #[.string t,.int .i64 n] 89):=by
    show Blk _ _ _ _
    rw [hW2]
    have:=Blk.new (w:=w.alloc (.cells #[.string s,.int .i64 m] 89)) (cs:=#[.string t,.int .i64 n]) (t:=89)
    rwa [alloc_hs] at this
  have HAL:Hid (Below w.heap.size w W2):=by show Below _ _ _;rw [hW2];exact ((Below.refl _ _).alloc (Nat.le_refl _) _).alloc (by simp) _
  have HW2:Hid (W2=(w.alloc (.cells #[.string s,.int .i64 m] 89)).alloc (.cells #[.string t,.int .i64 n] 89)):=hW2
  clear hW2
  have a0:=bA.out.cell 0 _ rfl
  have a1:=bA.out.cell 1 _ rfl
  have b0:=bB.out.cell 0 _ rfl
  have b1:=bB.out.cell 1 _ rfl
  generalize ho:or2 (cmpS s t) (cmpI m n)=o
  have HO:Hid (or2 (cmpS s t) (cmpI m n)=o):=ho
  have HS:Hid (cmpRf ⟨s,m⟩ ⟨t,n⟩=o):=ho
  clear ho
  go_enter Tryz.func121,Tryz.ntmps121
  go_wp2_with fail
  rw [← HW2.out]
  go_region_held3 (fun w'=>w'.cell? ⟨w.heap.size,0,none⟩=some (.string s)∧w'.cell? ⟨w.heap.size,1,none⟩=some (.int .i64 m)∧w'.cell? ⟨w.heap.size+1,0,none⟩=some (.string t)∧w'.cell? ⟨w.heap.size+1,1,none⟩=some (.int .i64 n))
    (first | go_keep)
    (first
      | (go_at_call 148;refine (cmpInt_any _ _ _).mono ?_;rintro e w' ⟨rfl,rfl⟩)
      | (go_at_call 147;refine (stringsCompare_any _ _ _).mono ?_;rintro e w' ⟨rfl,rfl⟩)
      | (go_at_call 146;refine (cmpOr2_any (cmpS s t) (cmpI m n) _ _ (by exact cell_new _ _ _ 0 _ rfl) (by exact cell_new _ _ _ 1 _ rfl)).mono ?_;rintro e w' ⟨rfl,rfl⟩;rw [HO.out]))
  go_split_ands
  have K3:Below W2.heap.size W2 ((W2.alloc (.cells #[.int .i64 (cmpS s t),.int .i64 (cmpI m n)] 3)).drew):=((Below.refl _ _).alloc (Nat.le_refl _) _).drew
  have HB3:Hid (Below w.heap.size w ((W2.alloc (.cells #[.int .i64 (cmpS s t),.int .i64 (cmpI m n)] 3)).drew)):=HAL.out.trans (K3.mono HAL.out.size)
  clear K3
  go_wp2
  go_ret
  exact ⟨by rw [HS.out];rfl,HB3.out⟩
theorem refOk_any (r:Rf) (w:World) (hs:r.name.size≤maxLen) (hk:KeysAt w):Calls Tryz.prog 120 #[.agg #[.string r.name,.int .i64 r.arity]] w fun e w'=>e=.returned (.bool (refB r))∧Below w.heap.size w w':=by
  obtain ⟨s,n⟩:=r
  simp only at *
  have BL:Hid (Below w.heap.size w (w.alloc (.cells #[.string s,.int .i64 n] 89))):=(Below.refl _ _).alloc (Nat.le_refl _) _
  have HK:Hid (KeysAt (w.alloc (.cells #[.string s,.int .i64 n] 89))):=⟨cell_next BL.out hk.1,cell_next BL.out hk.2.1,cell_next BL.out hk.2.2⟩
  clear hk
  cases ha:atomB s with
  | true =>
    go_enter Tryz.func120,Tryz.ntmps120
    go_wp2_with (first | (go_at_call 85;go_must (refine (implAtomOk_any _ _ hs HK.out).mono ?_;rintro e w' ⟨rfl,rfl⟩;rw [ha])) | (go_at_call 122;go_must (refine (withinM_any _ _ _ _).mono ?_;rintro e w' ⟨rfl,rfl⟩)))
    go_ret
    exact ⟨by simp [refB,ha],BL.out⟩
  | false =>
    go_enter Tryz.func120,Tryz.ntmps120
    go_wp2_with (first | (go_at_call 85;go_must (refine (implAtomOk_any _ _ hs HK.out).mono ?_;rintro e w' ⟨rfl,rfl⟩;rw [ha])))
    go_ret
    exact ⟨by simp [refB,ha],BL.out⟩
theorem refOf_any (s:ByteArray) (n:Int) (p:Option Addr) (l c:Nat) (w:World):Calls Tryz.prog 61 #[.agg #[.string s,.int .i64 n,.slice p l c]] w fun e w'=>e=.returned (.agg #[.string s,.int .i64 n])∧Below w.heap.size w w':=by
  go_enter Tryz.func61,Tryz.ntmps61
  go_wp2
  refine bodyPost_ret (v:=.agg #[.string s,.int .i64 n]) (by simp [results,Tryz.results61,go_sem]) rfl ⟨rfl,?_⟩
  first | exact (Below.refl _ _).alloc (Nat.le_refl _) _ | exact ((Below.refl _ _).alloc (Nat.le_refl _) _).alloc (by simp) _ | exact ((((Below.refl _ _).alloc (Nat.le_refl _) _).alloc (by simp) _).setCell (by simp) _).setCell (by simp) _
theorem fnShape {w:World} {S:Nat→Prop} {d:Nat} {cs:List Value} {x:Fn'} (h:HFn w S d cs x):∃ p1 n1 q1,cs = [.string x.name,.int .i64 x.arity,.slice p1 n1 q1]:=by
  obtain ⟨cv,rfl,_,_,⟨p1,c1,rfl,_⟩⟩:=h
  exact ⟨_,_,_,rfl⟩
theorem Rows.take {α:Type} {w:World} {S:Nat→Prop} {c:Nat} {R:List Value→α→Prop} {p:Option Addr} {n cap:Nat} {es:List α} (h:Rows w S c R (.slice p n cap) es) (k:Nat) (hk:k≤n):Rows w S c R (.slice p k cap) (es.take k):=by
  obtain ⟨p',cap',hv,h1,h2,hx⟩:=h
  simp only [Value.slice.injEq] at hv
  obtain ⟨rfl,rfl,rfl⟩:=hv
  refine ⟨p,cap,by rw [List.length_take,Nat.min_eq_left hk],by rw [List.length_take];omega,h2,fun hne=>?_⟩
  obtain ⟨g,off,hp,hS,hl,hat⟩:=hx (fun e=>hne (by rw [e];simp))
  exact ⟨g,off,hp,hS,hl,fun i x hi=>hat i x (by rw [List.getElem?_take] at hi;split at hi;exact hi;cases hi)⟩
theorem refG:Tryz.prog.eqGuardType Tryz.prog.depth 89=false:=by kernel_rfl
theorem refH:Tryz.prog.stoodInHeld 89=false:=by kernel_rfl
theorem refU:Tryz.prog.underlying 89=some (.struct (Tryz.prog.fieldsOf 89)):=by kernel_rfl
theorem refE (a c:ByteArray) (b d:Int) (w:World):(Op.equalIn 10000 89 (.agg #[.string a,.int .i64 b]) (.agg #[.string c,.int .i64 d])).run Tryz.prog w=.ok ((a.toList == c.toList) && (b == d)) w:=by
  rw [show (10000:Nat)=9999+1 from rfl,run_equalIn_struct w 9999 _ _ _ refU refH]
  cases h1:(a.toList == c.toList) <;> cases h2:(b == d) <;> simp [go_sem,Program.fieldsOf,Tryz.underlying89,Tryz.underlying3,Tryz.underlying9,Op.eqFields,h1,h2]
theorem hasFun_any (d:Nat) (w:World) (v:Value) (fs:List Fn') (r:Rf) (h:Rows w All 3 (HFn w All d) v fs) :
    Calls Tryz.prog 88 #[v,.agg #[.string r.name,.int .i64 r.arity]] w fun e w'=>e=.returned (.bool (fs.any (sameR r)))∧Below w.heap.size w w':=by
  obtain ⟨rs,rn⟩:=r
  simp only
  obtain ⟨p,cap,rfl,hcl,hcm,hx⟩:=h
  have hnb:fs.length≤9223372036854775807:=by unfold maxLen at hcm;omega
  generalize hn:fs.length=n at *
  have HN:Hid (fs.length=n):=hn
  have HX:Hid (fs≠[]→∃ g off,p=some ⟨g,off,none⟩∧All g∧g<w.heap.size∧∀ i x,fs[i]?=some x→∃ cs,cs.length=3∧(∀ j,j<3→w.cell? ⟨g,off+i * 3+j,none⟩=cs[j]?)∧HFn w All d cs x):=hx
  obtain ⟨W1,hW1⟩:∃ W1,W1=w.alloc (.cells #[.string rs,.int .i64 rn] 89):=⟨_,rfl⟩
  have bA:Hid (Blk W1 w.heap.size #[.string rs,.int .i64 rn] 89):=by show Blk _ _ _ _;rw [hW1];exact Blk.new
  have B1:Hid (Below w.heap.size w W1):=by show Below _ _ _;rw [hW1];exact (Below.refl _ _).alloc (Nat.le_refl _) _
  have HW1:Hid (W1=w.alloc (.cells #[.string rs,.int .i64 rn] 89)):=hW1
  clear hx hn hW1
  go_enter Tryz.func88,Tryz.ntmps88
  go_wp2_with fail
  rw [← HW1.out]
  go_loopw [9] (fun iv wr=>∃ k:Nat,k≤n∧iv=.int .i64 k∧Hid ((fs.take k).any (sameR ⟨rs,rn⟩)=false)∧Hid (SameOn All W1 wr)∧Below w.heap.size w wr) (fun iv _=>n - (intOf iv).toNat)
  case atStart=>exact ⟨0,Nat.zero_le _,rfl,by show _=_;simp,⟨Nat.le_refl _,fun _ _ _=>rfl⟩,B1.out⟩
  case round =>
    obtain ⟨k,hk,rfl,hall,hso,hb⟩:=hrel
    have HB:Hid (Below w.heap.size w wr):=hb
    by_cases hlt:k<n
    · obtain ⟨x,hxk⟩:∃ x,fs[k]?=some x:=⟨fs[k]'(by rw [HN.out];exact hlt),List.getElem?_eq_getElem _⟩
      obtain ⟨g,off,rfl,-,hgl,hat⟩:=HX.out (by intro h;rw [h] at hxk;simp at hxk)
      obtain ⟨cs,hcsl,hcs,r1⟩:=hat k x hxk
      obtain ⟨p1,n1,q1,rfl⟩:=fnShape r1
      obtain ⟨xs,xn,xc⟩:=x
      simp only at *
      have a0:=hcs 0 (by omega)
      have a1:=hcs 1 (by omega)
      have a2:=hcs 2 (by omega)
      rw [← hb.cell (p:=⟨g,_,none⟩) hgl] at a0 a1 a2
      simp at a0 a1 a2
      have hki:(k:Int)<(n:Int):=by omega
      have hk0:(0:Int)≤(k:Int):=by omega
      obtain ⟨W5,hW5⟩:∃ W5,W5=wr.alloc (.cells #[.string xs,.int .i64 xn,.slice p1 n1 q1] 91):=⟨_,rfl⟩
      have bF:Hid (Blk W5 wr.heap.size #[.string xs,.int .i64 xn,.slice p1 n1 q1] 91):=by show Blk _ _ _ _;rw [hW5];exact Blk.new
      have K5:Below wr.heap.size wr W5:=by rw [hW5];exact (Below.refl _ _).alloc (Nat.le_refl _) _
      have B5:Hid (Below w.heap.size w W5):=hb.trans (K5.mono hb.size)
      have S5:Hid (SameOn All W1 W5):=hso.out.trans (SameOn.of_below K5)
      have HW5:Hid (W5=wr.alloc (.cells #[.string xs,.int .i64 xn,.slice p1 n1 q1] 91)):=hW5
      have bR:=bA.out.same_on S5.out
      have y0:=bR.cell 0 _ rfl
      have y1:=bR.cell 1 _ rfl
      have z0:=bF.out.cell 0 _ rfl
      have z1:=bF.out.cell 1 _ rfl
      have z2:=bF.out.cell 2 _ rfl
      have l1:=bR.lt
      have l2:=bF.out.lt
      have qy0:∀ m:Wd (fun w'=>SameOn All W5 w'∧Below w.heap.size w w'),m.val.cell? ⟨w.heap.size,0,none⟩=some (.string rs):=fun m=>(World.cell?_of_block (m.ok.1.2 w.heap.size trivial l1)).trans y0
      have qy1:∀ m:Wd (fun w'=>SameOn All W5 w'∧Below w.heap.size w w'),m.val.cell? ⟨w.heap.size,1,none⟩=some (.int .i64 rn):=fun m=>(World.cell?_of_block (m.ok.1.2 w.heap.size trivial l1)).trans y1
      have qz0:∀ m:Wd (fun w'=>SameOn All W5 w'∧Below w.heap.size w w'),m.val.cell? ⟨wr.heap.size,0,none⟩=some (.string xs):=fun m=>(World.cell?_of_block (m.ok.1.2 wr.heap.size trivial l2)).trans z0
      have qz1:∀ m:Wd (fun w'=>SameOn All W5 w'∧Below w.heap.size w w'),m.val.cell? ⟨wr.heap.size,1,none⟩=some (.int .i64 xn):=fun m=>(World.cell?_of_block (m.ok.1.2 wr.heap.size trivial l2)).trans z1
      have qz2:∀ m:Wd (fun w'=>SameOn All W5 w'∧Below w.heap.size w w'),m.val.cell? ⟨wr.heap.size,2,none⟩=some (.slice p1 n1 q1):=fun m=>(World.cell?_of_block (m.ok.1.2 wr.heap.size trivial l2)).trans z2
      clear hb hcs hat hcsl r1 hW5 K5 y0 y1 z0 z1 z2 l1 l2 bR
      go_wp2_with fail
      rw [← HW5.out]
      have e1:=refG
      have e2:=refE
      have hCne:Nonempty (Wd (fun w'=>SameOn All W5 w'∧Below w.heap.size w w')):=⟨⟨W5.drew,⟨⟨Nat.le_refl _,fun _ _ _=>rfl⟩,B5.out.drew⟩⟩⟩
      refine wp_region_class (fun w'=>SameOn All W5 w'∧Below w.heap.size w w') (by kernel_rfl) (by kernel_rfl) ⟨⟨Nat.le_refl _,fun _ _ _=>rfl⟩,B5.out.drew⟩ ?_
      repeat (go_big_quiet_step (first | (rename_i m;go_at_call 61;refine (refOf_any _ _ _ _ _ _).mono ?_;rintro e w1 ⟨rfl,hb1⟩;exact ⟨rfl,⟨⟨w1,⟨(SameOn.trans m.ok.1 (SameOn.of_below hb1)),m.ok.2.trans (hb1.mono m.ok.2.size)⟩⟩,rfl⟩⟩)))
      refine wpQuiet_nil ?_
      rintro _ ⟨mq,rfl⟩
      have HB4:Hid (Below w.heap.size w mq.val):=mq.ok.2
      have HS4:Hid (SameOn All W1 mq.val):=S5.out.trans mq.ok.1
      generalize mq.val=w4 at HB4 HS4 ⊢
      generalize hcv:(xs.toList == rs.toList && xn == rn)=cv
      have HC2:Hid (cv=false→(fs.take (k+1)).any (sameR ⟨rs,rn⟩)=false):=fun h=>anyT_succ _ fs k _ hxk hall.out (show (xs.toList == rs.toList && xn == rn)=false from hcv.trans h)
      have HC3:Hid (cv=true→fs.any (sameR ⟨rs,rn⟩)=true):=fun h=>anyT_at _ fs k _ hxk (show (xs.toList == rs.toList && xn == rn)=true from hcv.trans h)
      clear hcv
      cases cv with
      | false =>
        have HT':Hid _:=HC2.out rfl
        clear HC2 HC3
        go_wp2_with fail
        exact ⟨⟨k+1,by omega,by go_num,HT'.out,HS4.out,HB4.out⟩,by simp [intOf];omega⟩
      | true =>
        have HF:Hid _:=HC3.out rfl
        clear HC2 HC3
        go_wp2_with fail
        go_ret
        exact ⟨by rw [HF.out];rfl,HB4.out⟩
    · have HD:Hid (fs.any (sameR ⟨rs,rn⟩)=false):=by
        have:=hall.out
        rwa [List.take_of_length_le (by rw [HN.out];omega)] at this
      clear hb
      go_wp2_with fail
      go_ret
      exact ⟨by rw [HD.out];rfl,HB.out⟩
def rfsAt (es:List Rf) (k:Nat):Bool :=
  match es[k]? with
  | none=>true
  | some r=>refB r && (match k with
    | 0=>true
    | j+1=>match es[j]? with
      | none=>true
      | some q=>lessB q r)
def rfsB (es:List Rf):Bool:=(List.range es.length).all (rfsAt es)
def fnB (d:Nat) (f:Fn'):Bool:=refB ⟨f.name,f.arity⟩ && (inB f.clauses.length 1 20 && f.clauses.all (fun c=>clB (fun y q=>exOk d y q 40) c f.arity))
def fnsAt (d:Nat) (fs:List Fn') (k:Nat):Bool :=
  match fs[k]? with
  | none=>true
  | some f=>fnB d f && !(fs.take k).any (sameR ⟨f.name,f.arity⟩)
def fnsB (d:Nat) (fs:List Fn'):Bool:=(List.range fs.length).all (fnsAt d fs)
def mdOk (d:Nat) (m:Md):Bool:=atomB m.name && ((decide (m.exports.length≤20) && rfsB m.exports) && (inB m.funs.length 1 30 && fnsB d m.funs))
theorem rangeT_succ (f:Nat→Bool) (k:Nat) (h:(List.range k).all f=true) (hk:f k=true):(List.range (k+1)).all f=true:=by
  rw [List.range_succ,List.all_append,h];simp [hk]
theorem rangeT_at (f:Nat→Bool) (n k:Nat) (hk:k<n) (h:f k=false):(List.range n).all f=false:=by
  rw [List.all_eq_false];exact ⟨k,List.mem_range.2 hk,by simp [h]⟩
theorem rfsAt_zero {es:List Rf} {k:Nat} {r:Rf} (hk:k=0) (h:es[k]?=some r):rfsAt es k=refB r:=by
  subst hk;simp [rfsAt,h]
theorem rfsAt_succ {es:List Rf} {k:Nat} {q r:Rf} (hk:¬ k=0) (hq:es[k - 1]?=some q) (hr:es[k]?=some r):rfsAt es k=(refB r && lessB q r):=by
  obtain ⟨j,rfl⟩:∃ j,k=j+1:=⟨k - 1,by omega⟩
  simp only [Nat.add_sub_cancel] at hq
  simp [rfsAt,hr,hq]
theorem fnsAt_eq {d:Nat} {fs:List Fn'} {k:Nat} {f:Fn'} (h:fs[k]?=some f):fnsAt d fs k=(fnB d f && !(fs.take k).any (sameR ⟨f.name,f.arity⟩)):=by
  simp [fnsAt,h]
theorem fnB_eq (d:Nat) (s:ByteArray) (n:Int) (cl:List Cl):fnB d ⟨s,n,cl⟩=(refB ⟨s,n⟩ && (inB cl.length 1 20 && cl.all (fun c=>clB (fun y q=>exOk d y q (40 - 0)) c n))):=by
  simp [fnB]
theorem funOk_any (d:Nat) (w:World) (cs:List Value) (f:Fn') (hT:Tabs w) (h:HFn w All d cs f) :
    Calls Tryz.prog 123 #[.agg cs.toArray] w fun e w'=>e=.returned (.bool (fnB d f))∧Below w.heap.size w w':=by
  have HT:Hid (Tabs w):=hT
  obtain ⟨cv,rfl,hs,-,f0⟩:=h
  obtain ⟨fs,fa,cl⟩:=f
  simp only at *
  obtain ⟨p,cap,rfl,hcl,hcm,hx⟩:=f0
  have hnb:cl.length≤9223372036854775807:=by unfold maxLen at hcm;omega
  rw [fnB_eq]
  generalize hn:cl.length=n at *
  have HN:Hid (cl.length=n):=hn
  have HX:Hid (cl≠[]→∃ g off,p=some ⟨g,off,none⟩∧All g∧g<w.heap.size∧∀ i x,cl[i]?=some x→∃ cs,cs.length=2∧(∀ j,j<2→w.cell? ⟨g,off+i * 2+j,none⟩=cs[j]?)∧HCl w All (HEx w All d) cs x):=hx
  have BL:Hid (Below w.heap.size w (w.alloc (.cells #[.string fs,.int .i64 fa,.slice p n cap] 91))):=(Below.refl _ _).alloc (Nat.le_refl _) _
  clear hx hn hT
  cases hr:refB ⟨fs,fa⟩ with
  | false =>
    go_enter Tryz.func123,Tryz.ntmps123
    go_wp2_with fail
    refine (refOf_any fs fa p n cap _).mono ?_
    rintro e w2 ⟨rfl,hb2⟩
    have B2:Hid (Below w.heap.size w w2):=BL.out.trans (hb2.mono BL.out.size)
    have g2:Hid (Blk w2 w.heap.size #[.string fs,.int .i64 fa,.slice p n cap] 91):=(Blk.new (w:=w)).next hb2
    clear hb2
    go_wp2_with fail
    refine (refOk_any ⟨fs,fa⟩ _ hs (HT.out.below B2.out).keys).mono ?_
    rintro e w3 ⟨rfl,hb3⟩
    rw [hr]
    have B3:Hid (Below w.heap.size w w3):=B2.out.trans (hb3.mono B2.out.size)
    have g3:Hid (Blk w3 w.heap.size #[.string fs,.int .i64 fa,.slice p n cap] 91):=g2.out.next hb3
    clear hb3 g2
    go_wp2_with fail
    go_ret
    exact ⟨by simp,B3.out⟩
  | true =>
    cases hin:inB n 1 20 with
    | false =>
      go_enter Tryz.func123,Tryz.ntmps123
      go_wp2_with fail
      refine (refOf_any fs fa p n cap _).mono ?_
      rintro e w2 ⟨rfl,hb2⟩
      have B2:Hid (Below w.heap.size w w2):=BL.out.trans (hb2.mono BL.out.size)
      have g2:Hid (Blk w2 w.heap.size #[.string fs,.int .i64 fa,.slice p n cap] 91):=(Blk.new (w:=w)).next hb2
      clear hb2
      go_wp2_with fail
      refine (refOk_any ⟨fs,fa⟩ _ hs (HT.out.below B2.out).keys).mono ?_
      rintro e w3 ⟨rfl,hb3⟩
      rw [hr]
      have B3:Hid (Below w.heap.size w w3):=B2.out.trans (hb3.mono B2.out.size)
      have g3:Hid (Blk w3 w.heap.size #[.string fs,.int .i64 fa,.slice p n cap] 91):=g2.out.next hb3
      clear hb3 g2
      have xa0:=g3.out.cell 0 _ rfl
      have xa1:=g3.out.cell 1 _ rfl
      have xa2:=g3.out.cell 2 _ rfl
      go_wp2_with (first | (go_at_call 122;go_must (refine (withinM_any _ _ _ _).mono ?_;rintro e w9 ⟨rfl,hw9⟩;rw [hin,hw9];clear hw9 w9)))
      go_ret
      exact ⟨by simp,B3.out⟩
    | true =>
      go_enter Tryz.func123,Tryz.ntmps123
      go_wp2_with fail
      refine (refOf_any fs fa p n cap _).mono ?_
      rintro e w2 ⟨rfl,hb2⟩
      have B2:Hid (Below w.heap.size w w2):=BL.out.trans (hb2.mono BL.out.size)
      have g2:Hid (Blk w2 w.heap.size #[.string fs,.int .i64 fa,.slice p n cap] 91):=(Blk.new (w:=w)).next hb2
      clear hb2
      go_wp2_with fail
      refine (refOk_any ⟨fs,fa⟩ _ hs (HT.out.below B2.out).keys).mono ?_
      rintro e w3 ⟨rfl,hb3⟩
      rw [hr]
      have B3:Hid (Below w.heap.size w w3):=B2.out.trans (hb3.mono B2.out.size)
      have g3:Hid (Blk w3 w.heap.size #[.string fs,.int .i64 fa,.slice p n cap] 91):=g2.out.next hb3
      clear hb3 g2
      have xa0:=g3.out.cell 0 _ rfl
      have xa1:=g3.out.cell 1 _ rfl
      have xa2:=g3.out.cell 2 _ rfl
      go_wp2_with (first | (go_at_call 122;go_must (refine (withinM_any _ _ _ _).mono ?_;rintro e w9 ⟨rfl,hw9⟩;rw [hin,hw9];clear hw9 w9)))
      obtain ⟨W1,hW1⟩:∃ W1,W1=w3:=⟨_,rfl⟩
      have bA:Hid (Blk W1 w.heap.size #[.string fs,.int .i64 fa,.slice p n cap] 91):=by show Blk _ _ _ _;rw [hW1];exact g3.out
      have B1:Hid (Below w.heap.size w W1):=by show Below _ _ _;rw [hW1];exact B3.out
      rw [← hW1]
      clear hW1 g3 B3 xa0 xa1 xa2
      go_loopw [19] (fun iv wr=>∃ k:Nat,k≤n∧iv=.int .i64 k∧Hid ((cl.take k).all (fun c=>clB (fun y q=>exOk d y q (40 - 0)) c fa)=true)∧Hid (SameOn All W1 wr)∧Below w.heap.size w wr) (fun iv _=>n - (intOf iv).toNat)
      case atStart=>exact ⟨0,Nat.zero_le _,rfl,by show _=_;simp,⟨Nat.le_refl _,fun _ _ _=>rfl⟩,B1.out⟩
      case round =>
        obtain ⟨k,hk,rfl,hall,hso,hb⟩:=hrel
        have HB:Hid (Below w.heap.size w wr):=hb
        have b1:=bA.out.same_on hso.out
        have hlw:=b1.lt
        have xa1:=b1.cell 1 _ rfl
        clear b1
        by_cases hlt:k<n
        · obtain ⟨x,hxk⟩:∃ x,cl[k]?=some x:=⟨cl[k]'(by rw [HN.out];exact hlt),List.getElem?_eq_getElem _⟩
          obtain ⟨g,off,rfl,-,hgl,hat⟩:=HX.out (by intro h;rw [h] at hxk;simp at hxk)
          obtain ⟨cs,hcsl,hcs,r1⟩:=hat k x hxk
          obtain ⟨p1,n1,q1,p2,n2,q2,rfl⟩:=clShape r1
          have E1:∀ w',Below w.heap.size w w'→HCl w' All (HEx w' All d) [.slice p1 n1 q1,.slice p2 n2 q2] x:=fun w' hw=>r1.mono (SameOn.of_below hw) (fun _ h=>h) (fun _ _ h=>h.mono (SameOn.of_below hw) (fun _ h=>h))
          have a0:=hcs 0 (by omega)
          have a1:=hcs 1 (by omega)
          rw [← hb.cell (p:=⟨g,_,none⟩) hgl] at a0 a1
          simp at a0 a1
          have hki:(k:Int)<(n:Int):=by omega
          have hk0:(0:Int)≤(k:Int):=by omega
          have HBA:Hid (Below w.heap.size w (wr.alloc (.cells #[.slice p1 n1 q1,.slice p2 n2 q2] 127))):=HB.out.alloc HB.out.size _
          clear hb hcs hat hcsl r1
          generalize hcv:clB (fun y q=>exOk d y q (40 - 0)) x fa=cv
          have HCV:Hid (clB (fun y q=>exOk d y q (40 - 0)) x fa=cv):=hcv
          have HC2:Hid (cv=true→(cl.take (k+1)).all (fun c=>clB (fun y q=>exOk d y q (40 - 0)) c fa)=true):=fun h=>allT_succ _ cl k x hxk hall.out (hcv.trans h)
          have HC3:Hid (cv=false→cl.all (fun c=>clB (fun y q=>exOk d y q (40 - 0)) c fa)=false):=fun h=>allT_at _ cl k x hxk (hcv.trans h)
          clear hcv
          go_wp2_with fail
          refine (clause_allI d _ _ x fa 0 (HT.out.below HBA.out) (E1 _ HBA.out) (by omega) (by omega)).mono ?_
          rintro e w4 ⟨rfl,hb4⟩
          rw [HCV.out]
          have HB4:Hid (Below w.heap.size w w4):=HBA.out.trans (hb4.mono HBA.out.size)
          have HS4:Hid (SameOn All W1 w4):=(hso.out.trans (SameOn.of_below ((Below.refl _ _).alloc (Nat.le_refl _) _))).trans (SameOn.of_below hb4)
          clear hb4 HCV
          cases cv with
          | true =>
            have HT':Hid _:=HC2.out rfl
            clear HC2 HC3
            go_wp2_with fail
            exact ⟨⟨k+1,by omega,by go_num,HT'.out,HS4.out,HB4.out⟩,by simp [intOf];omega⟩
          | false =>
            have HF:Hid (cl.all (fun c=>clB (fun y q=>exOk d y q (40 - 0)) c fa)=false):=HC3.out rfl
            clear HC2 HC3
            go_wp2_with fail
            go_ret
            exact ⟨by first | (rw [HF.out];rfl) | (rw [HF.out];simp),HB4.out⟩
        · have HD:Hid (cl.all (fun c=>clB (fun y q=>exOk d y q (40 - 0)) c fa)=true):=by
            have:=hall.out
            rwa [List.take_of_length_le (by rw [HN.out];omega)] at this
          clear hb
          go_wp2_with fail
          go_ret
          exact ⟨by first | (rw [HD.out];rfl) | (rw [HD.out];simp),HB.out⟩
theorem funsOk_any (d:Nat) (w:World) (v:Value) (fs:List Fn') (hT:Tabs w) (h:Rows w All 3 (HFn w All d) v fs) :
    Calls Tryz.prog 87 #[v] w fun e w'=>e=.returned (.bool (inB fs.length 1 30 && fnsB d fs))∧Below w.heap.size w w':=by
  have HT:Hid (Tabs w):=hT
  have HR:∀ w',Below w.heap.size w w'→Rows w' All 3 (HFn w' All d) v fs:=fun w' hw=>h.mono (SameOn.of_below hw) (fun _ h=>h) (fun _ _ _ h=>h.mono (SameOn.of_below hw) (fun _ h=>h))
  obtain ⟨p,cap,rfl,hcl,hcm,hx⟩:=h
  have hnb:fs.length≤9223372036854775807:=by unfold maxLen at hcm;omega
  have hfn:fnsB d fs=(List.range fs.length).all (fnsAt d fs):=rfl
  rw [hfn]
  clear hfn
  generalize hn:fs.length=n at *
  have HN:Hid (fs.length=n):=hn
  have HX:Hid (fs≠[]→∃ g off,p=some ⟨g,off,none⟩∧All g∧g<w.heap.size∧∀ i x,fs[i]?=some x→∃ cs,cs.length=3∧(∀ j,j<3→w.cell? ⟨g,off+i * 3+j,none⟩=cs[j]?)∧HFn w All d cs x):=hx
  clear hx hn hT
  cases hin:inB n 1 30 with
  | false =>
    go_enter Tryz.func87,Tryz.ntmps87
    go_wp2_with (first | (go_at_call 122;go_must (refine (withinM_any _ _ _ _).mono ?_;rintro e w9 ⟨rfl,hw9⟩;rw [hin,hw9];clear hw9 w9)))
    go_ret
    exact ⟨by simp,Below.refl _ _⟩
  | true =>
    go_enter Tryz.func87,Tryz.ntmps87
    go_wp2_with (first | (go_at_call 122;go_must (refine (withinM_any _ _ _ _).mono ?_;rintro e w9 ⟨rfl,hw9⟩;rw [hin,hw9];clear hw9 w9)))
    go_loopw [11] (fun iv wr=>∃ k:Nat,k≤n∧iv=.int .i64 k∧Hid ((List.range k).all (fnsAt d fs)=true)∧Below w.heap.size w wr) (fun iv _=>n - (intOf iv).toNat)
    case atStart=>exact ⟨0,Nat.zero_le _,rfl,by show _=_;simp,Below.refl _ _⟩
    case round =>
      obtain ⟨k,hk,rfl,hall,hb⟩:=hrel
      have HB:Hid (Below w.heap.size w wr):=hb
      by_cases hlt:k<n
      · obtain ⟨x,hxk⟩:∃ x,fs[k]?=some x:=⟨fs[k]'(by rw [HN.out];exact hlt),List.getElem?_eq_getElem _⟩
        obtain ⟨g,off,rfl,-,hgl,hat⟩:=HX.out (by intro h;rw [h] at hxk;simp at hxk)
        obtain ⟨cs,hcsl,hcs,r1⟩:=hat k x hxk
        obtain ⟨p1,n1,q1,rfl⟩:=fnShape r1
        have E1:∀ w',Below w.heap.size w w'→HFn w' All d [.string x.name,.int .i64 x.arity,.slice p1 n1 q1] x:=fun w' hw=>r1.mono (SameOn.of_below hw) (fun _ h=>h)
        have HAT:Hid (fnsAt d fs k=(fnB d x && !(fs.take k).any (sameR ⟨x.name,x.arity⟩))):=fnsAt_eq hxk
        have RT:∀ w',Below w.heap.size w w'→Rows w' All 3 (HFn w' All d) (.slice (some ⟨g,off,none⟩) k cap) (fs.take k):=fun w' hw=>(HR w' hw).take k (by omega)
        generalize hca:fnB d x=ca at *
        generalize hcb:(fs.take k).any (sameR ⟨x.name,x.arity⟩)=cb at *
        have HCA:Hid (fnB d x=ca):=hca
        have HCB:Hid ((fs.take k).any (sameR ⟨x.name,x.arity⟩)=cb):=hcb
        generalize x.name=xs at *
        generalize x.arity=xn at *
        have a0:=hcs 0 (by omega)
        have a1:=hcs 1 (by omega)
        have a2:=hcs 2 (by omega)
        rw [← hb.cell (p:=⟨g,_,none⟩) hgl] at a0 a1 a2
        simp at a0 a1 a2
        have hki:(k:Int)<(n:Int):=by omega
        have hk0:(0:Int)≤(k:Int):=by omega
        have hkc:(k:Int)≤(cap:Int):=by omega
        obtain ⟨W5,hW5⟩:∃ W5,W5=wr.alloc (.cells #[.string xs,.int .i64 xn,.slice p1 n1 q1] 91):=⟨_,rfl⟩
        have bF:Hid (Blk W5 wr.heap.size #[.string xs,.int .i64 xn,.slice p1 n1 q1] 91):=by show Blk _ _ _ _;rw [hW5];exact Blk.new
        have K5:Below wr.heap.size wr W5:=by rw [hW5];exact (Below.refl _ _).alloc (Nat.le_refl _) _
        have B5:Hid (Below w.heap.size w W5):=hb.trans (K5.mono hb.size)
        have HW5:Hid (W5=wr.alloc (.cells #[.string xs,.int .i64 xn,.slice p1 n1 q1] 91)):=hW5
        have z0:=bF.out.cell 0 _ rfl
        have z1:=bF.out.cell 1 _ rfl
        have z2:=bF.out.cell 2 _ rfl
        have l2:=bF.out.lt
        have qz0:∀ m:Wd (fun w'=>SameOn All W5 w'∧Below w.heap.size w w'),m.val.cell? ⟨wr.heap.size,0,none⟩=some (.string xs):=fun m=>(World.cell?_of_block (m.ok.1.2 wr.heap.size trivial l2)).trans z0
        have qz1:∀ m:Wd (fun w'=>SameOn All W5 w'∧Below w.heap.size w w'),m.val.cell? ⟨wr.heap.size,1,none⟩=some (.int .i64 xn):=fun m=>(World.cell?_of_block (m.ok.1.2 wr.heap.size trivial l2)).trans z1
        have qz2:∀ m:Wd (fun w'=>SameOn All W5 w'∧Below w.heap.size w w'),m.val.cell? ⟨wr.heap.size,2,none⟩=some (.slice p1 n1 q1):=fun m=>(World.cell?_of_block (m.ok.1.2 wr.heap.size trivial l2)).trans z2
        clear hb hcs hat hcsl r1 hW5 K5 z0 z1 z2 l2 hca hcb
        cases ca with
        | false =>
          have HF:Hid ((List.range n).all (fnsAt d fs)=false):=rangeT_at _ n k hlt (by rw [HAT.out];rfl)
          go_wp2_with fail
          rw [← HW5.out]
          have hCne:Nonempty (Wd (fun w'=>SameOn All W5 w'∧Below w.heap.size w w')):=⟨⟨W5.drew,⟨⟨Nat.le_refl _,fun _ _ _=>rfl⟩,B5.out.drew⟩⟩⟩
          refine wp_region_class (fun w'=>SameOn All W5 w'∧Below w.heap.size w w') (by kernel_rfl) (by kernel_rfl) ⟨⟨Nat.le_refl _,fun _ _ _=>rfl⟩,B5.out.drew⟩ ?_
          repeat (go_big_quiet_step (first | (rename_i m;go_at_call 123;refine (funOk_any d _ _ x (HT.out.below m.ok.2) (E1 _ m.ok.2)).mono ?_;rintro e w1 ⟨rfl,hb1⟩;exact ⟨by rw [HCA.out],⟨⟨w1,⟨(SameOn.trans m.ok.1 (SameOn.of_below hb1)),m.ok.2.trans (hb1.mono m.ok.2.size)⟩⟩,rfl⟩⟩)))
          refine wpQuiet_nil ?_
          rintro _ ⟨mq,rfl⟩
          have HB4:Hid (Below w.heap.size w mq.val):=mq.ok.2
          have HS4:Hid (SameOn All W5 mq.val):=mq.ok.1
          generalize mq.val=w4 at HB4 HS4 ⊢
          go_wp2_with fail
          go_ret
          exact ⟨by rw [HF.out];rfl,HB4.out⟩
        | true =>
          have HT2:Hid (cb=false→(List.range (k+1)).all (fnsAt d fs)=true):=fun h=>rangeT_succ _ k hall.out (by rw [HAT.out,h];rfl)
          have HF:Hid (cb=true→(List.range n).all (fnsAt d fs)=false):=fun h=>rangeT_at _ n k hlt (by rw [HAT.out,h];rfl)
          go_wp2_with fail
          rw [← HW5.out]
          have hCne:Nonempty (Wd (fun w'=>SameOn All W5 w'∧Below w.heap.size w w')):=⟨⟨W5.drew,⟨⟨Nat.le_refl _,fun _ _ _=>rfl⟩,B5.out.drew⟩⟩⟩
          refine wp_region_class (fun w'=>SameOn All W5 w'∧Below w.heap.size w w') (by kernel_rfl) (by kernel_rfl) ⟨⟨Nat.le_refl _,fun _ _ _=>rfl⟩,B5.out.drew⟩ ?_
          repeat (go_big_quiet_step (first | (rename_i m;go_at_call 123;refine (funOk_any d _ _ x (HT.out.below m.ok.2) (E1 _ m.ok.2)).mono ?_;rintro e w1 ⟨rfl,hb1⟩;exact ⟨by rw [HCA.out],⟨⟨w1,⟨(SameOn.trans m.ok.1 (SameOn.of_below hb1)),m.ok.2.trans (hb1.mono m.ok.2.size)⟩⟩,rfl⟩⟩) | (rename_i m;go_at_call 61;refine (refOf_any _ _ _ _ _ _).mono ?_;rintro e w1 ⟨rfl,hb1⟩;exact ⟨rfl,⟨⟨w1,⟨(SameOn.trans m.ok.1 (SameOn.of_below hb1)),m.ok.2.trans (hb1.mono m.ok.2.size)⟩⟩,rfl⟩⟩) | (rename_i m;go_at_call 88;refine (hasFun_any d _ _ (fs.take k) ⟨xs,xn⟩ (RT _ m.ok.2)).mono ?_;rintro e w1 ⟨rfl,hb1⟩;exact ⟨by rw [HCB.out],⟨⟨w1,⟨(SameOn.trans m.ok.1 (SameOn.of_below hb1)),m.ok.2.trans (hb1.mono m.ok.2.size)⟩⟩,rfl⟩⟩)))
          refine wpQuiet_nil ?_
          rintro _ ⟨mq,rfl⟩
          have HB4:Hid (Below w.heap.size w mq.val):=mq.ok.2
          have HS4:Hid (SameOn All W5 mq.val):=mq.ok.1
          generalize mq.val=w4 at HB4 HS4 ⊢
          cases cb with
          | false =>
            have HT':Hid _:=HT2.out rfl
            clear HT2 HF
            go_wp2_with fail
            exact ⟨⟨k+1,by omega,by go_num,HT'.out,HB4.out⟩,by simp [intOf];omega⟩
          | true =>
            have HF':Hid _:=HF.out rfl
            clear HT2 HF
            go_wp2_with fail
            go_ret
            exact ⟨by rw [HF'.out];rfl,HB4.out⟩
      · have HD:Hid ((List.range n).all (fnsAt d fs)=true):=by
          obtain rfl:k=n:=by omega
          exact hall.out
        clear hb
        go_wp2_with fail
        go_ret
        exact ⟨by rw [HD.out];rfl,HB.out⟩
end Go.Proofs.YtefpgpbbgclemaaGreatDoor
