/-
  ImplDec RefText NameTxt
-/
import Derived.Test.YtonpgdfpgpepiaaGreatDoorP16
import Derived.Test.YtonpgdfpgpepiaaGreatDoorP05
set_option maxHeartbeats 16000000
set_option linter.unusedVariables false
set_option maxRecDepth 100000
namespace Go.Proofs.YtonpgdfpgpepiaaGreatDoor
open Go.ChangeShapes Go.WideShapes Go.ChangeAt Go.RowKit
def PowAt (w:World):Prop:=Lib.TabIs Tryz.prog w "internal/strconv.uint64pow10" .u64 Lib.pow10Tab
theorem below_grow (w:World) (k:Nat) (os:Array Obj):Below w.heap.size w (Sort.grow (w.drewN k) os):=by
  refine ⟨rfl,rfl,rfl,?_,fun j hj=>?_⟩
  · simp [Sort.grow]
  · simp [Sort.grow,Array.getElem?_append,hj]
theorem implDecText_any (n:Int) (w:World) (h0:-9223372036854775808≤n) (h1:n≤9223372036854775807) (hp:PowAt w) :
    Calls Tryz.prog 73 #[.int .i64 n] w fun e w'=>e=.returned (.string ⟨(Lib.itoa n).toArray⟩)∧Below w.heap.size w w':=by
  have HP:Hid (PowAt w):=hp
  clear hp
  go_enter Tryz.func73,Tryz.ntmps73
  go_wp2_with (go_at_call 116;go_must (refine (Tryz.strconv_Itoa _ h0 h1 _ HP.out).mono ?_;rintro e w' ⟨rfl,k,os,rfl⟩))
  go_ret
  exact ⟨rfl,below_grow w k os⟩
theorem powAt_below {w w':World} (h:PowAt w) (hb:Below w.heap.size w w'):PowAt w':=by
  unfold PowAt Lib.TabIs at *
  unfold World.var? at *
  have hg : Tryz.prog.globalNamed "internal/strconv.uint64pow10" = some 2:=by kernel_rfl
  rw [hg] at h ⊢
  simp only [Option.bind_some] at h ⊢
  have hlt:2<w.heap.size:=by
    cases hh:w.heap[2]? with
    | none=>rw [hh] at h;cases h
    | some o=>exact (Array.getElem?_eq_some_iff.1 hh).1
  rw [hb.block _ hlt];exact h
theorem refText_any (w:World) (r:Rf) (hs:r.name.size≤1048576) (hk:okI r.arity) (hp:PowAt w) :
    Calls Tryz.prog 47 #[.agg #[.string r.name,.int .i64 r.arity]] w fun e w'=>e=.returned (.string (strOf (refT r)))∧Below w.heap.size w w':=by
  obtain ⟨s,n⟩:=r
  simp only at *
  obtain ⟨i0,i1⟩:=okI_bd hk
  have hil:=itoa_len n i0 i1
  have hsz:(⟨(Lib.itoa n).toArray⟩:ByteArray).size≤21:=by simpa [ByteArray.size] using hil
  have hsz2:(Lib.itoa n).toArray.size≤21:=by simpa using hil
  have HP:Hid (PowAt w):=hp
  clear hp hk
  obtain ⟨W1,hW1⟩:∃ W1,W1=w.alloc (.cells #[.string s,.int .i64 n] 57):=⟨_,rfl⟩
  have bA:Hid (Blk W1 w.heap.size #[.string s,.int .i64 n] 57):=by show Blk _ _ _ _;rw [hW1];exact Blk.new
  have B1:Hid (Below w.heap.size w W1):=by show Below _ _ _;rw [hW1];exact (Below.refl _ _).alloc (Nat.le_refl _) _
  have HW1:Hid (W1=w.alloc (.cells #[.string s,.int .i64 n] 57)):=hW1
  have hlw:=bA.out.lt
  have qx0:∀ mw:Wd (fun w'=>SameOn All W1 w'∧Below w.heap.size w w'),mw.val.cell? ⟨w.heap.size,0,none⟩=some (.string s):=fun mw=>(World.cell?_of_block (mw.ok.1.2 w.heap.size trivial hlw)).trans (bA.out.cell 0 _ rfl)
  have qx1:∀ mw:Wd (fun w'=>SameOn All W1 w'∧Below w.heap.size w w'),mw.val.cell? ⟨w.heap.size,1,none⟩=some (.int .i64 n):=fun mw=>(World.cell?_of_block (mw.ok.1.2 w.heap.size trivial hlw)).trans (bA.out.cell 1 _ rfl)
  clear hW1
  go_enter Tryz.func47,Tryz.ntmps47
  go_wp2_with fail
  rw [← HW1.out]
  have hCne:Nonempty (Wd (fun w'=>SameOn All W1 w'∧Below w.heap.size w w')):=⟨⟨W1.drew,⟨⟨Nat.le_refl _,fun _ _ _=>rfl⟩,B1.out.drew⟩⟩⟩
  refine wp_region_class (fun w'=>SameOn All W1 w'∧Below w.heap.size w w') (by kernel_rfl) (by kernel_rfl) ⟨⟨Nat.le_refl _,fun _ _ _=>rfl⟩,B1.out.drew⟩ ?_
  repeat (go_big_quiet_step (first | (rename_i m;go_at_call 73;refine (implDecText_any n _ i0 i1 (powAt_below HP.out m.ok.2)).mono ?_;rintro e w1 ⟨rfl,hb1⟩;exact ⟨rfl,⟨⟨w1,⟨(SameOn.trans m.ok.1 (SameOn.of_below hb1)),m.ok.2.trans (hb1.mono m.ok.2.size)⟩⟩,rfl⟩⟩)))
  refine wpQuiet_nil ?_
  rintro _ ⟨mq,rfl⟩
  have HB4:Hid (Below w.heap.size w mq.val):=mq.ok.2
  generalize mq.val=w4 at HB4 ⊢
  go_wp2_with fail
  go_ret
  exact ⟨ret_strOf (by simp [refT,ByteArray.data_append]),HB4.out⟩
def nameT (m s:ByteArray) (n:Int):List UInt8:=m.data.toList ++ [58] ++ (s.data.toList ++ [47] ++ Lib.itoa n)
theorem specName_any (w:World) (m s:ByteArray) (n:Int) (hm:m.size≤1048576) (hs:s.size≤1048576) (hk:okI n) :
    Calls Tryz.prog 16 #[.string m,.string s,.int .i64 n] w fun e w'=>e=.returned (.string (strOf (nameT m s n)))∧Below w.heap.size w w':=by
  obtain ⟨i0,i1⟩:=okI_bd hk
  have hil:=itoa_len n i0 i1
  have hsz:(⟨(Lib.itoa n).toArray⟩:ByteArray).size≤21:=by simpa [ByteArray.size] using hil
  have hsz2:(Lib.itoa n).toArray.size≤21:=by simpa using hil
  clear hk
  go_enter Tryz.func16,Tryz.ntmps16
  go_wp2_with (go_at_call 37;go_must (refine (specDecText_any n _ i0 i1).mono ?_;rintro e w1 ⟨rfl,rfl⟩))
  go_ret
  exact ⟨ret_strOf (by simp [nameT,ByteArray.data_append]),Below.refl _ _⟩
theorem refT_len (s:ByteArray) (n:Int) (hs:s.size≤1048576) (hk:okI n):(strOf (refT ⟨s,n⟩)).size≤1048600:=by
  obtain ⟨i0,i1⟩:=okI_bd hk
  have hil:=itoa_len n i0 i1
  rw [strOf_size]
  simp only [refT,List.length_append,bsize]
  simp
  omega
theorem fullName_any (w:World) (m s:ByteArray) (n:Int) (hm:m.size≤1048576) (hs:s.size≤1048576) (hk:okI n) (hp:PowAt w) :
    Calls Tryz.prog 23 #[.string m,.agg #[.string s,.int .i64 n]] w fun e w'=>e=.returned (.string (strOf (nameT m s n)))∧Below w.heap.size w w':=by
  have hl:=refT_len s n hs hk
  have HK:Hid (okI n):=hk
  have HP:Hid (PowAt w):=hp
  clear hk hp
  obtain ⟨W1,hW1⟩:∃ W1,W1=w.alloc (.cells #[.string s,.int .i64 n] 57):=⟨_,rfl⟩
  have B1:Hid (Below w.heap.size w W1):=by show Below _ _ _;rw [hW1];exact (Below.refl _ _).alloc (Nat.le_refl _) _
  have HW1:Hid (W1=w.alloc (.cells #[.string s,.int .i64 n] 57)):=hW1
  clear hW1
  go_enter Tryz.func23,Tryz.ntmps23
  go_wp2_with (go_at_call 47;go_must (try rw [← HW1.out];refine (refText_any _ ⟨s,n⟩ hs HK.out (powAt_below HP.out (by first | exact B1.out | exact Below.refl _ _))).mono ?_;rintro e w1 ⟨rfl,hb1⟩;have HB1:Hid _:=hb1;clear hb1))
  go_ret
  exact ⟨ret_strOf (by simp [nameT,refT,strOf,ByteArray.data_append]),by first | exact HB1.out | exact B1.out.trans (HB1.out.mono B1.out.size)⟩
theorem nameT_len (m s:ByteArray) (n:Int) (hm:m.size≤1048576) (hs:s.size≤1048576) (hk:okI n):(strOf (nameT m s n)).size≤2097200:=by
  obtain ⟨i0,i1⟩:=okI_bd hk
  have hil:=itoa_len n i0 i1
  rw [strOf_size]
  simp only [nameT,List.length_append,bsize]
  simp
  omega
end Go.Proofs.YtonpgdfpgpepiaaGreatDoor
