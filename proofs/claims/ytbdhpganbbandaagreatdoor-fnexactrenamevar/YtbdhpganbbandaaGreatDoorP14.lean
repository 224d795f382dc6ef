/-
  IsErr Refuse
-/
import Derived.Test.YtbdhpganbbandaaGreatDoorP03
import Derived.Stop.Asserts
set_option maxHeartbeats 16000000
set_option linter.unusedVariables false
set_option maxRecDepth 100000
namespace Go.Proofs.YtbdhpganbbandaaGreatDoor
open Go.RowKit Go.Extern.Stop Go.Stop Go.Extern
set_option linter.unusedVariables false
set_option maxRecDepth 100000
abbrev errV (a:Addr):Value:=.iface 297 (.pointer (some a))
theorem ieTypeOf (v:Value) (w:World):(Extern.ReflectliteType.typeOf #[.iface 297 v]).run Tryz.prog w=.ok (.iface 228 (.agg #[.pointer (some ⟨9,297,none⟩)])) w:=by kernel_rfl
theorem ieComparable (w:World):((Extern.ReflectliteType.method fun t=>do Extern.Rtype.noPackHeld "Comparable" t;(fun a=>Value.bool a.comparable) <$> typeInfo t) #[.agg #[.pointer (some ⟨9,297,none⟩)]]).run Tryz.prog w=.ok (.bool true) w:=by kernel_rfl
theorem ieMethod (v:Value) (w:World):(Go.method 437 228 v "Comparable").run Tryz.prog w=.ok (257,v) w:=by kernel_rfl
theorem ieComp:(Tryz.prog.info? 297).map (·.comparable)=some true:=by kernel_rfl
theorem ieSize:(Tryz.prog.info? 324).map (·.size)=some 1:=by kernel_rfl
theorem ieNoIs (v:Value) (xT:TypeId) (w:World):(Instr.typeAssert (.iface 297 v) xT 230 true).run Tryz.prog w=.ok (.tuple #[.nilIface,.bool false]) w:=run_typeAssert_lacksB Tryz.underlying230 (by kernel_rfl) (by kernel_rfl) v xT w
theorem ieNoUnwrap (v:Value) (xT:TypeId) (w:World):(Instr.typeAssert (.iface 297 v) xT 233 true).run Tryz.prog w=.ok (.tuple #[.nilIface,.bool false]) w:=run_typeAssert_lacksB Tryz.underlying233 (by kernel_rfl) (by kernel_rfl) v xT w
theorem ieNoUnwraps (v:Value) (xT:TypeId) (w:World):(Instr.typeAssert (.iface 297 v) xT 235 true).run Tryz.prog w=.ok (.tuple #[.nilIface,.bool false]) w:=run_typeAssert_lacksB Tryz.underlying235 (by kernel_rfl) (by kernel_rfl) v xT w
theorem errIs_same (a:Addr) (w:World):Calls Tryz.prog 127 #[errV a,errV a] w fun e w'=>e=.returned (.bool true)∧w'=w:=by
  obtain ⟨i,hi,hcmp⟩:=Option.map_eq_some_iff.1 ieComp
  obtain ⟨j,hj,hjs⟩:=Option.map_eq_some_iff.1 ieSize
  have h8:=@run_callFunc_extern Tryz.prog 156 _ Extern.ReflectliteType.typeOf Tryz.func156 (by kernel_rfl) (by kernel_rfl) (by kernel_rfl) (by kernel_rfl)
  have h32:=@run_callFunc_extern Tryz.prog 257 _ (Extern.ReflectliteType.method fun t=>do Extern.Rtype.noPackHeld "Comparable" t;pure (.bool (← typeInfo t).comparable)) Tryz.func257 (by kernel_rfl) (by kernel_rfl) (by kernel_rfl) (by kernel_rfl)
  have tT:=ieTypeOf
  have cT:=ieComparable
  have mR:=ieMethod
  have heq:=run_eql_iface_ptr_same (P:=Tryz.prog) w a Tryz.underlying102 Tryz.underlying297 hi hcmp hj
  go_enter Tryz.func127,Tryz.ntmps127
  go_wp2
  refine wp_loop_rounds 1 ?_
  rw [rounds_succ]
  go_wp2
  go_ret
  exact ⟨rfl,rfl⟩
theorem errIs_nil (b:Addr) (w:World):Calls Tryz.prog 127 #[.nilIface,errV b] w fun e w'=>e=.returned (.bool false)∧w'=w:=by
  have hn:=run_eql_iface_nil_left (P:=Tryz.prog) w 297 (.pointer (some b)) Tryz.underlying102
  go_enter Tryz.func127,Tryz.ntmps127
  go_wp2
  go_ret
  exact ⟨rfl,rfl⟩
theorem errIs_other (a b:Addr) (ca cb:Array Value) (ta tb:TypeId) (w:World) (hne:a≠b) (ha:w.heap[a.block]?=some (.cells ca ta (0,0))) (hb:w.heap[b.block]?=some (.cells cb tb (0,0))) :
    Calls Tryz.prog 127 #[errV a,errV b] w fun e w'=>e=.returned (.bool false)∧w'=w:=by
  obtain ⟨i,hi,hcmp⟩:=Option.map_eq_some_iff.1 ieComp
  obtain ⟨j,hj,hjs⟩:=Option.map_eq_some_iff.1 ieSize
  have h8:=@run_callFunc_extern Tryz.prog 156 _ Extern.ReflectliteType.typeOf Tryz.func156 (by kernel_rfl) (by kernel_rfl) (by kernel_rfl) (by kernel_rfl)
  have h32:=@run_callFunc_extern Tryz.prog 257 _ (Extern.ReflectliteType.method fun t=>do Extern.Rtype.noPackHeld "Comparable" t;pure (.bool (← typeInfo t).comparable)) Tryz.func257 (by kernel_rfl) (by kernel_rfl) (by kernel_rfl) (by kernel_rfl)
  have tT:=ieTypeOf
  have cT:=ieComparable
  have mR:=ieMethod
  have nE:=ieNoIs
  have uE:=ieNoUnwrap
  have vE:=ieNoUnwraps
  have heq:=run_eql_iface_ptr_other (P:=Tryz.prog) w Tryz.underlying102 Tryz.underlying297 hi hcmp hj (by rw [hjs];decide) hne ha hb
  go_enter Tryz.func127,Tryz.ntmps127
  go_wp2
  refine wp_loop_rounds 1 ?_
  rw [rounds_succ]
  go_wp2
  go_ret
  exact ⟨rfl,rfl⟩
end Go.Proofs.YtbdhpganbbandaaGreatDoor
namespace Go.Proofs.YtbdhpganbbandaaGreatDoor
open Go.ChangeShapes Go.WideShapes Go.ChangeAt Go.RowKit
def ErrIn (w:World) (g:Nat) (a:Addr):Prop:=w.cell? ⟨g,0,none⟩=some (errV a)∧∃ cs t,w.heap[a.block]?=some (.cells cs t (0,0))
def ErrsAt (w:World):Prop:=∃ f,ErrIn w 0 f∧(∃ a,ErrIn w 1 a∧f≠a)∧(∃ a,ErrIn w 2 a∧f≠a)∧(∃ a,ErrIn w 3 a∧f≠a)∧(∃ a,ErrIn w 4 a∧f≠a)∧∃ a,ErrIn w 5 a∧f≠a
theorem ErrIn.below {w w':World} {g:Nat} {a:Addr} (h:ErrIn w g a) (hb:Below w.heap.size w w'):ErrIn w' g a:=by
  obtain ⟨h1,cs,t,h2⟩:=h
  refine ⟨?_,cs,t,(hb.block _ (Array.getElem?_eq_some_iff.1 h2).1).trans h2⟩
  have hlt:g<w.heap.size:=by
    unfold World.cell? at h1
    cases hh:w.heap[g]? with
    | none=>simp only [hh] at h1;cases h1
    | some o=>exact (Array.getElem?_eq_some_iff.1 hh).1
  exact (hb.cell (p:=⟨g,0,none⟩) hlt).trans h1
theorem ErrsAt.below {w w':World} (h:ErrsAt w) (hb:Below w.heap.size w w'):ErrsAt w':=by
  obtain ⟨f,hf,⟨a1,h1,n1⟩,⟨a2,h2,n2⟩,⟨a3,h3,n3⟩,⟨a4,h4,n4⟩,a5,h5,n5⟩:=h
  exact ⟨f,hf.below hb,⟨a1,h1.below hb,n1⟩,⟨a2,h2.below hb,n2⟩,⟨a3,h3.below hb,n3⟩,⟨a4,h4.below hb,n4⟩,a5,h5.below hb,n5⟩
theorem codeOf_nil (w:World) (h:ErrsAt w):Calls Tryz.prog 96 #[.nilIface] w fun e w'=>e=.returned (.int .i64 0)∧Below w.heap.size w w':=by
  obtain ⟨f,⟨cf,-⟩,⟨a1,⟨c1,-⟩,-⟩,⟨a2,⟨c2,-⟩,-⟩,⟨a3,⟨c3,-⟩,-⟩,⟨a4,⟨c4,-⟩,-⟩,a5,⟨c5,-⟩,-⟩:=h
  go_enter Tryz.func96,Tryz.ntmps96
  go_wp2_with (go_at_call 127;refine (errIs_nil _ _).mono ?_;rintro e w' ⟨rfl,hw⟩;rw [hw];clear hw w')
  go_ret
  exact ⟨rfl,Below.refl _ _⟩
theorem codeOf_full (w:World) (h:ErrsAt w) (f:Addr) (hf:w.cell? ⟨0,0,none⟩=some (errV f)):Calls Tryz.prog 96 #[errV f] w fun e w'=>e=.returned (.int .i64 6)∧Below w.heap.size w w':=by
  obtain ⟨f',⟨cf,csf,tf,hf'⟩,⟨a1,⟨c1,k1,t1,h1⟩,n1⟩,⟨a2,⟨c2,k2,t2,h2⟩,n2⟩,⟨a3,⟨c3,k3,t3,h3⟩,n3⟩,⟨a4,⟨c4,k4,t4,h4⟩,n4⟩,a5,⟨c5,k5,t5,h5⟩,n5⟩:=h
  obtain rfl:f=f':=by
    rw [cf] at hf
    simp only [Option.some.injEq,errV,Value.iface.injEq,Value.pointer.injEq,true_and] at hf
    exact hf.symm
  have I1:Hid (Calls Tryz.prog 127 #[errV f,errV a1] w fun e w'=>e=.returned (.bool false)∧w'=w):=errIs_other _ _ _ _ _ _ w n1 hf' h1
  have I2:Hid (Calls Tryz.prog 127 #[errV f,errV a2] w fun e w'=>e=.returned (.bool false)∧w'=w):=errIs_other _ _ _ _ _ _ w n2 hf' h2
  have I3:Hid (Calls Tryz.prog 127 #[errV f,errV a3] w fun e w'=>e=.returned (.bool false)∧w'=w):=errIs_other _ _ _ _ _ _ w n3 hf' h3
  have I4:Hid (Calls Tryz.prog 127 #[errV f,errV a4] w fun e w'=>e=.returned (.bool false)∧w'=w):=errIs_other _ _ _ _ _ _ w n4 hf' h4
  have I5:Hid (Calls Tryz.prog 127 #[errV f,errV a5] w fun e w'=>e=.returned (.bool false)∧w'=w):=errIs_other _ _ _ _ _ _ w n5 hf' h5
  have I6:Hid (Calls Tryz.prog 127 #[errV f,errV f] w fun e w'=>e=.returned (.bool true)∧w'=w):=errIs_same f w
  clear hf h1 h2 h3 h4 h5 hf' n1 n2 n3 n4 n5
  go_enter Tryz.func96,Tryz.ntmps96
  go_wp2_with fail
  refine I1.out.mono ?_
  rintro e w1 ⟨rfl,hw⟩
  rw [hw];clear hw w1
  go_wp2_with fail
  refine I2.out.mono ?_
  rintro e w1 ⟨rfl,hw⟩
  rw [hw];clear hw w1
  go_wp2_with fail
  refine I3.out.mono ?_
  rintro e w1 ⟨rfl,hw⟩
  rw [hw];clear hw w1
  go_wp2_with fail
  refine I4.out.mono ?_
  rintro e w1 ⟨rfl,hw⟩
  rw [hw];clear hw w1
  go_wp2_with fail
  refine I5.out.mono ?_
  rintro e w1 ⟨rfl,hw⟩
  rw [hw];clear hw w1
  go_wp2_with fail
  refine I6.out.mono ?_
  rintro e w1 ⟨rfl,hw⟩
  rw [hw];clear hw w1
  go_wp2_with fail
  go_ret
  exact ⟨rfl,Below.refl _ _⟩
end Go.Proofs.YtbdhpganbbandaaGreatDoor
