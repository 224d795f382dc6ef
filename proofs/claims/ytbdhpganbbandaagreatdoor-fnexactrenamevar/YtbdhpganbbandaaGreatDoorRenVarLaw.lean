/-
  FnExactRenameVar is proved: at every row of modules, every place and all texts RenameVar of the program answers as the specification's, field by field; its answer lies in memory of its own, behind another call too; its arguments are left as they were. Condition (the card ties it to the program's text): the variable of the three words, the table of what a kind has and the variables of the six named errors hold what their initialisers lay.
-/
import Derived.Test.YtbdhpganbbandaaGreatDoorP48
import Derived.Test.YtbdhpganbbandaaGreatDoorP24
import Derived.Test.YtbdhpganbbandaaGreatDoorCards
import Derived.Test.YtbdhpganbbandaaGreatDoorTie
import Derived.ShutString
namespace Go.Proofs.YtbdhpganbbandaaGreatDoor
namespace fnExactRenameVar
open Go.ChangeShapes Go.WideShapes Go.ChangeAt Go.RowKit
open Go.ChangeMaps (open_string shut_string)
set_option linter.unusedVariables false
theorem own:ownKnob Tryz.prog.godebug=none:=by kernel_rfl
theorem laidOut:laidOutB Tryz.prog=true:=by kernel_rfl
theorem mdTypes:MdTypes Tryz.prog 241 176 178 115 3 9 113 37 117 38 40 where
  e:=⟨_,Tryz.underlying241,by kernel_rfl⟩
  c:=⟨_,Tryz.underlying178,by kernel_rfl⟩
  es:=Tryz.underlying176
  cs:=Tryz.underlying115
  i:=Tryz.underlying3
  s:=Tryz.underlying9
  ce:=by kernel_rfl
  cc:=by kernel_rfl
  ci:=by kernel_rfl
  cS:=by kernel_rfl
  ces:=by kernel_rfl
  ccs:=by kernel_rfl
  r:=⟨_,Tryz.underlying113,by kernel_rfl⟩
  f:=⟨_,Tryz.underlying117,by kernel_rfl⟩
  m:=⟨_,Tryz.underlying40,by kernel_rfl⟩
  rs:=Tryz.underlying37
  fs:=Tryz.underlying38
  cr:=by kernel_rfl
  cf:=by kernel_rfl
  cm:=by kernel_rfl
  crs:=by kernel_rfl
  cfs:=by kernel_rfl
theorem gKeys : Tryz.prog.globalNamed "loop.example/g00377/impl.keywords" = some 6:=by kernel_rfl
theorem tKeys:(Tryz.prog.globals[6]?).map (·.type)=some 243:=by kernel_rfl
theorem gShapes : Tryz.prog.globalNamed "loop.example/g00377/impl.shapes" = some 8:=by kernel_rfl
theorem tShapes:(Tryz.prog.globals[8]?).map (·.type)=some 290:=by kernel_rfl
def grid:List (List Int):=[[0,0,0,0,0],[1,0,0,0,0],[2,0,0,0,0],[0,0,0,0,0],[0,1,20,0,0],[0,0,0,0,0],[0,2,2,0,0],[3,2,2,0,0],[1,0,6,0,0],[0,2,2,0,0],[0,1,1,1,20]]
theorem g_errBad : Tryz.prog.globalNamed "loop.example/g00377/impl.errBad" = some 1:=by kernel_rfl
theorem t_errBad:(Tryz.prog.globals[1]?).map (·.type)=some 102:=by kernel_rfl
theorem g_errNone : Tryz.prog.globalNamed "loop.example/g00377/impl.errNone" = some 2:=by kernel_rfl
theorem t_errNone:(Tryz.prog.globals[2]?).map (·.type)=some 102:=by kernel_rfl
theorem g_errName : Tryz.prog.globalNamed "loop.example/g00377/impl.errName" = some 3:=by kernel_rfl
theorem t_errName:(Tryz.prog.globals[3]?).map (·.type)=some 102:=by kernel_rfl
theorem g_errTaken : Tryz.prog.globalNamed "loop.example/g00377/impl.errTaken" = some 4:=by kernel_rfl
theorem t_errTaken:(Tryz.prog.globals[4]?).map (·.type)=some 102:=by kernel_rfl
theorem g_errShape : Tryz.prog.globalNamed "loop.example/g00377/impl.errShape" = some 5:=by kernel_rfl
theorem t_errShape:(Tryz.prog.globals[5]?).map (·.type)=some 102:=by kernel_rfl
theorem g_errFull : Tryz.prog.globalNamed "loop.example/g00377/impl.errFull" = some 0:=by kernel_rfl
theorem t_errFull:(Tryz.prog.globals[0]?).map (·.type)=some 102:=by kernel_rfl
theorem ieStar : "*" ++ "errors.errorString" = "*errors.errorString" := by decide
theorem ieRow (u:TypeId) (h:Tryz.prog.typeName? 3 u = some "*errors.errorString"):u=297 :=
  typeName_ptr_named (nm := "errors.errorString") (by rw [ieStar];kernel_rfl) (by kernel_rfl) (by decide) u (by rw [ieStar];exact h)
set_option maxRecDepth 100000 in
theorem tabsAt {W:World} (h:laidMetH Tryz.prog Rows.fnExactRenameVarRow.laid W):Tabs W∧ErrsAt W:=by
  rw [MakeChecks.laidMetH_plain _ _ _ (by kernel_rfl)] at h
  obtain ⟨ps,hv,hnd,hrows⟩:=h
  obtain ⟨h1,q,hq⟩:=strIs_of_vars (ss:=[[99,97,115,101],[111,102],[101,110,100]]) (rest := [("loop.example/g00377/impl.shapes", Rows.laid_loop_example_g00377_impl_shapes), ("loop.example/g00377/impl.errBad", Rows.laid_loop_example_g00377_impl_errBad), ("loop.example/g00377/impl.errNone", Rows.laid_loop_example_g00377_impl_errNone), ("loop.example/g00377/impl.errName", Rows.laid_loop_example_g00377_impl_errName), ("loop.example/g00377/impl.errTaken", Rows.laid_loop_example_g00377_impl_errTaken), ("loop.example/g00377/impl.errShape", Rows.laid_loop_example_g00377_impl_errShape), ("loop.example/g00377/impl.errFull", Rows.laid_loop_example_g00377_impl_errFull)]) gKeys tKeys Tryz.underlying243 Tryz.underlying9 (by kernel_rfl) (by kernel_rfl) hv
  have h2:=gridIs_of_vars (rs:=grid) (rest := [("loop.example/g00377/impl.errBad", Rows.laid_loop_example_g00377_impl_errBad), ("loop.example/g00377/impl.errNone", Rows.laid_loop_example_g00377_impl_errNone), ("loop.example/g00377/impl.errName", Rows.laid_loop_example_g00377_impl_errName), ("loop.example/g00377/impl.errTaken", Rows.laid_loop_example_g00377_impl_errTaken), ("loop.example/g00377/impl.errShape", Rows.laid_loop_example_g00377_impl_errShape), ("loop.example/g00377/impl.errFull", Rows.laid_loop_example_g00377_impl_errFull)]) gShapes tShapes Tryz.underlying290 Tryz.underlying289 Tryz.underlying3 (c:=5) (by kernel_rfl) (by kernel_rfl) (by kernel_rfl) hq
  refine ⟨?_,?errs⟩
  case errs =>
    obtain ⟨gK,tK,csK,fK,pK,qK,hgK,htK,hvK,hdK,⟨gS,tS,csS,fS,pS,qS,hgS,htS,hvS,hdS,⟨gB,tB,csB,fB,pB,qB,hgB,htB,hvB,hdB,⟨gN,tN,csN,fN,pN,qN,hgN,htN,hvN,hdN,⟨gM,tM,csM,fM,pM,qM,hgM,htM,hvM,hdM,⟨gT,tT,csT,fT,pT,qT,hgT,htT,hvT,hdT,⟨gH,tH,csH,fH,pH,qH,hgH,htH,hvH,hdH,⟨gF,tF,csF,fF,pF,qF,hgF,htF,hvF,hdF,_,eF⟩,eH⟩,eT⟩,eM⟩,eN⟩,eB⟩,eS⟩,eK⟩:=hv
    clear h1 h2 hq
    obtain rfl:=Option.some.inj (g_errBad.symm.trans hgB)
    obtain rfl:=Option.some.inj (t_errBad.symm.trans htB)
    obtain rfl:=Option.some.inj (g_errNone.symm.trans hgN)
    obtain rfl:=Option.some.inj (t_errNone.symm.trans htN)
    obtain rfl:=Option.some.inj (g_errName.symm.trans hgM)
    obtain rfl:=Option.some.inj (t_errName.symm.trans htM)
    obtain rfl:=Option.some.inj (g_errTaken.symm.trans hgT)
    obtain rfl:=Option.some.inj (t_errTaken.symm.trans htT)
    obtain rfl:=Option.some.inj (g_errShape.symm.trans hgH)
    obtain rfl:=Option.some.inj (t_errShape.symm.trans htH)
    obtain rfl:=Option.some.inj (g_errFull.symm.trans hgF)
    obtain rfl:=Option.some.inj (t_errFull.symm.trans htF)
    subst eF
    subst eH
    subst eT
    subst eM
    subst eN
    subst eB
    subst eS
    subst eK
    obtain ⟨lB⟩:=csB
    have okB:∀ u v,lB = [.iface u v]→Value.okWide Tryz.prog W .any 0 u v:=fun u v e=>by
      subst e
      exact (hrows 1 0 (by simp [MemPlace.row])).2 u v (by simpa using World.var?_cell hgB hvB 0)
    obtain ⟨aB,sB,rfl,hcB,hsB,hzB,rfl⟩:=errorString_of_trod Tryz.underlying102 ieRow Tryz.underlying297 Tryz.underlying324 rfl rfl Tryz.underlying9 (by kernel_rfl) (by kernel_rfl) hdB okB
    obtain ⟨cB,rB,hbB⟩:=(hrows aB.block aB.off (by simp [MemPlace.row])).1
    have iB:ErrIn W _ aB:=⟨by simpa using World.var?_cell hgB hvB 0,cB,rB,hbB⟩
    obtain ⟨lN⟩:=csN
    have okN:∀ u v,lN = [.iface u v]→Value.okWide Tryz.prog W .any 0 u v:=fun u v e=>by
      subst e
      exact (hrows 2 0 (by simp [MemPlace.row])).2 u v (by simpa using World.var?_cell hgN hvN 0)
    obtain ⟨aN,sN,rfl,hcN,hsN,hzN,rfl⟩:=errorString_of_trod Tryz.underlying102 ieRow Tryz.underlying297 Tryz.underlying324 rfl rfl Tryz.underlying9 (by kernel_rfl) (by kernel_rfl) hdN okN
    obtain ⟨cN,rN,hbN⟩:=(hrows aN.block aN.off (by simp [MemPlace.row])).1
    have iN:ErrIn W _ aN:=⟨by simpa using World.var?_cell hgN hvN 0,cN,rN,hbN⟩
    obtain ⟨lM⟩:=csM
    have okM:∀ u v,lM = [.iface u v]→Value.okWide Tryz.prog W .any 0 u v:=fun u v e=>by
      subst e
      exact (hrows 3 0 (by simp [MemPlace.row])).2 u v (by simpa using World.var?_cell hgM hvM 0)
    obtain ⟨aM,sM,rfl,hcM,hsM,hzM,rfl⟩:=errorString_of_trod Tryz.underlying102 ieRow Tryz.underlying297 Tryz.underlying324 rfl rfl Tryz.underlying9 (by kernel_rfl) (by kernel_rfl) hdM okM
    obtain ⟨cM,rM,hbM⟩:=(hrows aM.block aM.off (by simp [MemPlace.row])).1
    have iM:ErrIn W _ aM:=⟨by simpa using World.var?_cell hgM hvM 0,cM,rM,hbM⟩
    obtain ⟨lT⟩:=csT
    have okT:∀ u v,lT = [.iface u v]→Value.okWide Tryz.prog W .any 0 u v:=fun u v e=>by
      subst e
      exact (hrows 4 0 (by simp [MemPlace.row])).2 u v (by simpa using World.var?_cell hgT hvT 0)
    obtain ⟨aT,sT,rfl,hcT,hsT,hzT,rfl⟩:=errorString_of_trod Tryz.underlying102 ieRow Tryz.underlying297 Tryz.underlying324 rfl rfl Tryz.underlying9 (by kernel_rfl) (by kernel_rfl) hdT okT
    obtain ⟨cT,rT,hbT⟩:=(hrows aT.block aT.off (by simp [MemPlace.row])).1
    have iT:ErrIn W _ aT:=⟨by simpa using World.var?_cell hgT hvT 0,cT,rT,hbT⟩
    obtain ⟨lH⟩:=csH
    have okH:∀ u v,lH = [.iface u v]→Value.okWide Tryz.prog W .any 0 u v:=fun u v e=>by
      subst e
      exact (hrows 5 0 (by simp [MemPlace.row])).2 u v (by simpa using World.var?_cell hgH hvH 0)
    obtain ⟨aH,sH,rfl,hcH,hsH,hzH,rfl⟩:=errorString_of_trod Tryz.underlying102 ieRow Tryz.underlying297 Tryz.underlying324 rfl rfl Tryz.underlying9 (by kernel_rfl) (by kernel_rfl) hdH okH
    obtain ⟨cH,rH,hbH⟩:=(hrows aH.block aH.off (by simp [MemPlace.row])).1
    have iH:ErrIn W _ aH:=⟨by simpa using World.var?_cell hgH hvH 0,cH,rH,hbH⟩
    obtain ⟨lF⟩:=csF
    have okF:∀ u v,lF = [.iface u v]→Value.okWide Tryz.prog W .any 0 u v:=fun u v e=>by
      subst e
      exact (hrows 0 0 (by simp [MemPlace.row])).2 u v (by simpa using World.var?_cell hgF hvF 0)
    obtain ⟨aF,sF,rfl,hcF,hsF,hzF,rfl⟩:=errorString_of_trod Tryz.underlying102 ieRow Tryz.underlying297 Tryz.underlying324 rfl rfl Tryz.underlying9 (by kernel_rfl) (by kernel_rfl) hdF okF
    obtain ⟨cF,rF,hbF⟩:=(hrows aF.block aF.off (by simp [MemPlace.row])).1
    have iF:ErrIn W _ aF:=⟨by simpa using World.var?_cell hgF hvF 0,cF,rF,hbF⟩
    have hz:=(List.nodup_append.1 (List.nodup_append.1 hnd).2.1).2.1
    refine ⟨aF,iF,⟨aB,iB,?_⟩,⟨aN,iN,?_⟩,⟨aM,iM,?_⟩,⟨aT,iT,?_⟩,aH,iH,?_⟩
    all_goals
      rintro rfl
      simp [MemPlace.row] at hz
  refine ⟨⟨h1.cell gKeys 0 (by decide),h1.cell gKeys 1 (by decide),h1.cell gKeys 2 (by decide)⟩,fun k hk=>?_⟩
  match k,hk with
  | 0,_=>exact ⟨by simpa [txtK,kidLo,kidHi,clsLo,clsHi] using h2 0 _ 0 _ rfl rfl,by simpa [txtK,kidLo,kidHi,clsLo,clsHi] using h2 0 _ 1 _ rfl rfl,by simpa [txtK,kidLo,kidHi,clsLo,clsHi] using h2 0 _ 2 _ rfl rfl,by simpa [txtK,kidLo,kidHi,clsLo,clsHi] using h2 0 _ 3 _ rfl rfl,by simpa [txtK,kidLo,kidHi,clsLo,clsHi] using h2 0 _ 4 _ rfl rfl⟩
  | 1,_=>exact ⟨by simpa [txtK,kidLo,kidHi,clsLo,clsHi] using h2 1 _ 0 _ rfl rfl,by simpa [txtK,kidLo,kidHi,clsLo,clsHi] using h2 1 _ 1 _ rfl rfl,by simpa [txtK,kidLo,kidHi,clsLo,clsHi] using h2 1 _ 2 _ rfl rfl,by simpa [txtK,kidLo,kidHi,clsLo,clsHi] using h2 1 _ 3 _ rfl rfl,by simpa [txtK,kidLo,kidHi,clsLo,clsHi] using h2 1 _ 4 _ rfl rfl⟩
  | 2,_=>exact ⟨by simpa [txtK,kidLo,kidHi,clsLo,clsHi] using h2 2 _ 0 _ rfl rfl,by simpa [txtK,kidLo,kidHi,clsLo,clsHi] using h2 2 _ 1 _ rfl rfl,by simpa [txtK,kidLo,kidHi,clsLo,clsHi] using h2 2 _ 2 _ rfl rfl,by simpa [txtK,kidLo,kidHi,clsLo,clsHi] using h2 2 _ 3 _ rfl rfl,by simpa [txtK,kidLo,kidHi,clsLo,clsHi] using h2 2 _ 4 _ rfl rfl⟩
  | 3,_=>exact ⟨by simpa [txtK,kidLo,kidHi,clsLo,clsHi] using h2 3 _ 0 _ rfl rfl,by simpa [txtK,kidLo,kidHi,clsLo,clsHi] using h2 3 _ 1 _ rfl rfl,by simpa [txtK,kidLo,kidHi,clsLo,clsHi] using h2 3 _ 2 _ rfl rfl,by simpa [txtK,kidLo,kidHi,clsLo,clsHi] using h2 3 _ 3 _ rfl rfl,by simpa [txtK,kidLo,kidHi,clsLo,clsHi] using h2 3 _ 4 _ rfl rfl⟩
  | 4,_=>exact ⟨by simpa [txtK,kidLo,kidHi,clsLo,clsHi] using h2 4 _ 0 _ rfl rfl,by simpa [txtK,kidLo,kidHi,clsLo,clsHi] using h2 4 _ 1 _ rfl rfl,by simpa [txtK,kidLo,kidHi,clsLo,clsHi] using h2 4 _ 2 _ rfl rfl,by simpa [txtK,kidLo,kidHi,clsLo,clsHi] using h2 4 _ 3 _ rfl rfl,by simpa [txtK,kidLo,kidHi,clsLo,clsHi] using h2 4 _ 4 _ rfl rfl⟩
  | 5,_=>exact ⟨by simpa [txtK,kidLo,kidHi,clsLo,clsHi] using h2 5 _ 0 _ rfl rfl,by simpa [txtK,kidLo,kidHi,clsLo,clsHi] using h2 5 _ 1 _ rfl rfl,by simpa [txtK,kidLo,kidHi,clsLo,clsHi] using h2 5 _ 2 _ rfl rfl,by simpa [txtK,kidLo,kidHi,clsLo,clsHi] using h2 5 _ 3 _ rfl rfl,by simpa [txtK,kidLo,kidHi,clsLo,clsHi] using h2 5 _ 4 _ rfl rfl⟩
  | 6,_=>exact ⟨by simpa [txtK,kidLo,kidHi,clsLo,clsHi] using h2 6 _ 0 _ rfl rfl,by simpa [txtK,kidLo,kidHi,clsLo,clsHi] using h2 6 _ 1 _ rfl rfl,by simpa [txtK,kidLo,kidHi,clsLo,clsHi] using h2 6 _ 2 _ rfl rfl,by simpa [txtK,kidLo,kidHi,clsLo,clsHi] using h2 6 _ 3 _ rfl rfl,by simpa [txtK,kidLo,kidHi,clsLo,clsHi] using h2 6 _ 4 _ rfl rfl⟩
  | 7,_=>exact ⟨by simpa [txtK,kidLo,kidHi,clsLo,clsHi] using h2 7 _ 0 _ rfl rfl,by simpa [txtK,kidLo,kidHi,clsLo,clsHi] using h2 7 _ 1 _ rfl rfl,by simpa [txtK,kidLo,kidHi,clsLo,clsHi] using h2 7 _ 2 _ rfl rfl,by simpa [txtK,kidLo,kidHi,clsLo,clsHi] using h2 7 _ 3 _ rfl rfl,by simpa [txtK,kidLo,kidHi,clsLo,clsHi] using h2 7 _ 4 _ rfl rfl⟩
  | 8,_=>exact ⟨by simpa [txtK,kidLo,kidHi,clsLo,clsHi] using h2 8 _ 0 _ rfl rfl,by simpa [txtK,kidLo,kidHi,clsLo,clsHi] using h2 8 _ 1 _ rfl rfl,by simpa [txtK,kidLo,kidHi,clsLo,clsHi] using h2 8 _ 2 _ rfl rfl,by simpa [txtK,kidLo,kidHi,clsLo,clsHi] using h2 8 _ 3 _ rfl rfl,by simpa [txtK,kidLo,kidHi,clsLo,clsHi] using h2 8 _ 4 _ rfl rfl⟩
  | 9,_=>exact ⟨by simpa [txtK,kidLo,kidHi,clsLo,clsHi] using h2 9 _ 0 _ rfl rfl,by simpa [txtK,kidLo,kidHi,clsLo,clsHi] using h2 9 _ 1 _ rfl rfl,by simpa [txtK,kidLo,kidHi,clsLo,clsHi] using h2 9 _ 2 _ rfl rfl,by simpa [txtK,kidLo,kidHi,clsLo,clsHi] using h2 9 _ 3 _ rfl rfl,by simpa [txtK,kidLo,kidHi,clsLo,clsHi] using h2 9 _ 4 _ rfl rfl⟩
  | 10,_=>exact ⟨by simpa [txtK,kidLo,kidHi,clsLo,clsHi] using h2 10 _ 0 _ rfl rfl,by simpa [txtK,kidLo,kidHi,clsLo,clsHi] using h2 10 _ 1 _ rfl rfl,by simpa [txtK,kidLo,kidHi,clsLo,clsHi] using h2 10 _ 2 _ rfl rfl,by simpa [txtK,kidLo,kidHi,clsLo,clsHi] using h2 10 _ 3 _ rfl rfl,by simpa [txtK,kidLo,kidHi,clsLo,clsHi] using h2 10 _ 4 _ rfl rfl⟩
  | k+11,hk=>omega
set_option maxRecDepth 100000 in
theorem contract (H:Type) (enc:TypeId × Value→H) (W:World) (base:Nat) (args:Array Value) (ds gs:List (DataW H)) (before:List MemPlace)
    (hval:∀ (j:Nat) t v,Tryz.f3.params[j]?=some t→args[j]?=some v→Value.okWide Tryz.prog W .any base t v)
    (hW:DataW.Whole enc Tryz.prog Tryz.f3.params.toList Rows.fnExactRenameVarSpec.vars false W args.toList ds gs before) (hL:laidMetH Tryz.prog Rows.fnExactRenameVarRow.laid W) :
    Calls Tryz.prog 3 args W fun e W'=>∃ v,e=.returned v∧Rows.fnExactRenameVarSpec.post enc Tryz.prog Tryz.f3 false true false false W args v W':=by
  have hW':=hW
  obtain ⟨p,q,hA0,hV,hps,hfz,hnd⟩:=hW
  have hA:DataW.TrodAll enc Tryz.prog W 0 (fun _=>true) true Tryz.f3.params.toList args.toList ds p:=hA0
  rw [Tryz.params3] at hA hval
  clear hA0
  obtain ⟨v0,vs0,d0,ds0,p0,q0,hargs,rfl,hp,h0,r0⟩:=trodAll_cons hA
  obtain ⟨v1,vs1,d1,ds1,p1,q1,rfl,rfl,rfl,h1,r1⟩:=trodAll_cons r0
  obtain ⟨v2,vs2,d2,ds2,p2,q2,rfl,rfl,rfl,h2,r2⟩:=trodAll_cons r1
  obtain ⟨v3,vs3,d3,ds3,p3,q3,rfl,rfl,rfl,h3,r3⟩:=trodAll_cons r2
  obtain ⟨rfl,rfl,rfl⟩:=trodAll_nil r3
  obtain rfl:args=#[v0,v1,v2,v3]:=by cases args;simp_all
  obtain ⟨a0,l0,c0,rfl⟩:=okWide_slice Tryz.underlying22 (hval 0 22 v0 rfl rfl)
  obtain ⟨e0,m0,g0⟩:=open_mds mdTypes Tryz.underlying22 rfl h0
  obtain ⟨m1,rfl,k10,k11,k12,k13⟩:=open_pl (by exact ⟨_,Tryz.underlying24,by kernel_rfl⟩) Tryz.underlying9 Tryz.underlying3 (by kernel_rfl) (by kernel_rfl) (by kernel_rfl) h1
  obtain ⟨a2,rfl,rfl,-,w2⟩:=open_string Tryz.underlying9 (hval 2 9 v2 rfl rfl) h2
  obtain ⟨a3,rfl,rfl,-,w3⟩:=open_string Tryz.underlying9 (hval 3 9 v3 rfl rfl) h3
  refine (fnExactRenameVar_walk W e0 _ m0 m1 a2 a3 g0 k10 k11 w2 w3 (tabsAt hL)).mono fun e W' ⟨he,hb⟩=>?_
  subst he
  have hlen:=trodVars_length hV
  match gs,hlen with
  | [g0,g1,g2,g3,g4,g5,g6,g7],_=>exact ⟨_,rfl,post_true laidOut (by kernel_rfl) (by kernel_rfl) Tryz.underlying4 (by kernel_rfl) hW' rfl hb⟩
set_option maxRecDepth 100000 in
theorem laid_met (os:Os):laidMetH Tryz.prog Rows.fnExactRenameVarRow.laid ((World.doorLaid Tryz.prog 1000 os).forCall (fun _ _=>0) ⟨#[],#[.slice none 0 0,.agg #[.string ByteArray.empty,.string ByteArray.empty,.int .i64 0,.int .i64 0],.string ByteArray.empty,.string ByteArray.empty],[]⟩).memory :=
  laidMetH_of_parts3 (fuel:=8) (laidMet_of_run' 8 (by kernel_rfl) (by kernel_rfl)) (by kernel_rfl) (by kernel_rfl)
set_option maxRecDepth 100000 in
theorem lifted (os:Os) (started:os.Started) (H:Type) (enc:TypeId × Value→H) (F:Stop.Interp) :
    ReturnsInHanded {} Tryz.checked os 3 .any ((OpenSpec.ofChange Rows.fnExactRenameVarSpec).preRow enc Tryz.prog Tryz.f3 Rows.fnExactRenameVarRow.domain false Rows.fnExactRenameVarRow.laid) (((OpenSpec.ofChange Rows.fnExactRenameVarSpec).at F).post enc Tryz.prog Tryz.f3 false true false false):=by
  refine returnsInHanded_of_row (C:=Tryz.checked) (s:=OpenSpec.ofChange Rows.fnExactRenameVarSpec) own started (by kernel_rfl) Tryz.func3
    (witness_row_shaped (enc:=enc) (C:=Tryz.checked) (World.doorLaid Tryz.prog 1000 os) #[.slice none 0 0,.agg #[.string ByteArray.empty,.string ByteArray.empty,.int .i64 0,.int .i64 0],.string ByteArray.empty,.string ByteArray.empty] rfl (World.shaped_of_RefB (by kernel_rfl) (by kernel_rfl)) (by kernel_rfl)
      (preRow_of_bool 8 (fun _ _=>true) (fun k' hk'=>by cases hk') (by kernel_rfl) (by kernel_rfl) (laid_met os))) ?_
  intro W base args ds gs before hval hW _ _ _ hL hsh _
  exact contract H enc W base args ds gs before hval hW hL
theorem said:Rows.FnExactRenameVarSaid :=
  OpenClaim.holds_of_cond 3 Tryz.f3 rfl rfl rfl rfl rfl rfl rfl ⟨rfl,rfl,rfl,rfl,rfl⟩ rfl rfl rfl rfl rfl (by kernel_rfl) Tryz.func3 (by kernel_rfl)
    (of_decide_eq_true (by kernel_rfl)) (by unfold Func.isWrapper;first | (rw [if_pos (by decide +kernel)];kernel_rfl) | (rw [if_neg (by decide +kernel)];exact ⟨rfl,rfl⟩))
    (fun os started H enc _ F=>by rw [OpenClaim.pre_eq_preRow];exact lifted os started H enc F)
theorem plain (f:FuncId) (fn:Func) (hf : Tryz.pinned.checked.prog.funcNamed "loop.example/g00377/laws.FnExactRenameVar" = some f) (hfn:Tryz.pinned.checked.prog.funcs[f]?=some fn) :
    true=Tryz.pinned.checked.prog.looks []∧∀ (j:Nat) t,fn.params[j]?=some t→Tryz.pinned.checked.prog.wantsStandIn t=false:=by
  obtain rfl:f=3:=Option.some.inj ((show Tryz.prog.funcNamed "loop.example/g00377/laws.FnExactRenameVar" = some 3 by kernel_rfl).symm.trans hf) |>.symm
  obtain rfl:fn=Tryz.f3:=(Option.some.inj (Tryz.func3.symm.trans hfn)).symm
  refine ⟨by kernel_rfl,fun j t ht=>?_⟩
  rw [Tryz.params3] at ht
  have hm:t ∈ [22,24,9,9]:=by simpa using Array.mem_of_getElem? ht
  have hall:([22,24,9,9].all fun u=>!Tryz.prog.wantsStandIn u)=true:=by kernel_rfl
  exact (show Tryz.prog.wantsStandIn t=false by simpa using List.all_eq_true.1 hall t hm)
end fnExactRenameVar
theorem fnExactRenameVar_holds:Rows.FnExactRenameVarCardSaid :=
  Claim7.holds_tied_plain_at .later [] _ _ _ _ fnExactRenameVar.said (fun _ h=>by cases h) (by kernel_rfl) (fun _ h=>by cases h) fnExactRenameVar_row_tie rfl ⟨rfl,rfl⟩ (by kernel_rfl) rfl fnExactRenameVar.plain (by kernel_rfl)
#print axioms fnExactRenameVar_holds
end Go.Proofs.YtbdhpganbbandaaGreatDoor
