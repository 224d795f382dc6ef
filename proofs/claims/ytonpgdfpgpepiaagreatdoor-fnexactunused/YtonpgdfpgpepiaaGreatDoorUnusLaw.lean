/-
  FnExactUnused is proved: at every row of modules Unused of the program answers as the specification's, name by name; its answer lies in memory of its own, behind another call too; its argument is left as it was. Conditions (the card ties them to the program's and the library's text): the variable of the three words, the table of what a kind has and the library's tables that strconv.Itoa reads hold what their initialisers lay.
-/
import Derived.Test.YtonpgdfpgpepiaaGreatDoorP50
import Derived.Test.YtonpgdfpgpepiaaGreatDoorP21
import Derived.Test.YtonpgdfpgpepiaaGreatDoorCards
import Derived.Test.YtonpgdfpgpepiaaGreatDoorTie
import Derived.ShutString
namespace Go.Proofs.YtonpgdfpgpepiaaGreatDoor
namespace fnExactUnused
open Go.ChangeShapes Go.WideShapes Go.ChangeAt Go.RowKit Go.Proofs.Tryz
open Go.ChangeMaps (open_string shut_string)
set_option linter.unusedVariables false
theorem own:ownKnob prog.godebug=none:=by kernel_rfl
theorem laidOut:laidOutB prog=true:=by kernel_rfl
theorem mdTypes:MdTypes prog 232 179 181 92 3 9 90 34 94 35 37 where
 e:=⟨_,underlying232,by kernel_rfl⟩
 c:=⟨_,underlying181,by kernel_rfl⟩
 es:=underlying179
 cs:=underlying92
 i:=underlying3
 s:=underlying9
 ce:=by kernel_rfl
 cc:=by kernel_rfl
 ci:=by kernel_rfl
 cS:=by kernel_rfl
 ces:=by kernel_rfl
 ccs:=by kernel_rfl
 r:=⟨_,underlying90,by kernel_rfl⟩
 f:=⟨_,underlying94,by kernel_rfl⟩
 m:=⟨_,underlying37,by kernel_rfl⟩
 rs:=underlying34
 fs:=underlying35
 cr:=by kernel_rfl
 cf:=by kernel_rfl
 cm:=by kernel_rfl
 crs:=by kernel_rfl
 cfs:=by kernel_rfl
theorem gPow : prog.globalNamed "internal/strconv.uint64pow10" = some 2:=by kernel_rfl
theorem tPow:(prog.globals[2]?).map (·.type)=some 252:=by kernel_rfl
theorem gKeys : prog.globalNamed "loop.example/g00377/impl.keywords" = some 0:=by kernel_rfl
theorem tKeys:(prog.globals[0]?).map (·.type)=some 215:=by kernel_rfl
theorem gShapes : prog.globalNamed "loop.example/g00377/impl.shapes" = some 3:=by kernel_rfl
theorem tShapes:(prog.globals[3]?).map (·.type)=some 261:=by kernel_rfl
def grid:List (List Int):=[[0,0,0,0,0],[1,0,0,0,0],[2,0,0,0,0],[0,0,0,0,0],[0,1,20,0,0],[0,0,0,0,0],[0,2,2,0,0],[3,2,2,0,0],[1,0,6,0,0],[0,2,2,0,0],[0,1,1,1,20]]
theorem laidAt {W:World} (h:laidMetH prog Rows.fnExactUnusedRow.laid W):PowAt W/\∃ q,DataW.LaidVars prog W [("loop.example/g00377/impl.keywords", strTab [[99,97,115,101],[111,102],[101,110,100]]), ("loop.example/g00377/impl.shapes", gridTab grid)] q:=by
 rw [MakeChecks.laidMetH_plain _ _ _ (by kernel_rfl)] at h;obtain ⟨ps,⟨_,_,_,_,_,_,_,_,_,_,⟨_,_,_,_,_,_,_,_,_,_,hv,_⟩,_⟩,_⟩:=h
 exact tabIs_of_vars (zs:=Lib.pow10Tab) (rest := [("loop.example/g00377/impl.keywords", strTab [[99,97,115,101],[111,102],[101,110,100]]), ("loop.example/g00377/impl.shapes", gridTab grid)]) gPow tPow underlying252 underlying133 (by kernel_rfl) (by kernel_rfl) hv
theorem pow10At {W:World} (h:laidMetH prog Rows.fnExactUnusedRow.laid W):PowAt W:=(laidAt h).1
theorem tabsAt {W:World} (h:laidMetH prog Rows.fnExactUnusedRow.laid W):Tabs W:=by
 obtain ⟨ps,hv⟩:=(laidAt h).2
 obtain ⟨h1,q,hq⟩:=strIs_of_vars (ss:=[[99,97,115,101],[111,102],[101,110,100]]) (rest := [("loop.example/g00377/impl.shapes", gridTab grid)]) gKeys tKeys underlying215 underlying9 (by kernel_rfl) (by kernel_rfl) hv
 have h2:=gridIs_of_vars (rs:=grid) (rest:=[]) gShapes tShapes underlying261 underlying260 underlying3 (c:=5) (by kernel_rfl) (by kernel_rfl) (by kernel_rfl) hq;refine ⟨⟨h1.cell gKeys 0 (by decide),h1.cell gKeys 1 (by decide),h1.cell gKeys 2 (by decide)⟩,λk hk=>?_⟩
 match k,hk with
 | 0,_=>exact ⟨by simpa [txtK,kidLo,kidHi,clsLo,clsHi] using h2 0 _ 0 _ rfl rfl,by simpa [txtK,kidLo,kidHi,clsLo,clsHi] using h2 0 _ 1 _ rfl rfl,by simpa [txtK,kidLo,kidHi,clsLo,clsHi] using h2 0 _ 2 _ rfl rfl,by simpa [txtK,kidLo,kidHi,clsLo,clsHi] using h2 0 _ 3 _ rfl rfl,by simpa [txtK,kidLo,kidHi,clsLo,clsHi] using h2 0 _ 4 _ rfl rfl⟩
 | 1,_=>exact ⟨by simpa [txtK,kidLo,kidHi,clsLo,clsHi] using h2 1 _ 0 _ rfl rfl,by simpa [txtK,kidLo,kidHi,clsLo,clsHi] using h2 1 _ 1 _ rfl rfl,by simpa [txtK,kidLo,kidHi,clsLo,clsHi] using h2 1 _ 2 _ rfl rfl,by simpa [txtK,kidLo,kidHi,clsLo,clsHi] using h2 1 _ 3 _ rfl rfl,by simpa [txtK,kidLo,kidHi,clsLo,clsHi] using h2 1 _ 4 _ rfl rfl⟩
 | 2,_=>exact ⟨by simpa [txtK,kidLo,kidHi,clsLo,clsHi] using h2 2 _ 0 _ rfl rfl,by simpa [txtK,kidLo,kidHi,clsLo,clsHi] using h2 2 _ 1 _ rfl rfl,by simpa [txtK,kidLo,kidHi,clsLo,clsHi] using h2 2 _ 2 _ rfl rfl,by simpa [txtK,kidLo,kidHi,clsLo,clsHi] using h2 2 _ 3 _ rfl rfl,by simpa [txtK,kidLo,kidHi,clsLo,clsHi] using h2 2 _ 4 _ rfl rfl⟩
 | 3,_=>exact ⟨by simpa [txtK,kidLo,kidHi,clsLo,clsHi] using h2 3 _ 0 _ rfl rfl,by simpa [txtK,kidLo,kidHi,clsLo,clsHi] using h2 3 _ 1 _ rfl rfl,by simpa [txtK,kidLo,kidHi,clsLo,clsHi] using h2 3 _ 2 _ rfl rfl,by simpa [txtK,kidLo,kidHi,clsLo,clsHi] using h2 3 _ 3 _ rfl rfl,by simpa [txtK,kidLo,kidHi,clsLo,clsHi] using h2 3 _ 4 _ rfl rfl⟩
 | 4,_=>exact ⟨by simpa [txtK,kidLo,kidHi,clsLo,clsHi] using h2 4 _ 0 _ rfl rfl,by simpa [txtK,kidLo,kidHi,clsLo,clsHi] using h2 4 _ 1 _ rfl rfl,by simpa [txtK,kidLo,kidHi,clsLo,clsHi] using h2 4 _ 2 _ rfl rfl,by simpa [txtK,kidLo,kidHi,clsLo,clsHi] using h2 4 _ 3 _ rfl rfl,by simpa [txtK,kidLo,kidHi,clsLo,clsHi] using h2 4 _ 4 _ rfl rfl⟩
 | 5,_=>exact ⟨by simpa [txtK,kidLo,kidHi,clsLo,clsHi] using h2 5 _ 0 _ rfl rfl,by simpa [txtK,kidLo,kidHi,clsLo,clsHi] using h2 5 _ 1 _ rfl rfl,by simpa [txtK,kidLo,kidHi,clsLo,clsHi] using h2 5 _ 2 _ rfl rfl,by simpa [txtK,kidLo,kidHi,clsLo,clsHi] using h2 5 _ 3 _ rfl rfl,by simpa [txtK,kidLo,kidHi,clsLo,clsHi] using h2 5 _ 4 _ rfl rfl⟩
 | 6,_=>exact ⟨by simpa [txtK,kidLo,kidHi,clsLo,clsHi] using h2 6 _ 0 _ rfl rfl,by simpa [txtK,kidLo,kidHi,clsLo,clsHi] using h2 6 _ 1 _ rfl rfl,by simpa [txtK,kidLo,kidHi,clsLo,clsHi] using h2 6 _ 2 _ rfl rfl,by simpa [txtK,kidLo,kidHi,clsLo,clsHi] using h2 6 _ 3 _ rfl rfl,by simpa [txtK,kidLo,kidHi,clsLo,clsHi] using h2 6 _ 4 _ rfl rfl⟩
 | 7,_=>exact ⟨by simpa [txtK,kidLo,kidHi,clsLo,clsHi] using h2 7 _ 0 _ rfl rfl,by simpa [txtK,kidLo,kidHi,clsLo,clsHi] using h2 7 _ 1 _ rfl rfl,by simpa [txtK,kidLo,kidHi,clsLo,clsHi] using h2 7 _ 2 _ rfl rfl,by simpa [txtK,kidLo,kidHi,clsLo,clsHi] using h2 7 _ 3 _ rfl rfl,by simpa [txtK,kidLo,kidHi,clsLo,clsHi] using h2 7 _ 4 _ rfl rfl⟩
 | 8,_=>exact ⟨by simpa [txtK,kidLo,kidHi,clsLo,clsHi] using h2 8 _ 0 _ rfl rfl,by simpa [txtK,kidLo,kidHi,clsLo,clsHi] using h2 8 _ 1 _ rfl rfl,by simpa [txtK,kidLo,kidHi,clsLo,clsHi] using h2 8 _ 2 _ rfl rfl,by simpa [txtK,kidLo,kidHi,clsLo,clsHi] using h2 8 _ 3 _ rfl rfl,by simpa [txtK,kidLo,kidHi,clsLo,clsHi] using h2 8 _ 4 _ rfl rfl⟩
 | 9,_=>exact ⟨by simpa [txtK,kidLo,kidHi,clsLo,clsHi] using h2 9 _ 0 _ rfl rfl,by simpa [txtK,kidLo,kidHi,clsLo,clsHi] using h2 9 _ 1 _ rfl rfl,by simpa [txtK,kidLo,kidHi,clsLo,clsHi] using h2 9 _ 2 _ rfl rfl,by simpa [txtK,kidLo,kidHi,clsLo,clsHi] using h2 9 _ 3 _ rfl rfl,by simpa [txtK,kidLo,kidHi,clsLo,clsHi] using h2 9 _ 4 _ rfl rfl⟩
 | 10,_=>exact ⟨by simpa [txtK,kidLo,kidHi,clsLo,clsHi] using h2 10 _ 0 _ rfl rfl,by simpa [txtK,kidLo,kidHi,clsLo,clsHi] using h2 10 _ 1 _ rfl rfl,by simpa [txtK,kidLo,kidHi,clsLo,clsHi] using h2 10 _ 2 _ rfl rfl,by simpa [txtK,kidLo,kidHi,clsLo,clsHi] using h2 10 _ 3 _ rfl rfl,by simpa [txtK,kidLo,kidHi,clsLo,clsHi] using h2 10 _ 4 _ rfl rfl⟩
 | k+11,hk=>omega
set_option maxRecDepth 100000 in
theorem contract (H:Type) (enc:TypeId × Value->H) (W:World) (base:Nat) (args:Array Value) (ds gs:List (DataW H)) (before:List MemPlace)
 (hval:∀ (j:Nat) t v,Tryz.f3.params[j]?=some t->args[j]?=some v->Value.okWide prog W .any base t v)
 (hW:DataW.Whole enc prog Tryz.f3.params.toList Rows.fnExactUnusedSpec.vars false W args.toList ds gs before) (hL:laidMetH prog Rows.fnExactUnusedRow.laid W) :
 Calls prog 3 args W λe W'=>∃ v,e=.returned v/\Rows.fnExactUnusedSpec.post enc prog Tryz.f3 false true false false W args v W':=by
 have hW':=hW;obtain ⟨p,q,hA0,hV,hps,hfz,hnd⟩:=hW;have hA:DataW.TrodAll enc prog W 0 (λ_=>true) true Tryz.f3.params.toList args.toList ds p:=hA0;rw [Tryz.params3] at hA hval;clear hA0;obtain ⟨v0,vs0,d0,ds0,p0,q0,hargs,rfl,hp,h0,r0⟩:=trodAll_cons hA;obtain ⟨rfl,rfl,rfl⟩:=trodAll_nil r0;obtain rfl:args=#[v0]:=(by cases args;simp_all);obtain ⟨a0,l0,c0,rfl⟩:=okWide_slice underlying22 (hval 0 22 v0 rfl rfl);obtain ⟨e0,m0,g0⟩:=open_mds mdTypes underlying22 rfl h0;refine (fnExactUnused_walk W e0 _ m0 g0 (tabsAt hL) (pow10At hL)).mono λe W' ⟨he,hb⟩=>?_;subst he;have hlen:=trodVars_length hV
 match gs,hlen with
 | [g0,g1],_=>exact ⟨_,rfl,post_true laidOut (by kernel_rfl) (by kernel_rfl) underlying4 (by kernel_rfl) hW' rfl hb⟩
set_option maxRecDepth 100000 in
theorem laid_met (os:Os):laidMetH prog Rows.fnExactUnusedRow.laid ((World.doorLaid prog 100 os).forCall (λ_ _=>0) ⟨#[],#[.slice none 0 0],[]⟩).memory :=
 laidMetH_of_parts3 (fuel:=8) (laidMet_of_run' 8 (by kernel_rfl) (by kernel_rfl)) (by kernel_rfl) (by kernel_rfl)
set_option maxRecDepth 100000 in
theorem lifted (os:Os) (started:os.Started) (H:Type) (enc:TypeId × Value->H) (F:Stop.Interp) :
 ReturnsInHanded {} Tryz.checked os 3 .any ((OpenSpec.ofChange Rows.fnExactUnusedSpec).preRow enc prog Tryz.f3 Rows.fnExactUnusedRow.domain false Rows.fnExactUnusedRow.laid) (((OpenSpec.ofChange Rows.fnExactUnusedSpec).at F).post enc prog Tryz.f3 false true false false):=by
 refine returnsInHanded_of_row (C:=Tryz.checked) (s:=OpenSpec.ofChange Rows.fnExactUnusedSpec) own started (by kernel_rfl) func3
  (witness_row_shaped (enc:=enc) (C:=Tryz.checked) (World.doorLaid prog 100 os) #[.slice none 0 0] rfl (World.shaped_of_RefB (by kernel_rfl) (by kernel_rfl)) (by kernel_rfl)
   (preRow_of_bool 8 (λ_ _=>true) (λk' hk'=>by cases hk') (by kernel_rfl) (by kernel_rfl) (laid_met os))) ?_
 intro W base args ds gs before hval hW _ _ _ hL hsh _;exact contract H enc W base args ds gs before hval hW hL
theorem said:Rows.FnExactUnusedSaid :=
 OpenClaim.holds_of_cond 3 Tryz.f3 rfl rfl rfl rfl rfl rfl rfl ⟨rfl,rfl,rfl,rfl,rfl⟩ rfl rfl rfl rfl rfl (by kernel_rfl) func3 (by kernel_rfl)
  (of_decide_eq_true (by kernel_rfl)) (by unfold Func.isWrapper;first | (rw [if_pos (by decide +kernel)];kernel_rfl) | (rw [if_neg (by decide +kernel)];exact ⟨rfl,rfl⟩))
  (λos started H enc _ F=>by rw [OpenClaim.pre_eq_preRow];exact lifted os started H enc F)
theorem plain (f:FuncId) (fn:Func) (hf : Tryz.pinned.checked.prog.funcNamed "loop.example/g00377/laws.FnExactUnused" = some f) (hfn:Tryz.pinned.checked.prog.funcs[f]?=some fn) :
 true=Tryz.pinned.checked.prog.looks []/\∀ (j:Nat) t,fn.params[j]?=some t->Tryz.pinned.checked.prog.wantsStandIn t=false:=by
 obtain rfl:f=3:=Option.some.inj ((show prog.funcNamed "loop.example/g00377/laws.FnExactUnused" = some 3 by kernel_rfl).symm.trans hf) |>.symm
 obtain rfl:fn=Tryz.f3:=(Option.some.inj (func3.symm.trans hfn)).symm;refine ⟨by kernel_rfl,λj t ht=>?_⟩;rw [Tryz.params3] at ht;have hm:t ∈ [22]:=(by simpa using Array.mem_of_getElem? ht);have hall:([22].all λu=>!prog.wantsStandIn u)=true:=(by kernel_rfl);exact (show prog.wantsStandIn t=false by simpa using List.all_eq_true.1 hall t hm)
end fnExactUnused
theorem fnExactUnused_holds:Rows.FnExactUnusedCardSaid :=
 Claim7.holds_tied_plain_at .later [] _ _ _ _ fnExactUnused.said (λ_ h=>by cases h) (by kernel_rfl) (λ_ h=>by cases h) fnExactUnused_row_tie rfl ⟨rfl,rfl⟩ (by kernel_rfl) rfl fnExactUnused.plain (by kernel_rfl)
#print axioms fnExactUnused_holds
end Go.Proofs.YtonpgdfpgpepiaaGreatDoor
