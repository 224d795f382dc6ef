/-
  FnExactParse is proved: at every text Parse of the program answers as the specification's, a module and a line, field by field; its answer lies in memory of its own, behind another call too; its argument is left as it was. Condition (the card ties it to the program's text): the program's tables of words, signs and lengths and of what a kind has hold what their initialisers lay.
-/
import Derived.Test.YtacioihbhkcdcaaGreatDoorP43
import Derived.Test.YtacioihbhkcdcaaGreatDoorP11
import Derived.Test.YtacioihbhkcdcaaGreatDoorCards
import Derived.Test.YtacioihbhkcdcaaGreatDoorTie
import Derived.ShutString
namespace Go.Proofs.YtacioihbhkcdcaaGreatDoor
namespace fnExactParse
open Go.ChangeShapes Go.WideShapes Go.ChangeAt Go.RowKit Go.Proofs.Tryz
open Go.ChangeMaps (open_string shut_string)
set_option linter.unusedVariables false
theorem own:ownKnob prog.godebug=none:=by kernel_rfl
theorem laidOut:laidOutB prog=true:=by kernel_rfl
theorem ZiG : prog.globalNamed "loop.example/g00377/impl.keywords" = some 1:=by kernel_rfl
theorem ZkC:(prog.globals[1]?).map (·.type)=some 136:=by kernel_rfl
theorem ZjI : prog.globalNamed "loop.example/g00377/impl.signs" = some 2:=by kernel_rfl
theorem Zkz:(prog.globals[2]?).map (·.type)=some 151:=by kernel_rfl
theorem Zkp : prog.globalNamed "loop.example/g00377/impl.signLengths" = some 0:=by kernel_rfl
theorem ZkD:(prog.globals[0]?).map (·.type)=some 132:=by kernel_rfl
theorem Zkq : prog.globalNamed "loop.example/g00377/impl.shapes" = some 4:=by kernel_rfl
theorem Zkr:(prog.globals[4]?).map (·.type)=some 166:=by kernel_rfl
def grid:List (List Int):=[[0,0,0,0,0],[1,0,0,0,0],[2,0,0,0,0],[0,0,0,0,0],[0,1,20,0,0],[0,0,0,0,0],[0,2,2,0,0],[3,2,2,0,0],[1,0,6,0,0],[0,2,2,0,0],[0,1,1,1,20]]
theorem ZiH {W:World} (h:laidMetH prog Rows.fnExactParseRow.laid W):ZaE W/\Zbz W/\Tabs W:=by
 rw [MakeChecks.laidMetH_plain _ _ _ (by kernel_rfl)] at h;obtain ⟨ps,hv,_⟩:=h;obtain ⟨h1,q1,hv1⟩:=ZcS (ss:=keysL) ZiG ZkC underlying136 underlying9 (by kernel_rfl) (by kernel_rfl) hv;obtain ⟨h2,q2,hv2⟩:=ZcS (ss:=signsL) ZjI Zkz underlying151 underlying9 (by kernel_rfl) (by kernel_rfl) hv1
 obtain ⟨h3,q3,hv3⟩:=Zfc (zs:=[2,1]) (rest := [("loop.example/g00377/impl.shapes", Rows.laid_loop_example_g00377_impl_shapes)]) Zkp ZkD underlying132 underlying3 (by kernel_rfl) (by kernel_rfl) hv2
 have h4:=Zef (rs:=grid) (rest:=[]) Zkq Zkr underlying166 underlying165 underlying3 (c:=5) (by kernel_rfl) (by kernel_rfl) (by kernel_rfl) hv3;refine ⟨⟨λk hk=>h1.cell ZiG k hk,λk hk=>h2.cell ZjI k hk⟩,⟨h3.cell Zkp 0 (by decide),h3.cell Zkp 1 (by decide)⟩,⟨h1.cell ZiG 0 (by decide),h1.cell ZiG 1 (by decide),h1.cell ZiG 2 (by decide)⟩,λk hk=>?_⟩
 match k,hk with
 | 0,_=>exact ⟨by simpa [txtK,ZG,ZH,ZJ,ZI] using h4 0 _ 0 _ rfl rfl,by simpa [txtK,ZG,ZH,ZJ,ZI] using h4 0 _ 1 _ rfl rfl,by simpa [txtK,ZG,ZH,ZJ,ZI] using h4 0 _ 2 _ rfl rfl,by simpa [txtK,ZG,ZH,ZJ,ZI] using h4 0 _ 3 _ rfl rfl,by simpa [txtK,ZG,ZH,ZJ,ZI] using h4 0 _ 4 _ rfl rfl⟩
 | 1,_=>exact ⟨by simpa [txtK,ZG,ZH,ZJ,ZI] using h4 1 _ 0 _ rfl rfl,by simpa [txtK,ZG,ZH,ZJ,ZI] using h4 1 _ 1 _ rfl rfl,by simpa [txtK,ZG,ZH,ZJ,ZI] using h4 1 _ 2 _ rfl rfl,by simpa [txtK,ZG,ZH,ZJ,ZI] using h4 1 _ 3 _ rfl rfl,by simpa [txtK,ZG,ZH,ZJ,ZI] using h4 1 _ 4 _ rfl rfl⟩
 | 2,_=>exact ⟨by simpa [txtK,ZG,ZH,ZJ,ZI] using h4 2 _ 0 _ rfl rfl,by simpa [txtK,ZG,ZH,ZJ,ZI] using h4 2 _ 1 _ rfl rfl,by simpa [txtK,ZG,ZH,ZJ,ZI] using h4 2 _ 2 _ rfl rfl,by simpa [txtK,ZG,ZH,ZJ,ZI] using h4 2 _ 3 _ rfl rfl,by simpa [txtK,ZG,ZH,ZJ,ZI] using h4 2 _ 4 _ rfl rfl⟩
 | 3,_=>exact ⟨by simpa [txtK,ZG,ZH,ZJ,ZI] using h4 3 _ 0 _ rfl rfl,by simpa [txtK,ZG,ZH,ZJ,ZI] using h4 3 _ 1 _ rfl rfl,by simpa [txtK,ZG,ZH,ZJ,ZI] using h4 3 _ 2 _ rfl rfl,by simpa [txtK,ZG,ZH,ZJ,ZI] using h4 3 _ 3 _ rfl rfl,by simpa [txtK,ZG,ZH,ZJ,ZI] using h4 3 _ 4 _ rfl rfl⟩
 | 4,_=>exact ⟨by simpa [txtK,ZG,ZH,ZJ,ZI] using h4 4 _ 0 _ rfl rfl,by simpa [txtK,ZG,ZH,ZJ,ZI] using h4 4 _ 1 _ rfl rfl,by simpa [txtK,ZG,ZH,ZJ,ZI] using h4 4 _ 2 _ rfl rfl,by simpa [txtK,ZG,ZH,ZJ,ZI] using h4 4 _ 3 _ rfl rfl,by simpa [txtK,ZG,ZH,ZJ,ZI] using h4 4 _ 4 _ rfl rfl⟩
 | 5,_=>exact ⟨by simpa [txtK,ZG,ZH,ZJ,ZI] using h4 5 _ 0 _ rfl rfl,by simpa [txtK,ZG,ZH,ZJ,ZI] using h4 5 _ 1 _ rfl rfl,by simpa [txtK,ZG,ZH,ZJ,ZI] using h4 5 _ 2 _ rfl rfl,by simpa [txtK,ZG,ZH,ZJ,ZI] using h4 5 _ 3 _ rfl rfl,by simpa [txtK,ZG,ZH,ZJ,ZI] using h4 5 _ 4 _ rfl rfl⟩
 | 6,_=>exact ⟨by simpa [txtK,ZG,ZH,ZJ,ZI] using h4 6 _ 0 _ rfl rfl,by simpa [txtK,ZG,ZH,ZJ,ZI] using h4 6 _ 1 _ rfl rfl,by simpa [txtK,ZG,ZH,ZJ,ZI] using h4 6 _ 2 _ rfl rfl,by simpa [txtK,ZG,ZH,ZJ,ZI] using h4 6 _ 3 _ rfl rfl,by simpa [txtK,ZG,ZH,ZJ,ZI] using h4 6 _ 4 _ rfl rfl⟩
 | 7,_=>exact ⟨by simpa [txtK,ZG,ZH,ZJ,ZI] using h4 7 _ 0 _ rfl rfl,by simpa [txtK,ZG,ZH,ZJ,ZI] using h4 7 _ 1 _ rfl rfl,by simpa [txtK,ZG,ZH,ZJ,ZI] using h4 7 _ 2 _ rfl rfl,by simpa [txtK,ZG,ZH,ZJ,ZI] using h4 7 _ 3 _ rfl rfl,by simpa [txtK,ZG,ZH,ZJ,ZI] using h4 7 _ 4 _ rfl rfl⟩
 | 8,_=>exact ⟨by simpa [txtK,ZG,ZH,ZJ,ZI] using h4 8 _ 0 _ rfl rfl,by simpa [txtK,ZG,ZH,ZJ,ZI] using h4 8 _ 1 _ rfl rfl,by simpa [txtK,ZG,ZH,ZJ,ZI] using h4 8 _ 2 _ rfl rfl,by simpa [txtK,ZG,ZH,ZJ,ZI] using h4 8 _ 3 _ rfl rfl,by simpa [txtK,ZG,ZH,ZJ,ZI] using h4 8 _ 4 _ rfl rfl⟩
 | 9,_=>exact ⟨by simpa [txtK,ZG,ZH,ZJ,ZI] using h4 9 _ 0 _ rfl rfl,by simpa [txtK,ZG,ZH,ZJ,ZI] using h4 9 _ 1 _ rfl rfl,by simpa [txtK,ZG,ZH,ZJ,ZI] using h4 9 _ 2 _ rfl rfl,by simpa [txtK,ZG,ZH,ZJ,ZI] using h4 9 _ 3 _ rfl rfl,by simpa [txtK,ZG,ZH,ZJ,ZI] using h4 9 _ 4 _ rfl rfl⟩
 | 10,_=>exact ⟨by simpa [txtK,ZG,ZH,ZJ,ZI] using h4 10 _ 0 _ rfl rfl,by simpa [txtK,ZG,ZH,ZJ,ZI] using h4 10 _ 1 _ rfl rfl,by simpa [txtK,ZG,ZH,ZJ,ZI] using h4 10 _ 2 _ rfl rfl,by simpa [txtK,ZG,ZH,ZJ,ZI] using h4 10 _ 3 _ rfl rfl,by simpa [txtK,ZG,ZH,ZJ,ZI] using h4 10 _ 4 _ rfl rfl⟩
 | k+11,hk=>omega
set_option maxRecDepth 100000 in
theorem Zju (H:Type) (enc:TypeId × Value->H) (W:World) (base:Nat) (args:Array Value) (ds gs:List (DataW H)) (before:List MemPlace)
 (hval:∀ (j:Nat) t v,Tryz.f3.params[j]?=some t->args[j]?=some v->Value.okWide prog W .any base t v)
 (hW:DataW.Whole enc prog Tryz.f3.params.toList Rows.fnExactParseSpec.vars false W args.toList ds gs before) (hL:laidMetH prog Rows.fnExactParseRow.laid W) :
 Calls prog 3 args W λe W'=>∃ v,e=.returned v/\Rows.fnExactParseSpec.post enc prog Tryz.f3 false true false false W args v W':=by
 have hW':=hW;obtain ⟨p,q,hA0,hV,hps,hfz,hnd⟩:=hW;have hA:DataW.TrodAll enc prog W 0 (λ_=>true) true Tryz.f3.params.toList args.toList ds p:=hA0;rw [Tryz.params3] at hA hval;clear hA0;obtain ⟨v0,vs0,d0,ds0,p0,q0,hargs,rfl,hp,h0,r0⟩:=trodAll_cons hA;obtain ⟨rfl,rfl,rfl⟩:=trodAll_nil r0;obtain rfl:args=#[v0]:=(by cases args;simp_all);obtain ⟨a0,rfl,rfl,-,w0⟩:=open_string underlying9 (hval 0 9 v0 rfl rfl) h0;refine (Zdb W a0 w0 (ZiH hL).1 (ZiH hL).2.1 (ZiH hL).2.2).mono λe W' ⟨he,hb⟩=>?_;subst he;have hlen:=Zcd hV
 match gs,hlen with
 | [g0,g1,g2,g3],_=>exact ⟨_,rfl,ZiE laidOut (by kernel_rfl) (by kernel_rfl) underlying4 (by kernel_rfl) hW' rfl hb⟩
set_option maxRecDepth 100000 in
theorem Zjv (os:Os):laidMetH prog Rows.fnExactParseRow.laid ((World.doorLaid prog 100 os).forCall (λ_ _=>0) ⟨#[],#[.string ByteArray.empty],[]⟩).memory :=
 laidMetH_of_parts3 (fuel:=8) (laidMet_of_run' 8 (by kernel_rfl) (by kernel_rfl)) (by kernel_rfl) (by kernel_rfl)
set_option maxRecDepth 100000 in
theorem lifted (os:Os) (started:os.Started) (H:Type) (enc:TypeId × Value->H) (F:Stop.Interp) :
 ReturnsInHanded {} Tryz.checked os 3 .any ((OpenSpec.ofChange Rows.fnExactParseSpec).preRow enc prog Tryz.f3 Rows.fnExactParseRow.domain false Rows.fnExactParseRow.laid) (((OpenSpec.ofChange Rows.fnExactParseSpec).at F).post enc prog Tryz.f3 false true false false):=by
 refine returnsInHanded_of_row (C:=Tryz.checked) (s:=OpenSpec.ofChange Rows.fnExactParseSpec) own started (by kernel_rfl) func3
  (ZcR (enc:=enc) (C:=Tryz.checked) (World.doorLaid prog 100 os) #[.string ByteArray.empty] rfl (World.shaped_of_RefB (by kernel_rfl) (by kernel_rfl)) (by kernel_rfl)
   (Zee 8 (λ_ _=>true) (λk' hk'=>by cases hk') (by kernel_rfl) (by kernel_rfl) (Zjv os))) ?_
 intro W base args ds gs before hval hW _ _ _ hL hsh _;exact Zju H enc W base args ds gs before hval hW hL
theorem said:Rows.FnExactParseSaid :=
 OpenClaim.holds_of_cond 3 Tryz.f3 rfl rfl rfl rfl rfl rfl rfl ⟨rfl,rfl,rfl,rfl,rfl⟩ rfl rfl rfl rfl rfl (by kernel_rfl) func3 (by kernel_rfl)
  (of_decide_eq_true (by kernel_rfl)) (by unfold Func.isWrapper;first | (rw [if_pos (by decide +kernel)];kernel_rfl) | (rw [if_neg (by decide +kernel)];exact ⟨rfl,rfl⟩))
  (λos started H enc _ F=>by rw [OpenClaim.pre_eq_preRow];exact lifted os started H enc F)
theorem plain (f:FuncId) (fn:Func) (hf : Tryz.pinned.checked.prog.funcNamed "loop.example/g00377/laws.FnExactParse" = some f) (hfn:Tryz.pinned.checked.prog.funcs[f]?=some fn) :
 true=Tryz.pinned.checked.prog.looks []/\∀ (j:Nat) t,fn.params[j]?=some t->Tryz.pinned.checked.prog.wantsStandIn t=false:=by
 obtain rfl:f=3:=Option.some.inj ((show prog.funcNamed "loop.example/g00377/laws.FnExactParse" = some 3 by kernel_rfl).symm.trans hf) |>.symm
 obtain rfl:fn=Tryz.f3:=(Option.some.inj (func3.symm.trans hfn)).symm;refine ⟨by kernel_rfl,λj t ht=>?_⟩;rw [Tryz.params3] at ht;have hm:t ∈ [9]:=(by simpa using Array.mem_of_getElem? ht);have hall:([9].all λu=>!prog.wantsStandIn u)=true:=(by kernel_rfl);exact (show prog.wantsStandIn t=false by simpa using List.all_eq_true.1 hall t hm)
end fnExactParse
theorem fnExactParse_holds:Rows.FnExactParseCardSaid :=
 Claim7.holds_tied_plain_at .later [] _ _ _ _ fnExactParse.said (λ_ h=>by cases h) (by kernel_rfl) (λ_ h=>by cases h) fnExactParse_row_tie rfl ⟨rfl,rfl⟩ (by kernel_rfl) rfl fnExactParse.plain (by kernel_rfl)
#print axioms fnExactParse_holds
end Go.Proofs.YtacioihbhkcdcaaGreatDoor
