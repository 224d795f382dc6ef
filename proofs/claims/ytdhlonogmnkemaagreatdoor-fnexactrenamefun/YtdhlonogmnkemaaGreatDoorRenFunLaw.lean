/-
  FnExactRenameFun is proved: at every row of modules, every place and all texts RenameFun of the program answers as the specification's, field by field; its answer lies in memory of its own, behind another call too; its arguments are left as they were. Condition (the card ties it to the program's text): the variable of the three words and the table of what a kind has hold what their initialisers lay.
-/
import Derived.Test.YtdhlonogmnkemaaGreatDoorP35
import Derived.Test.YtdhlonogmnkemaaGreatDoorP12
import Derived.Test.YtdhlonogmnkemaaGreatDoorCards
import Derived.Test.YtdhlonogmnkemaaGreatDoorTie
import Derived.ShutString
namespace Go.Proofs.YtdhlonogmnkemaaGreatDoor
namespace fnExactRenameFun
open Go.ChangeShapes Go.WideShapes Go.ChangeAt Go.RowKit Go.Proofs.Tryz
open Go.ChangeMaps (open_string shut_string)
set_option linter.unusedVariables false
theorem own:ownKnob prog.godebug=none:=by kernel_rfl
theorem laidOut:laidOutB prog=true:=by kernel_rfl
theorem Zmq:Zhe prog 263 218 220 135 3 9 133 39 137 40 42 where
 e:=⟨_,underlying263,by kernel_rfl⟩
 c:=⟨_,underlying220,by kernel_rfl⟩
 es:=underlying218
 cs:=underlying135
 i:=underlying3
 s:=underlying9
 ce:=by kernel_rfl
 cc:=by kernel_rfl
 ci:=by kernel_rfl
 cS:=by kernel_rfl
 ces:=by kernel_rfl
 ccs:=by kernel_rfl
 r:=⟨_,underlying133,by kernel_rfl⟩
 f:=⟨_,underlying137,by kernel_rfl⟩
 m:=⟨_,underlying42,by kernel_rfl⟩
 rs:=underlying39
 fs:=underlying40
 cr:=by kernel_rfl
 cf:=by kernel_rfl
 cm:=by kernel_rfl
 crs:=by kernel_rfl
 cfs:=by kernel_rfl
theorem ZlA : prog.globalNamed "loop.example/g00377/impl.keywords" = some 0:=by kernel_rfl
theorem ZmL:(prog.globals[0]?).map (·.type)=some 201:=by kernel_rfl
theorem Zmr : prog.globalNamed "loop.example/g00377/impl.shapes" = some 2:=by kernel_rfl
theorem Zms:(prog.globals[2]?).map (·.type)=some 291:=by kernel_rfl
def grid:List (List Int):=[[0,0,0,0,0],[1,0,0,0,0],[2,0,0,0,0],[0,0,0,0,0],[0,1,20,0,0],[0,0,0,0,0],[0,2,2,0,0],[3,2,2,0,0],[1,0,6,0,0],[0,2,2,0,0],[0,1,1,1,20]]
theorem ZmF {W:World} (h:laidMetH prog Rows.fnExactRenameFunRow.laid W):Tabs W:=by
 rw [MakeChecks.laidMetH_plain _ _ _ (by kernel_rfl)] at h;obtain ⟨ps,hv,_⟩:=h
 obtain ⟨h1,q,hq⟩:=Zgf (ss:=[[99,97,115,101],[111,102],[101,110,100]]) (rest := [("loop.example/g00377/impl.shapes", Zgg grid)]) ZlA ZmL underlying201 underlying9 (by kernel_rfl) (by kernel_rfl) hv
 have h2:=Ze2 (rs:=grid) (rest:=[]) Zmr Zms underlying291 underlying290 underlying3 (c:=5) (by kernel_rfl) (by kernel_rfl) (by kernel_rfl) hq;refine ⟨⟨h1.cell ZlA 0 (by decide),h1.cell ZlA 1 (by decide),h1.cell ZlA 2 (by decide)⟩,λk hk=>?_⟩
 match k,hk with
 | 0,_=>exact ⟨by simpa [txtK,Zu,Zs,Zv,Zt] using h2 0 _ 0 _ rfl rfl,by simpa [txtK,Zu,Zs,Zv,Zt] using h2 0 _ 1 _ rfl rfl,by simpa [txtK,Zu,Zs,Zv,Zt] using h2 0 _ 2 _ rfl rfl,by simpa [txtK,Zu,Zs,Zv,Zt] using h2 0 _ 3 _ rfl rfl,by simpa [txtK,Zu,Zs,Zv,Zt] using h2 0 _ 4 _ rfl rfl⟩
 | 1,_=>exact ⟨by simpa [txtK,Zu,Zs,Zv,Zt] using h2 1 _ 0 _ rfl rfl,by simpa [txtK,Zu,Zs,Zv,Zt] using h2 1 _ 1 _ rfl rfl,by simpa [txtK,Zu,Zs,Zv,Zt] using h2 1 _ 2 _ rfl rfl,by simpa [txtK,Zu,Zs,Zv,Zt] using h2 1 _ 3 _ rfl rfl,by simpa [txtK,Zu,Zs,Zv,Zt] using h2 1 _ 4 _ rfl rfl⟩
 | 2,_=>exact ⟨by simpa [txtK,Zu,Zs,Zv,Zt] using h2 2 _ 0 _ rfl rfl,by simpa [txtK,Zu,Zs,Zv,Zt] using h2 2 _ 1 _ rfl rfl,by simpa [txtK,Zu,Zs,Zv,Zt] using h2 2 _ 2 _ rfl rfl,by simpa [txtK,Zu,Zs,Zv,Zt] using h2 2 _ 3 _ rfl rfl,by simpa [txtK,Zu,Zs,Zv,Zt] using h2 2 _ 4 _ rfl rfl⟩
 | 3,_=>exact ⟨by simpa [txtK,Zu,Zs,Zv,Zt] using h2 3 _ 0 _ rfl rfl,by simpa [txtK,Zu,Zs,Zv,Zt] using h2 3 _ 1 _ rfl rfl,by simpa [txtK,Zu,Zs,Zv,Zt] using h2 3 _ 2 _ rfl rfl,by simpa [txtK,Zu,Zs,Zv,Zt] using h2 3 _ 3 _ rfl rfl,by simpa [txtK,Zu,Zs,Zv,Zt] using h2 3 _ 4 _ rfl rfl⟩
 | 4,_=>exact ⟨by simpa [txtK,Zu,Zs,Zv,Zt] using h2 4 _ 0 _ rfl rfl,by simpa [txtK,Zu,Zs,Zv,Zt] using h2 4 _ 1 _ rfl rfl,by simpa [txtK,Zu,Zs,Zv,Zt] using h2 4 _ 2 _ rfl rfl,by simpa [txtK,Zu,Zs,Zv,Zt] using h2 4 _ 3 _ rfl rfl,by simpa [txtK,Zu,Zs,Zv,Zt] using h2 4 _ 4 _ rfl rfl⟩
 | 5,_=>exact ⟨by simpa [txtK,Zu,Zs,Zv,Zt] using h2 5 _ 0 _ rfl rfl,by simpa [txtK,Zu,Zs,Zv,Zt] using h2 5 _ 1 _ rfl rfl,by simpa [txtK,Zu,Zs,Zv,Zt] using h2 5 _ 2 _ rfl rfl,by simpa [txtK,Zu,Zs,Zv,Zt] using h2 5 _ 3 _ rfl rfl,by simpa [txtK,Zu,Zs,Zv,Zt] using h2 5 _ 4 _ rfl rfl⟩
 | 6,_=>exact ⟨by simpa [txtK,Zu,Zs,Zv,Zt] using h2 6 _ 0 _ rfl rfl,by simpa [txtK,Zu,Zs,Zv,Zt] using h2 6 _ 1 _ rfl rfl,by simpa [txtK,Zu,Zs,Zv,Zt] using h2 6 _ 2 _ rfl rfl,by simpa [txtK,Zu,Zs,Zv,Zt] using h2 6 _ 3 _ rfl rfl,by simpa [txtK,Zu,Zs,Zv,Zt] using h2 6 _ 4 _ rfl rfl⟩
 | 7,_=>exact ⟨by simpa [txtK,Zu,Zs,Zv,Zt] using h2 7 _ 0 _ rfl rfl,by simpa [txtK,Zu,Zs,Zv,Zt] using h2 7 _ 1 _ rfl rfl,by simpa [txtK,Zu,Zs,Zv,Zt] using h2 7 _ 2 _ rfl rfl,by simpa [txtK,Zu,Zs,Zv,Zt] using h2 7 _ 3 _ rfl rfl,by simpa [txtK,Zu,Zs,Zv,Zt] using h2 7 _ 4 _ rfl rfl⟩
 | 8,_=>exact ⟨by simpa [txtK,Zu,Zs,Zv,Zt] using h2 8 _ 0 _ rfl rfl,by simpa [txtK,Zu,Zs,Zv,Zt] using h2 8 _ 1 _ rfl rfl,by simpa [txtK,Zu,Zs,Zv,Zt] using h2 8 _ 2 _ rfl rfl,by simpa [txtK,Zu,Zs,Zv,Zt] using h2 8 _ 3 _ rfl rfl,by simpa [txtK,Zu,Zs,Zv,Zt] using h2 8 _ 4 _ rfl rfl⟩
 | 9,_=>exact ⟨by simpa [txtK,Zu,Zs,Zv,Zt] using h2 9 _ 0 _ rfl rfl,by simpa [txtK,Zu,Zs,Zv,Zt] using h2 9 _ 1 _ rfl rfl,by simpa [txtK,Zu,Zs,Zv,Zt] using h2 9 _ 2 _ rfl rfl,by simpa [txtK,Zu,Zs,Zv,Zt] using h2 9 _ 3 _ rfl rfl,by simpa [txtK,Zu,Zs,Zv,Zt] using h2 9 _ 4 _ rfl rfl⟩
 | 10,_=>exact ⟨by simpa [txtK,Zu,Zs,Zv,Zt] using h2 10 _ 0 _ rfl rfl,by simpa [txtK,Zu,Zs,Zv,Zt] using h2 10 _ 1 _ rfl rfl,by simpa [txtK,Zu,Zs,Zv,Zt] using h2 10 _ 2 _ rfl rfl,by simpa [txtK,Zu,Zs,Zv,Zt] using h2 10 _ 3 _ rfl rfl,by simpa [txtK,Zu,Zs,Zv,Zt] using h2 10 _ 4 _ rfl rfl⟩
 | k+11,hk=>omega
set_option maxRecDepth 100000 in
theorem ZlB (H:Type) (enc:TypeId × Value->H) (W:World) (base:Nat) (args:Array Value) (ds gs:List (DataW H)) (before:List MemPlace)
 (hval:∀ (j:Nat) t v,Tryz.f4.params[j]?=some t->args[j]?=some v->Value.okWide prog W .any base t v)
 (hW:DataW.Whole enc prog Tryz.f4.params.toList Rows.fnExactRenameFunSpec.vars false W args.toList ds gs before) (hL:laidMetH prog Rows.fnExactRenameFunRow.laid W) :
 Calls prog 4 args W λe W'=>∃ v,e=.returned v/\Rows.fnExactRenameFunSpec.post enc prog Tryz.f4 false true false false W args v W':=by
 have hW':=hW;obtain ⟨p,q,hA0,hV,hps,hfz,hnd⟩:=hW;have hA:DataW.TrodAll enc prog W 0 (λ_=>true) true Tryz.f4.params.toList args.toList ds p:=hA0;rw [Tryz.params4] at hA hval;clear hA0;obtain ⟨v0,vs0,d0,ds0,p0,q0,hargs,rfl,hp,h0,r0⟩:=trodAll_cons hA;obtain ⟨v1,vs1,d1,ds1,p1,q1,rfl,rfl,rfl,h1,r1⟩:=trodAll_cons r0;obtain ⟨v2,vs2,d2,ds2,p2,q2,rfl,rfl,rfl,h2,r2⟩:=trodAll_cons r1;obtain ⟨rfl,rfl,rfl⟩:=trodAll_nil r2;obtain rfl:args=#[v0,v1,v2]:=(by cases args;simp_all);obtain ⟨a0,l0,c0,rfl⟩:=okWide_slice underlying22 (hval 0 22 v0 rfl rfl);obtain ⟨e0,m0,g0⟩:=Zly Zmq underlying22 rfl h0;obtain ⟨m1,rfl,k10,k11,k12,k13⟩:=Zmp (by exact ⟨_,underlying24,by kernel_rfl⟩) underlying9 underlying3 (by kernel_rfl) (by kernel_rfl) (by kernel_rfl) h1;obtain ⟨a2,rfl,rfl,-,w2⟩:=open_string underlying9 (hval 2 9 v2 rfl rfl) h2;refine (ZcF W e0 _ m0 m1 a2 g0 k10 k11 w2 (ZmF hL)).mono λe W' ⟨he,hb⟩=>?_;subst he;have hlen:=ZcG hV
 match gs,hlen with
 | [g0,g1],_=>exact ⟨_,rfl,Zkx laidOut (by kernel_rfl) (by kernel_rfl) underlying4 (by kernel_rfl) hW' rfl hb⟩
set_option maxRecDepth 100000 in
theorem ZlC (os:Os):laidMetH prog Rows.fnExactRenameFunRow.laid ((World.doorLaid prog 100 os).forCall (λ_ _=>0) ⟨#[],#[.slice none 0 0,.agg #[.string ByteArray.empty,.string ByteArray.empty,.int .i64 0,.int .i64 0],.string ByteArray.empty],[]⟩).memory :=
 laidMetH_of_parts3 (fuel:=8) (laidMet_of_run' 8 (by kernel_rfl) (by kernel_rfl)) (by kernel_rfl) (by kernel_rfl)
set_option maxRecDepth 100000 in
theorem lifted (os:Os) (started:os.Started) (H:Type) (enc:TypeId × Value->H) (F:Stop.Interp) :
 ReturnsInHanded {} Tryz.checked os 4 .any ((OpenSpec.ofChange Rows.fnExactRenameFunSpec).preRow enc prog Tryz.f4 Rows.fnExactRenameFunRow.domain false Rows.fnExactRenameFunRow.laid) (((OpenSpec.ofChange Rows.fnExactRenameFunSpec).at F).post enc prog Tryz.f4 false true false false):=by
 refine returnsInHanded_of_row (C:=Tryz.checked) (s:=OpenSpec.ofChange Rows.fnExactRenameFunSpec) own started (by kernel_rfl) func4
  (Zdw (enc:=enc) (C:=Tryz.checked) (World.doorLaid prog 100 os) #[.slice none 0 0,.agg #[.string ByteArray.empty,.string ByteArray.empty,.int .i64 0,.int .i64 0],.string ByteArray.empty] rfl (World.shaped_of_RefB (by kernel_rfl) (by kernel_rfl)) (by kernel_rfl)
   (Ze1 8 (λ_ _=>true) (λk' hk'=>by cases hk') (by kernel_rfl) (by kernel_rfl) (ZlC os))) ?_
 intro W base args ds gs before hval hW _ _ _ hL hsh _;exact ZlB H enc W base args ds gs before hval hW hL
theorem said:Rows.FnExactRenameFunSaid :=
 OpenClaim.holds_of_cond 4 Tryz.f4 rfl rfl rfl rfl rfl rfl rfl ⟨rfl,rfl,rfl,rfl,rfl⟩ rfl rfl rfl rfl rfl (by kernel_rfl) func4 (by kernel_rfl)
  (of_decide_eq_true (by kernel_rfl)) (by unfold Func.isWrapper;first | (rw [if_pos (by decide +kernel)];kernel_rfl) | (rw [if_neg (by decide +kernel)];exact ⟨rfl,rfl⟩))
  (λos started H enc _ F=>by rw [OpenClaim.pre_eq_preRow];exact lifted os started H enc F)
theorem plain (f:FuncId) (fn:Func) (hf : Tryz.pinned.checked.prog.funcNamed "loop.example/g00377/laws.FnExactRenameFun" = some f) (hfn:Tryz.pinned.checked.prog.funcs[f]?=some fn) :
 false=Tryz.pinned.checked.prog.looks []/\∀ (j:Nat) t,fn.params[j]?=some t->Tryz.pinned.checked.prog.wantsStandIn t=false:=by
 obtain rfl:f=4:=Option.some.inj ((show prog.funcNamed "loop.example/g00377/laws.FnExactRenameFun" = some 4 by kernel_rfl).symm.trans hf) |>.symm
 obtain rfl:fn=Tryz.f4:=(Option.some.inj (func4.symm.trans hfn)).symm;refine ⟨by kernel_rfl,λj t ht=>?_⟩;rw [Tryz.params4] at ht;have hm:t ∈ [22,24,9]:=(by simpa using Array.mem_of_getElem? ht);have hall:([22,24,9].all λu=>!prog.wantsStandIn u)=true:=(by kernel_rfl);exact (show prog.wantsStandIn t=false by simpa using List.all_eq_true.1 hall t hm)
end fnExactRenameFun
theorem fnExactRenameFun_holds:Rows.FnExactRenameFunCardSaid :=
 Claim7.holds_tied_plain_at .later [] _ _ _ _ fnExactRenameFun.said (λ_ h=>by cases h) (by kernel_rfl) (λ_ h=>by cases h) fnExactRenameFun_row_tie rfl ⟨rfl,rfl⟩ (by kernel_rfl) rfl fnExactRenameFun.plain (by kernel_rfl)
#print axioms fnExactRenameFun_holds
end Go.Proofs.YtdhlonogmnkemaaGreatDoor
