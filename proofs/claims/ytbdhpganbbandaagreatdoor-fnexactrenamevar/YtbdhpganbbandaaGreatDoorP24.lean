/-
  Frame Frame2
-/
import Derived.Test.YtbdhpganbbandaaGreatDoorP03
import Derived.OpenShut
import Derived.OpenVars
import Derived.LaidMore
import Derived.Deep.DeepHandedRow
set_option maxHeartbeats 16000000
set_option linter.unusedVariables false
set_option maxRecDepth 100000
namespace Go.Proofs.YtbdhpganbbandaaGreatDoor
open Go.ChangeShapes Go.WideShapes Go.ChangeAt Go.RowKit
theorem trodAll_below {H:Type} {enc:TypeId × Value->H} {P:Program} (hl:laidOutB P=true) {W W':World} (hb:Bz W W') :
 ∀ {ts:List TypeId} {vs:List Value} {ds:List (DataW H)} {ps:List MemPlace},(ts.all λt=>P.readableRec t && decide (t<P.types.size))=true ->
  DataW.TrodAll enc P W 0 (λ_=>true) true ts vs ds ps->(∀ x ∈ ps,x.block<W.heap.size)->DataW.TrodAll enc P W' 0 (λb=>decide (b<W.heap.size)) true ts vs ds ps
 | [],_,_,_,_,h,_=>by
  obtain ⟨rfl,rfl,rfl⟩:=trodAll_nil h;exact trodAll_mk0
 | t :: ts,vs,ds,ps,ht,h,hlt=>by
  obtain ⟨v,vs',d,ds',p,q,rfl,rfl,rfl,h0,hs⟩:=trodAll_cons h;simp only [List.all_cons,Bool.and_eq_true,decide_eq_true_eq] at ht
  exact trodAll_cons_mk (Below.trod hl ht.1.1 ht.1.2 h0 hb (λx hx=>hlt x (by simp [hx])))
   (trodAll_below hl hb ht.2 hs (λx hx=>hlt x (by simp [hx])))
theorem post_true {H:Type} {enc:TypeId × Value->H} {P:Program} {f:Func} {s:ChangeSpec} {W W':World} {args:Array Value} {ds gs:List (DataW H)} {before:List MemPlace}
 (hl:laidOutB P=true) (hts:(f.params.toList.all λt=>P.readableRec t && decide (t<P.types.size))=true) (hvs:varsRowed P s.vars=true) {tb:TypeId} (htb:P.underlying tb=some .bool)
 (hres:f.resultTypes=#[tb]) (hW:DataW.Whole enc P f.params.toList s.vars false W args.toList ds gs before)
 (hfn:s.fn H (ds ++ gs) = { results:=[.lit (.bool true)],args:=ds,vars:=gs }) (hb:Bz W W') :
 s.post enc P f false true false false W args (.bool true) W':=by
 have hlt:∀ x ∈ before,x.block<W.heap.size:=λx hx=>by simpa using hW.lt x hx
 have hW':=hW;obtain ⟨p,q,hA,hV,rfl,hfz,hnd⟩:=hW;refine ⟨ds,gs,p ++ q,[],p,q,hW',?_,?_,?_,hb.frame _,λh=>by cases h⟩
 . rw [hfn,hres]
   exact trodAll_mk1 (shut_bool htb true)
 . rw [hfn]
   exact trodAll_below hl hb hts hA (λx hx=>hlt x (by simp [hx]))
 . rw [hfn]
   exact Below.trodVars hl hb hvs hV
theorem witness_row_shaped {H:Type} {enc:TypeId × Value->H} {C:Checked} {os:Os} {f:FuncId} {fn:Func} {s:OpenSpec} {conds:List PathCond} {apart:Bool} {laid:List (String × DataW Unit)} (w0:World) (args:Array Value) (hos:w0.os=os)
 (hsh:(w0.forCall (λ_ _=>0) ⟨#[],args,[]⟩).Shaped C.prog)
 (hok:Input.okWideB C.prog (w0.forCall (λ_ _=>0) ⟨#[],args,[]⟩) f ⟨#[],args,[]⟩=true)
 (hrow:s.preRow enc C.prog fn conds apart laid (w0.forCall (λ_ _=>0) ⟨#[],args,[]⟩).memory args) :
 ∃ (w:World) (tape:Tape) (i:Input),w.os=os/\(w.forCall tape i).Shaped C.prog/\i.vars = []/\Input.okWide C.prog (w.forCall tape i) .any w.heap.size f i /\
  s.preRow enc C.prog fn conds apart laid (w.forCall tape i).memory i.args/\({}:Assume).holds C.prog (lone (Frame.enter C.prog f i.args .normal) [] (w.forCall tape i)) :=
 ⟨w0,λ_ _=>0,⟨#[],args,[]⟩,hos,hsh,(Input.okWide_of_okWideB (base:=0) hok).1,(Input.okWide_of_okWideB hok).2,hrow,by
  simp [Assume.holds]⟩
def strTab {H:Type} (ss:List (List UInt8)):DataW H:=.agg (ss.map λs=>.lit (.string s))
theorem cells_of_strTab {H:Type} {enc:TypeId × Value->H} {P:Program} {w:World} {base:Nat} {sp:Nat->Bool} {held:Bool} {fuel:Nat} {t e:TypeId} {n:Nat} {cs:List Value} {ss:List (List UInt8)} {p:List MemPlace}
 (ht:P.underlying t=some (.array n e)) (he:P.underlying e=some .string) (hce:P.cellsOf e=1) (hct:P.cellsOf t=n)
 (h:DataW.trod enc P w base sp held fuel t cs=some (strTab ss,p)):cs=ss.map λs=>Value.string ⟨s.toArray⟩:=by
 cases fuel with
 | zero=>simp [DataW.trod] at h
 | succ fuel =>
  simp only [DataW.trod,ht,hce,hct,Nat.mul_one] at h
  split at h
  . rename_i hl
    obtain ⟨xs,hm,hx⟩:=Option.map_eq_some_iff.1 h
    have hxs:xs.map (·.1)=ss.map λs=>(DataW.lit (.string s):DataW H):=by
     have:=congrArg Prod.fst hx
     simpa [strTab] using this
    have hxl:xs.length=n:=by simpa using Lib.mapM_length hm
    have hzl:ss.length=n:=by
     have:=congrArg List.length hxs;simp at this;omega
    apply List.ext_getElem?
    intro i;by_cases hi:i<n
    . obtain ⟨b,hb,hf⟩:=Lib.mapM_at hm i i (by simp [hi])
      obtain ⟨z,hc,rfl,_⟩:=DataW.trod_string he hf
      have h1:cs[i]?=some (.string z):=by
       have:=congrArg (·[0]?) hc
       simpa [List.getElem?_take,List.getElem?_drop] using this
      have h2:(xs.map (·.1))[i]?=some (DataW.lit (.string z.data.toList):DataW H):=(by simp [hb]);rw [hxs] at h2;simp only [List.getElem?_map,Option.map_eq_some_iff,DataW.lit.injEq,Lit.string.injEq] at h2;obtain ⟨z',hz',rfl⟩:=h2;simp [h1,hz']
    . rw [List.getElem?_eq_none (by omega),List.getElem?_eq_none (by simp;omega)]
  . cases h
def StrIs (P:Program) (w:World) (name:String) (ss:List (List UInt8)):Prop:=w.var? P name=some (ss.map λs=>Value.string ⟨s.toArray⟩).toArray
theorem strIs_of_vars {P:Program} {W:World} {name:String} {ss:List (List UInt8)} {rest:List (String × DataW Unit)} {ps:List MemPlace} {g:Nat} {t e:TypeId} {n:Nat}
 (hg:P.globalNamed name=some g) (hty:(P.globals[g]?).map (·.type)=some t) (ht:P.underlying t=some (.array n e)) (he:P.underlying e=some .string) (hce:P.cellsOf e=1) (hct:P.cellsOf t=n)
 (h:DataW.LaidVars P W ((name,strTab ss) :: rest) ps):StrIs P W name ss/\∃ q,DataW.LaidVars P W rest q:=by
 obtain ⟨g',t',cs,fuel,p,q,hg',ht',hvar,hd,hq,_⟩:=h;obtain rfl:=Option.some.inj (hg.symm.trans hg');obtain rfl:=Option.some.inj (hty.symm.trans ht');refine ⟨?_,q,hq⟩;unfold StrIs;rw [hvar,<-cells_of_strTab ht he hce hct hd]
theorem StrIs.cell {P:Program} {W:World} {name:String} {ss:List (List UInt8)} {g:Nat} (h:StrIs P W name ss) (hg:P.globalNamed name=some g) (i:Nat) (hi:i<ss.length) :
 W.cell? ⟨g,i,none⟩=some (.string ⟨(ss.getD i []).toArray⟩):=by
 have:=World.var?_cell hg h i
 simpa [List.getD,hi] using this
theorem trodVars_length {H:Type} {enc:TypeId × Value->H} {P:Program} {w:World} {sp:Nat->Bool} :
 ∀ {ns:List String} {gs:List (DataW H)} {ps:List MemPlace},DataW.TrodVars enc P w sp ns gs ps->gs.length=ns.length
 | [],[],_,_=>rfl
 | [],_ :: _,_,h=>h.elim
 | _ :: _,[],_,h=>h.elim
 | n :: ns,d :: ds,ps,h=>by
  obtain ⟨g,t,cs,fuel,p,q,h1,h2,h3,h4,hs,e⟩:=h;simp [trodVars_length hs]
theorem preRow_of_bool {H:Type} {enc:TypeId × Value->H} {P:Program} {f:Func} {s:OpenSpec} {conds:List PathCond} {apart:Bool} {laid:List (String × DataW Unit)} {w:World} {args:Array Value} (fuel:Nat)
 (k:(H:Type)->List (DataW H)->Bool) (hk:∀ k',s.cond=some k'->k'=k)
 (hx:((DataW.whole enc P w f.params.toList s.vars apart args.toList fuel).any λx=>conds.all (PathCond.test P ⟨f.params.toList,x.1,s.bare.plain.varTypes P,x.2.1⟩) && k H (x.1 ++ x.2.1))=true)
 (hsz:s.bare.sizedB enc P f apart w args fuel=true) (hl:laidMetH P laid w):s.preRow enc P f conds apart laid w args:=by
 cases h:DataW.whole enc P w f.params.toList s.vars apart args.toList fuel with
 | none=>rw [h] at hx;cases hx
 | some x =>
  rw [h] at hx;simp only [Option.any_some,Bool.and_eq_true] at hx;exact OpenSpec.preRow_of_cond fuel h hx.1 (λk' hk'=>by rw [hk k' hk'];exact hx.2) hsz hl
def gridTab {H:Type} (rs:List (List Int)):DataW H:=.agg (rs.map λr=>.agg (r.map λz=>.lit (.int .i64 z)))
theorem cells_of_grid {H:Type} {enc:TypeId × Value->H} {P:Program} {w:World} {base:Nat} {sp:Nat->Bool} {held:Bool} {fuel:Nat} {t e ti:TypeId} {n c:Nat} {fs:Array Field} {cs:List Value} {rs:List (List Int)} {p:List MemPlace}
 (ht:P.underlying t=some (.array n e)) (he:P.underlying e=some (.struct fs)) (hti:P.underlying ti=some (.int .i64)) (hfs:(fs.toList.map λf=>(f.type,f.offset))=(List.range c).map λj=>(ti,j)) (hci:P.cellsOf ti=1) (hce:P.cellsOf e=c)
 (h:DataW.trod enc P w base sp held fuel t cs=some (gridTab rs,p)):∀ i r j z,rs[i]?=some r->r[j]?=some z->cs[i * c+j]?=some (.int .i64 z):=by
 intro i r j z hi hj
 cases fuel with
 | zero=>simp [DataW.trod] at h
 | succ fuel =>
  simp only [DataW.trod,ht] at h
  split at h
  . obtain ⟨xs,hm,hx⟩:=Option.map_eq_some_iff.1 h
    have hxs:xs.map (·.1)=rs.map λr=>(DataW.agg (r.map λz=>.lit (.int .i64 z)):DataW H):=by
     have:=congrArg Prod.fst hx
     simpa [gridTab] using this
    have hxl:xs.length=n:=by simpa using Lib.mapM_length hm
    have hil:i<n:=by
     have h1:=congrArg List.length hxs;have h2:=(List.getElem?_eq_some_iff.1 hi).1;simp at h1;omega
    obtain ⟨b,hb,hf⟩:=Lib.mapM_at hm i i (by simp [hil])
    have hb1:b.1=.agg (r.map λz=>.lit (.int .i64 z)):=by
     have:=congrArg (·[i]?) hxs;simp [hb,hi] at this;exact this
    rw [hce] at hf
    cases fuel with
    | zero=>simp [DataW.trod] at hf
    | succ fuel =>
     simp only [DataW.trod,he] at hf
     split at hf
     . obtain ⟨ys,hm2,hy⟩:=Option.map_eq_some_iff.1 hf
       have hys:ys.map (·.1)=r.map λz=>(DataW.lit (.int .i64 z):DataW H):=by
        have:=congrArg Prod.fst hy;rw [hb1] at this
        simpa using this
       have hyl:ys.length=fs.toList.length:=Lib.mapM_length hm2
       have hjl:j<fs.toList.length:=by
        have h1:=congrArg List.length hys;have h2:=(List.getElem?_eq_some_iff.1 hj).1;simp at h1 hyl ⊢;omega
       obtain ⟨f,hfj⟩:∃ f,fs.toList[j]?=some f:=⟨_,List.getElem?_eq_getElem hjl⟩;obtain ⟨y,hyj,hty⟩:=Lib.mapM_at hm2 j f hfj
       have hfe:f.type=ti/\f.offset=j/\j<c:=by
        have h1:=congrArg (·[j]?) hfs;simp only [List.getElem?_map,hfj,Option.map_some] at h1
        have hjc:j<c:=by
         have h2:=congrArg List.length hfs;simp at h2 hjl;omega
        rw [List.getElem?_range hjc] at h1;simp at h1;exact ⟨h1.1,h1.2,hjc⟩
       rw [hfe.1,hfe.2.1,hci] at hty;obtain ⟨z',hc,rfl,_⟩:=DataW.trod_int hti hty;have h2:=congrArg (·[j]?) hys;simp [hyj,hj] at h2;subst h2;have h3:=congrArg (·[0]?) hc;simp only [List.getElem?_take,List.getElem?_drop,List.getElem?_cons_zero] at h3
       simpa [hfe.2.2] using h3
     . cases hf
  . cases h
theorem gridIs_of_vars {P:Program} {W:World} {name:String} {rs:List (List Int)} {rest:List (String × DataW Unit)} {ps:List MemPlace} {g:Nat} {t e ti:TypeId} {n c:Nat} {fs:Array Field}
 (hg:P.globalNamed name=some g) (hty:(P.globals[g]?).map (·.type)=some t) (ht:P.underlying t=some (.array n e)) (he:P.underlying e=some (.struct fs)) (hti:P.underlying ti=some (.int .i64)) (hfs:(fs.toList.map λf=>(f.type,f.offset))=(List.range c).map λj=>(ti,j))
 (hci:P.cellsOf ti=1) (hce:P.cellsOf e=c) (h:DataW.LaidVars P W ((name,gridTab rs) :: rest) ps):∀ i r j z,rs[i]?=some r->r[j]?=some z->W.cell? ⟨g,i * c+j,none⟩=some (.int .i64 z):=by
 obtain ⟨g',t',cs,fuel,p,q,hg',ht',hvar,hd,hq,_⟩:=h;obtain rfl:=Option.some.inj (hg.symm.trans hg');obtain rfl:=Option.some.inj (hty.symm.trans ht');intro i r j z hi hj;have h1:=cells_of_grid ht he hti hfs hci hce hd i r j z hi hj;have h2:=World.var?_cell hg hvar (i * c+j);rw [h2]
 simpa using h1
end Go.Proofs.YtbdhpganbbandaaGreatDoor
