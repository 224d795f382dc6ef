/-
  Vocab
-/
import Derived.Test.YtacioihbhkcdcaaGreatDoorP33
set_option maxHeartbeats 16000000
set_option linter.unusedVariables false
set_option maxRecDepth 100000
namespace Go.Proofs.YtacioihbhkcdcaaGreatDoor
open Go.ChangeShapes Go.WideShapes Go.ChangeAt Go.RowKit
section
open Go.Maps
def keysL:List (List UInt8):=[[99,97,115,101],[111,102],[101,110,100]]
def signsL:List (List UInt8):=[[95],[45,62],[61,61],[40],[41],[123],[125],[91],[93],[124],[44],[59],[46],[58],[61],[60],[43],[45],[42],[47]]
def Zbq:List (List UInt8):=keysL ++ signsL
def vocD (ws:List (List UInt8)):DataW Unit:=ws.foldl (λD x=>D.put (.string x) (.lit (.int .i64 3))) (.map [])
theorem Zd3 (ws:List (List UInt8)) (x:List UInt8):vocD (ws ++ [x])=(vocD ws).put (.string x) (.lit (.int .i64 3)):=by
 simp [vocD,List.foldl_append]
theorem Zd4:∀ (ws:List (List UInt8)) (D:DataW Unit),IsMap D->IsMap (ws.foldl (λD x=>D.put (.string x) (.lit (.int .i64 3))) D)
 | [],D,h=>h
 | x :: ws,D,h=>Zd4 ws _ (h.put _ _)
theorem ZeC (ws:List (List UInt8)):IsMap (vocD ws):=Zd4 ws _ isMap_empty
theorem Zg4:∀ (n:Nat) (ws:List (List UInt8)),ws.length<=n->∀ x:List UInt8,Maps.has (vocD ws) (.string x)=ws.contains x/\(vocD ws).atKey (.string x) (.lit (.int .i64 0))=.lit (.int .i64 (if ws.contains x=true then 3 else 0))
 | 0,ws,h,x=>by
  obtain rfl:ws = []:=List.length_eq_zero_iff.1 (by omega);exact ⟨rfl,rfl⟩
 | n+1,ws,h,x=>by
  rcases List.eq_nil_or_concat ws with rfl | ⟨L,y,rfl⟩
  . exact ⟨rfl,rfl⟩
  . rw [List.concat_eq_append] at h ⊢
    rw [List.length_append] at h;simp only [List.length_cons,List.length_nil] at h;have ih:=Zg4 n L (by omega) x;rw [Zd3];by_cases hxy:x=y
    . subst hxy
      have hc:(L ++ [x]).contains x=true:=(by simp);rw [hc,if_pos rfl];exact ⟨has_put_same (k:=.string x) (ZeC L) (by simp [WideAt.IsKeyLit]) _,atKey_put_same (k:=.string x) (ZeC L) (by simp [WideAt.IsKeyLit]) _ _⟩
    . have hne:(Lit.string x)≠Lit.string y:=λe=>hxy (by injection e)
      have hc:(L ++ [y]).contains x=L.contains x:=(by simp [hxy]);rw [hc,has_put_other hne,atKey_put_other hne];exact ih
def ScM (w:World) (C:Nat) (s:ByteArray) (i:Nat) (line:Int) (d m:Int) (V:Option Nat):Prop :=
 w.heap[C]?=some (.cells #[.string s,.int .i64 i,.int .i64 line,.int .u32 d,.int .i32 m,.int .u32 0,.map V] 86 (0,0))
def Zim (w:World):Prop:=∀ k,k<20->w.cell? ⟨2,k,none⟩=some (.string ⟨(signsL.getD k []).toArray⟩)
def Zgn (w:World):Prop:=∀ k,k<3->w.cell? ⟨1,k,none⟩=some (.string ⟨(keysL.getD k []).toArray⟩)
def ZcN:Array Value:=#[.string ⟨#[95]⟩,.string ⟨#[45,62]⟩,.string ⟨#[61,61]⟩,.string ⟨#[40]⟩,.string ⟨#[41]⟩,.string ⟨#[123]⟩,.string ⟨#[125]⟩,.string ⟨#[91]⟩,.string ⟨#[93]⟩,.string ⟨#[124]⟩,.string ⟨#[44]⟩,.string ⟨#[59]⟩,.string ⟨#[46]⟩,.string ⟨#[58]⟩,.string ⟨#[61]⟩,.string ⟨#[60]⟩,.string ⟨#[43]⟩,.string ⟨#[45]⟩,.string ⟨#[42]⟩,.string ⟨#[47]⟩]
theorem Zjc (k:Nat) (hk:k<20) (w:World):Sem.run Tryz.prog (Instr.index 151 (.agg ZcN) (.int .i64 k)) w=.ok (.string ⟨(signsL.getD k []).toArray⟩) w:=by
 rcases (by omega:k=0\/k=1\/k=2\/k=3\/k=4\/k=5\/k=6\/k=7\/k=8\/k=9\/k=10\/k=11\/k=12\/k=13\/k=14\/k=15\/k=16\/k=17\/k=18\/k=19) with rfl | rfl | rfl | rfl | rfl | rfl | rfl | rfl | rfl | rfl | rfl | rfl | rfl | rfl | rfl | rfl | rfl | rfl | rfl | rfl <;> kernel_rfl
theorem ZfH (j:Nat) (v:Value) (h:ZcN.toList[j]?=some v):j<20/\v=.string ⟨(signsL.getD j []).toArray⟩:=by
 have hj:j<20:=by
  have:=(List.getElem?_eq_some_iff.1 h).1;exact this
 refine ⟨hj,?_⟩
 have e:ZcN.toList[j]?=some (.string ⟨(signsL.getD j []).toArray⟩):=by
  rcases (by omega:j=0\/j=1\/j=2\/j=3\/j=4\/j=5\/j=6\/j=7\/j=8\/j=9\/j=10\/j=11\/j=12\/j=13\/j=14\/j=15\/j=16\/j=17\/j=18\/j=19) with rfl | rfl | rfl | rfl | rfl | rfl | rfl | rfl | rfl | rfl | rfl | rfl | rfl | rfl | rfl | rfl | rfl | rfl | rfl | rfl <;> rfl
 exact Option.some.inj (h.symm.trans e)
theorem Zkb (k:Nat) (hk:k<3) (w:World):Sem.run Tryz.prog (Instr.index 136 (.agg #[.string ⟨#[99,97,115,101]⟩,.string ⟨#[111,102]⟩,.string ⟨#[101,110,100]⟩]) (.int .i64 k)) w=.ok (.string ⟨(keysL.getD k []).toArray⟩) w:=by
 rcases (by omega:k=0\/k=1\/k=2) with rfl | rfl | rfl <;> kernel_rfl
theorem law9:Keyed Tryz.prog 9:=string_keyed Tryz.underlying9
theorem ZkB (w:World):(zeroValue 3).run Tryz.prog w=.ok (.int .i64 0) w:=by kernel_rfl
end
end Go.Proofs.YtacioihbhkcdcaaGreatDoor
