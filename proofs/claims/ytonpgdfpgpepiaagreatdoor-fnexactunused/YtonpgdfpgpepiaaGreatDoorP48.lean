/-
  ReachNames
-/
import Derived.Test.YtonpgdfpgpepiaaGreatDoorP47
import Derived.Test.YtonpgdfpgpepiaaGreatDoorP46
set_option maxHeartbeats 16000000
set_option linter.unusedVariables false
set_option maxRecDepth 100000
namespace Go.Proofs.YtonpgdfpgpepiaaGreatDoor
open Go.ChangeShapes Go.WideShapes Go.ChangeAt Go.RowKit
section
open Go.Maps Go.WideMaps Go.Shelf
attribute [local go_sem] Oper.semAt_some
structure NmI (w:World) (bl:Nat) (W:World) (s:List ByteArray):Prop where
  ex:∃ v,Blk W bl #[v] 24∧OwnS W w.heap.size v s
  low:Below w.heap.size w W
theorem NmI.next {w:World} {bl:Nat} {A B:World} {s:List ByteArray} (h:NmI w bl A s) (hb:Below A.heap.size A B):NmI w bl B s:=by
  obtain ⟨v,h1,h2⟩:=h.ex
  exact ⟨⟨v,h1.next hb,h2.next hb⟩,h.low.trans (hb.mono h.low.size)⟩
theorem NmI.put {w:World} {bl:Nat} {A:World} {s:List ByteArray} {l:Nat} {o:Obj} {r:Loop} (h:NmI w bl A s) (hl:w.heap.size≤l) (ho:A.heap[l]?=some (.loop r)):NmI w bl (A.putObj l o) s:=by
  obtain ⟨v,h1,g1,g3⟩:=h.ex
  have hs:A.heap.size≤(A.putObj l o).heap.size:=by simp
  refine ⟨⟨v,(World.putObj_heap_other (fun e=>?_)).trans h1,⟨⟨g1.1,?_⟩,Nat.le_trans g3 hs⟩⟩,h.low.trans (below_put o hl)⟩
  · subst e
    rw [show A.heap[bl]?=_ from h1] at ho
    cases ho
  · rcases g1.2 with hn | ⟨g,cap,cur,hv,hB,hg,hr⟩
    · exact .inl hn
    · refine .inr ⟨g,cap,cur,hv,hB,(World.putObj_heap_other (fun e=>?_)).trans hg,hr⟩
      subst e
      rw [hg] at ho
      cases ho
theorem OwnS.setO {w:World} {B b j:Nat} {v x:Value} {l:List ByteArray} {cs:Array Value} {t:TypeId} (h:OwnS w B v l) (hb:Blk w b cs t) (ht:t≠9):OwnS (w.setCell ⟨b,j,none⟩ x) B v l:=by
  refine ⟨⟨h.1.1,?_⟩,by rw [setCell_hs];exact h.2⟩
  rcases h.1.2 with hn | ⟨g,cap,cur,hv,hB,hh,hr⟩
  · exact .inl hn
  · refine .inr ⟨g,cap,cur,hv,hB,(Below.heap_setCell _ _ _ _ (fun e1=>?_)).trans hh,hr⟩
    have e2:g=b:=e1
    subst e2
    rw [show w.heap[g]?=_ from hb] at hh
    simp at hh
    exact ht hh.2
def nmP (p:Md × Fn'):ByteArray:=nmT p.1.name p.2.name p.2.arity
theorem names_pairs (d:Nat) (ms:List Md):namesL d ms=(pairL ms).map nmP:=by
  unfold namesL pairL
  rw [ftOf_eq,List.map_flatMap,List.map_flatMap]
  refine flatMap_same (fun m _=>?_)
  unfold ftM
  rw [List.map_map,List.map_map]
  rfl
theorem newSearch_any (d:Nat) (w:World) (v:Value) (ms:List Md) (h:Rows w All 3 (HMd w All d) v ms) (hw:wtS (wtMd d) ms≤1048576) (hp:PowAt w) (hg:goodB d ms=true) :
    Calls Tryz.prog 42 #[.agg #[v]] w fun e w'=>∃ (s gc gm:Nat) (pn:Option Addr) (qn:Nat) (cl:List (List Nat)),e=.returned (.pointer (some ⟨s,0,none⟩))∧Blk w' s #[.slice pn (namesL d ms).length qn,.slice (some ⟨gc,0,none⟩) (namesL d ms).length (namesL d ms).length,.slice (some ⟨gm,0,none⟩) (namesL d ms).length (namesL d ms).length,.slice none 0 0] 114∧CalR w' w.heap.size gc cl∧CalOf (sortS (namesL d ms)) (graphL d ms) cl∧Blk w' gm (Array.replicate (namesL d ms).length (.bool false)) 4∧OwnS w' w.heap.size (.slice pn (namesL d ms).length qn) (sortS (namesL d ms))∧(w.heap.size≤s∧w.heap.size≤gc∧w.heap.size≤gm)∧Below w.heap.size w w':=by
  have hrT:Rows w (fun g=>g<w.heap.size) 3 (HMd w (fun g=>g<w.heap.size) d) v ms:=Rows.tight h (fun _ _ h=>md_tight h)
  obtain ⟨C,hC⟩:=fcells_at hrT
  have HPG:Hid (2<w.heap.size):=powAt_lt hp
  have HP:Hid (PowAt w):=hp
  obtain ⟨p,cap,rfl,-⟩:=id h
  generalize hn:ms.length=n at *
  clear h hp
  refine (callsIn_wide (n:=7)).1 ?_
  refine callsIn_of_wp_marks Tryz.func42 rfl trivial ?_ rfl
  simp only [Tryz.ntmps42,List.size_toArray,List.length_cons,List.length_nil,Nat.reduceAdd,Nat.reduceSub,Array.replicate_succ,Array.replicate_zero,List.push_toArray,List.append_toArray,List.nil_append,List.cons_append]
  gi_wp2
  have BW:Below w.heap.size w (((w.alloc (.cells #[.slice p n cap] 52)).alloc (.cells #[] 9)).alloc (.cells #[.slice (some ⟨w.heap.size+1,0,none⟩) 0 0] 24)):=(((Below.refl _ _).alloc (Nat.le_refl _) _).alloc (by simp only [alloc_hs];omega) _).alloc (by simp only [alloc_hs];omega) _
  have bL:Blk (((w.alloc (.cells #[.slice p n cap] 52)).alloc (.cells #[] 9)).alloc (.cells #[.slice (some ⟨w.heap.size+1,0,none⟩) 0 0] 24)) (w.heap.size+1+1) #[.slice (some ⟨w.heap.size+1,0,none⟩) 0 0] 24:=by
    have:=Blk.new (w:=(w.alloc (.cells #[.slice p n cap] 52)).alloc (.cells #[] 9)) (cs:=#[.slice (some ⟨w.heap.size+1,0,none⟩) 0 0]) (t:=24)
    simp only [alloc_hs] at this
    exact this
  have oL:OwnS (((w.alloc (.cells #[.slice p n cap] 52)).alloc (.cells #[] 9)).alloc (.cells #[.slice (some ⟨w.heap.size+1,0,none⟩) 0 0] 24)) w.heap.size (.slice (some ⟨w.heap.size+1,0,none⟩) 0 0) []:=by
    have h1:=OwnS.fresh (w:=w.alloc (.cells #[.slice p n cap] 52))
    simp only [alloc_hs] at h1
    exact OwnS.base (h1.next ((Below.refl _ _).alloc (by simp only [alloc_hs];omega) _)) (by omega)
  have hsz:(((w.alloc (.cells #[.slice p n cap] 52)).alloc (.cells #[] 9)).alloc (.cells #[.slice (some ⟨w.heap.size+1,0,none⟩) 0 0] 24)).heap.size=w.heap.size+3:=by simp only [alloc_hs]
  have bP:Blk (((w.alloc (.cells #[.slice p n cap] 52)).alloc (.cells #[] 9)).alloc (.cells #[.slice (some ⟨w.heap.size+1,0,none⟩) 0 0] 24)) w.heap.size #[.slice p n cap] 52:=(Blk.new.alloc).alloc
  have HRT:Hid (Rows w (fun g=>g<w.heap.size) 3 (HMd w (fun g=>g<w.heap.size) d) (.slice p n cap) ms):=hrT
  have HCC:Hid (CellsAt w (fun g=>g<w.heap.size) d (.slice p n cap) ms C):=hC
  have HWS:Hid (wtS (wtMd d) ms≤1048576):=hw
  generalize hWW:(((w.alloc (.cells #[.slice p n cap] 52)).alloc (.cells #[] 9)).alloc (.cells #[.slice (some ⟨w.heap.size+1,0,none⟩) 0 0] 24))=w0 at *
  clear hrT hC hw hWW hn
  refine range_kg (ts:=[9,24]) rfl (by omega) (gf:=22) (bs:=#[.slice p n cap]) rfl trivial (enters_of Tryz.func22 (by kernel_rfl) rfl)
    (encs:=fun k=>#[.agg (C k).1.toArray,.agg (C k).2.toArray]) (fun _=>rfl) (offs ms ms.length) w.heap.size BW.size
    (fun l J W hW hJb hY h0=>by
      have hb:Below w.heap.size w W:=BW.trans (hW.mono BW.size)
      have hs:SameOn (fun g=>g<w.heap.size) w W:=⟨hb.size,fun g hg _=>hb.block g hg⟩
      exact funcs_in (by show _ ∉ _;decide) l w.heap.size d _ ms C W (HRT.out.mono hs (fun _ h=>h) (fun _ _ _ h=>h.mono hs (fun _ h=>h))) (HCC.out.mono hb) hb.size J hJb hY h0)
    (fun k W=>NmI w (w.heap.size+1+1) W (((pairL ms).take k).map nmP)∧Blk W w.heap.size #[.slice p n cap] 52)
    (fun k A B h hb=>⟨h.1.next hb,h.2.next hb⟩) (fun k A l o r h hl ho=>⟨h.1.put (by omega) ho,(World.putObj_heap_other (fun e=>by
      have:=(show A.heap[w.heap.size]?=_ from h.2)
      rw [e,ho] at this
      cases this)).trans h.2⟩)
    ⟨by simpa using (⟨⟨_,bL,oL⟩,BW⟩:NmI w (w.heap.size+1+1) w0 []),bP⟩ ?round ?done
  case round =>
    rintro l k W hI hsW hk hl
    have HI:Hid (NmI w (w.heap.size+1+1) W (((pairL ms).take k).map nmP)∧Blk W w.heap.size #[.slice p n cap] 52):=hI
    obtain ⟨P,hP⟩:∃ P,(pairL ms)[k]?=some P:=⟨(pairL ms)[k]'(by rw [pairL_len];exact hk),List.getElem?_eq_getElem _⟩
    obtain ⟨a,b,hma,hfb,hab⟩:=pairL_at ms k P hP
    obtain ⟨m,f⟩:=P
    obtain ⟨g,off,n',cap',e1,e2,e3,e4,e5,e6,fv,g5,o5,n5,c5,e7,e8,e9,e10,e11,e12,e13⟩:=HCC.out a m hma b f hfb
    rw [hab] at e4 e5 e6 e7 e11 e12 e13
    obtain ⟨ev,fv',hc1,hms,⟨pe,ce,rfl,-⟩,⟨pf,cf,rfl,-⟩⟩:=e6
    obtain ⟨cv,hc2,hfs,hfa,hcl⟩:=e13
    obtain ⟨pc,cc,rfl,-⟩:=id hcl
    obtain ⟨hnm,hwf⟩:=pair_wt (d:=d) (List.mem_of_getElem? hP)
    rw [hc1,hc2]
    have HPK:Hid ((pairL ms)[k]?=some (m,f)):=hP
    have HFA:Hid (okI f.arity):=hfa
    simp only at hnm hwf
    have hnm':m.name.size≤1048576:=Nat.le_trans hnm HWS.out
    have hwf':wtFn d f≤1048576:=Nat.le_trans hwf HWS.out
    have hfn':f.name.size≤1048576:=by unfold wtFn at hwf';omega
    have HLN:Hid ((((pairL ms).take k).map nmP).length+1≤1048576):=by
      have h1:=namesL_len d ms
      rw [names_pairs,List.length_map] at h1
      have h2:=(List.getElem?_eq_some_iff.1 hP).1
      have h3:=HWS.out
      show _≤_
      rw [List.length_map,List.length_take]
      omega
    have HTK:Hid (((pairL ms).take (k+1)).map nmP=((pairL ms).take k).map nmP ++ [nmT m.name f.name f.arity]):=by
      show _=_
      rw [List.take_add_one,hP]
      simp [nmP]
    generalize hPL:((pairL ms).take k).map nmP=PL at *
    clear hI hma hfb hab e1 e2 e3 e4 e5 e7 e8 e9 e10 e11 e12 hc1 hc2 hms hfs hfa hcl hnm hwf hP fv g5 o5 n5 c5 g off n' cap' a b hPL
    generalize m.exports.length=ne at *
    generalize m.funs.length=nf at *
    generalize f.clauses.length=nc at *
    gi_wp2
    refine ⟨((Below.refl _ _).alloc (Nat.le_refl _) _).alloc (by simp only [alloc_hs];omega) _,fun r o' hl'=>?_⟩
    have bM:=(Blk.new (w:=W) (cs:=#[.string m.name,.slice pe ne ce,.slice pf nf cf]) (t:=42)).alloc (o:=.cells #[.string f.name,.int .i64 f.arity,.slice pc nc cc] 46)
    have bF:=Blk.new (w:=W.alloc (.cells #[.string m.name,.slice pe ne ce,.slice pf nf cf] 42)) (cs:=#[.string f.name,.int .i64 f.arity,.slice pc nc cc]) (t:=46)
    simp only [alloc_hs] at bF
    have BA:Below W.heap.size W ((W.alloc (.cells #[.string m.name,.slice pe ne ce,.slice pf nf cf] 42)).alloc (.cells #[.string f.name,.int .i64 f.arity,.slice pc nc cc] 46)):=((Below.refl _ _).alloc (Nat.le_refl _) _).alloc (by simp only [alloc_hs];omega) _
    have I1:=HI.out.1.next BA
    have P1:=HI.out.2.next BA
    generalize (W.alloc (.cells #[.string m.name,.slice pe ne ce,.slice pf nf cf] 42)).alloc (.cells #[.string f.name,.int .i64 f.arity,.slice pc nc cc] 46)=W' at *
    have I2:Hid (NmI w (w.heap.size+1+1) (W'.putObj l o') PL):=I1.put (by omega) hl'
    have hneM:W.heap.size≠l:=fun e=>by
      have:=(show W'.heap[W.heap.size]?=_ from bM)
      rw [e,hl'] at this
      cases this
    have hneF:W.heap.size+1≠l:=fun e=>by
      have:=(show W'.heap[W.heap.size+1]?=_ from bF)
      rw [e,hl'] at this
      cases this
    have hneP:w.heap.size≠l:=fun e=>by
      have:=(show W'.heap[w.heap.size]?=_ from P1)
      rw [e,hl'] at this
      cases this
    have bM2:Hid (Blk (W'.putObj l o') W.heap.size #[.string m.name,.slice pe ne ce,.slice pf nf cf] 42):=(World.putObj_heap_other hneM).trans bM
    have bF2:Hid (Blk (W'.putObj l o') (W.heap.size+1) #[.string f.name,.int .i64 f.arity,.slice pc nc cc] 46):=(World.putObj_heap_other hneF).trans bF
    have bP2:Hid (Blk (W'.putObj l o') w.heap.size #[.slice p n cap] 52):=(World.putObj_heap_other hneP).trans P1
    generalize W'.putObj l o'=W2 at *
    clear bM bF BA I1 P1 hl' hneM hneF hneP
    obtain ⟨v,hlv,hov⟩:=I2.out.ex
    have m0:=bM2.out.cell 0 _ rfl
    have f0:=bF2.out.cell 0 _ rfl
    have f1:=bF2.out.cell 1 _ rfl
    have f2:=bF2.out.cell 2 _ rfl
    have l0:=hlv.cell 0 _ rfl
    have HLV:Hid (Blk W2 (w.heap.size+1+1) #[v] 24):=hlv
    have HOV:Hid (OwnS W2 w.heap.size v PL):=hov
    obtain ⟨NM,hNM⟩:∃ NM,NM=nmT m.name f.name f.arity:=⟨_,rfl⟩
    clear hlv hov
    have HNM:Hid (NM=nmT m.name f.name f.arity):=hNM
    clear hNM
    have CEL:Hid (∀ w',Below W2.heap.size W2 w'→(fun w'=>w'.cell? ⟨W.heap.size,0,none⟩=some (.string m.name)∧w'.cell? ⟨W.heap.size+1,0,none⟩=some (.string f.name)∧w'.cell? ⟨W.heap.size+1,1,none⟩=some (.int .i64 f.arity)∧w'.cell? ⟨W.heap.size+1,2,none⟩=some (.slice pc nc cc)) w'):=fun w' hb=>⟨cell_next hb m0,cell_next hb f0,cell_next hb f1,cell_next hb f2⟩
    have HPW:Hid (∀ w',Below W2.heap.size W2 w'→PowAt w'):=fun w' hb=>powAt_low HP.out HPG.out ((I2.out.low.trans (hb.mono I2.out.low.size)).block _ HPG.out)
    have CF:Hid (∀ w',Below W2.heap.size W2 w'→Calls Tryz.prog 23 #[.string m.name,.agg #[.string f.name,.int .i64 f.arity]] w' fun e w''=>e=.returned (.string NM)∧Below w'.heap.size w' w''):=fun w' hb=>by rw [HNM.out];exact fullName_any w' m.name f.name f.arity hnm' hfn' HFA.out (HPW.out w' hb)
    have LB:Hid (∀ w',Below W2.heap.size W2 w'→w'.cell? ⟨w.heap.size+1+1,0,none⟩=some v):=fun w' hb=>cell_next hb l0
    obtain ⟨i0,hi,hz0,hz1,hz2⟩:=info_parts info_str
    have hsW':w.heap.size+3≤W.heap.size:=by omega
    have AFT:Hid (∀ (X:World) (p9:Option Addr) (q9:Nat) (w9:World),Below W2.heap.size W2 X→w9.ownsRow w.heap.size 9 1 (.slice p9 (PL.length+1) q9) (PL.length+1) (strs PL ++ strs [NM])→X.grownBy w9 v.ownBlock→(fun w'=>w'.cell? ⟨W.heap.size,0,none⟩=some (.string m.name)∧w'.cell? ⟨W.heap.size+1,0,none⟩=some (.string f.name)∧w'.cell? ⟨W.heap.size+1,1,none⟩=some (.int .i64 f.arity)∧w'.cell? ⟨W.heap.size+1,2,none⟩=some (.slice pc nc cc)) w9∧w9.cell? ⟨w.heap.size+1+1,0,none⟩=some v∧w9.frozen? ⟨w.heap.size+1+1,0,none⟩=false∧(fun w'=>w'.cell? ⟨W.heap.size,0,none⟩=some (.string m.name)∧w'.cell? ⟨W.heap.size+1,0,none⟩=some (.string f.name)∧w'.cell? ⟨W.heap.size+1,1,none⟩=some (.int .i64 f.arity)∧w'.cell? ⟨W.heap.size+1,2,none⟩=some (.slice pc nc cc)) (w9.setCell ⟨w.heap.size+1+1,0,none⟩ (.slice p9 (PL.length+1) q9))∧(NmI w (w.heap.size+1+1) (w9.setCell ⟨w.heap.size+1+1,0,none⟩ (.slice p9 (PL.length+1) q9)) (PL ++ [nmT m.name f.name f.arity])∧Blk (w9.setCell ⟨w.heap.size+1+1,0,none⟩ (.slice p9 (PL.length+1) q9)) w.heap.size #[.slice p n cap] 52)∧KG [9,24] w.heap.size W2 (w9.setCell ⟨w.heap.size+1+1,0,none⟩ (.slice p9 (PL.length+1) q9))):=by
      intro X p9 q9 w9 hX ho9 hg9
      have OX:=HOV.out.next hX
      have AP:ApartE 9 X w9:=ApartE.of_grown OX.1 hg9
      have M9:=AP.blk (bM2.out.next hX) (by decide)
      have F9:=AP.blk (bF2.out.next hX) (by decide)
      have P9:=AP.blk (bP2.out.next hX) (by decide)
      have L9:=AP.blk (HLV.out.next hX) (by decide)
      have O9:OwnS w9 w.heap.size (.slice p9 (PL.length+1) q9) (PL ++ [nmT m.name f.name f.arity]):=OwnS.of ho9 (by simp) (by rw [HNM.out]) (Nat.le_trans OX.2 hg9.size)
      have hlow9:Below w.heap.size W2 w9:=(hX.mono I2.out.low.size).trans (OX.below hg9)
      have hlowF:=hlow9.setCell (p:=⟨w.heap.size+1+1,0,none⟩) (by show _≤w.heap.size+1+1;omega) (.slice p9 (PL.length+1) q9)
      have M10:=M9.other (p:=⟨w.heap.size+1+1,0,none⟩) (v:=.slice p9 (PL.length+1) q9) (by show _≠w.heap.size+1+1;omega)
      have F10:=F9.other (p:=⟨w.heap.size+1+1,0,none⟩) (v:=.slice p9 (PL.length+1) q9) (by show _≠w.heap.size+1+1;omega)
      have P10:=P9.other (p:=⟨w.heap.size+1+1,0,none⟩) (v:=.slice p9 (PL.length+1) q9) (by show _≠w.heap.size+1+1;omega)
      refine ⟨⟨M9.cell 0 _ rfl,F9.cell 0 _ rfl,F9.cell 1 _ rfl,F9.cell 2 _ rfl⟩,L9.cell 0 _ rfl,L9.frozen 0,⟨M10.cell 0 _ rfl,F10.cell 0 _ rfl,F10.cell 1 _ rfl,F10.cell 2 _ rfl⟩,⟨⟨⟨_,L9.same rfl,O9.setO L9 (by decide)⟩,I2.out.low.trans hlowF⟩,P10⟩,⟨hlowF,fun b o ho hn=>?_⟩⟩
      have hbl:=(Array.getElem?_eq_some_iff.1 ho).1
      have hX':X.heap[b]?=some o:=(hX.block b hbl).trans ho
      have hne:b≠w.heap.size+1+1:=fun e=>by
        rw [e,show W2.heap[w.heap.size+1+1]?=_ from HLV.out] at ho
        exact hn _ _ _ (Option.some.inj ho).symm (by simp)
      refine (Below.heap_setCell _ _ _ _ hne).trans ((hg9.block b (Array.getElem?_eq_some_iff.1 hX').1 (fun e=>?_)).trans hX')
      rcases OX.1.2 with ⟨hv,_⟩ | ⟨g',cap',cur,hv,_,hg,_⟩
      · rw [hv] at e;simp [Value.ownBlock] at e
      · rw [hv] at e
        have e':b=g':=by simpa [Value.ownBlock] using e
        subst e'
        rw [hX'] at hg
        exact hn _ _ _ (Option.some.inj hg) (by simp)
    clear hsW'
    gi_wp2
    refine wpIn_region_held_drew (S:=(fun w'=>w'.cell? ⟨W.heap.size,0,none⟩=some (.string m.name)∧w'.cell? ⟨W.heap.size+1,0,none⟩=some (.string f.name)∧w'.cell? ⟨W.heap.size+1,1,none⟩=some (.int .i64 f.arity)∧w'.cell? ⟨W.heap.size+1,2,none⟩=some (.slice pc nc cc))) (by kernel_rfl) ?nd ?lo ⟨m0,f0,f1,f2⟩ (fun hHeld=>?_)
    case nd =>
      intro i o ho c e
      match i,ho with
      | 0,ho=>cases ho;cases e
      | 1,ho=>cases ho;cases e
      | 2,ho=>cases ho;cases e
      | 3,ho=>cases ho;cases e
      | 4,ho=>cases ho;cases e
      | 5,ho=>cases ho;cases e
      | 6,ho=>cases ho;cases e
      | 7,ho=>cases ho;cases e
      | 8,ho=>cases ho;cases e
      | i+9,ho=>simp at ho
    case lo =>
      rintro ⟨a,w,h⟩
      cases h.1
    refine tkH 1 (v:=.pointer (some ⟨W.heap.size,0,none⟩)) rfl (by rfl) (fun w' hS=>by go_simp) hHeld ?_
    try simp only [sqP]
    refine tkH 2 (v:=.string m.name) rfl (by rfl) (fun w' hS=>by obtain ⟨h0,h1,h2,h3⟩:=hS;go_simp) hHeld ?_
    try simp only [sqP]
    refine tkH 3 (v:=.agg #[.string f.name,.int .i64 f.arity,.slice pc nc cc]) rfl (by rfl) (fun w' hS=>by obtain ⟨h0,h1,h2,h3⟩:=hS;go_simp) hHeld ?_
    try simp only [sqP]
    refine twoH 0 4 rfl rfl (fun K hK=>?_) (fun K hK=>?_)
    · go_simp
      have K0:Hid (Below W2.heap.size W2 W2.drew):=(Below.refl _ _).drew
      refine hK.out _ _ (CEL.out _ K0.out) (fun hHeld=>?_)
      clear hK K
      try simp only [sqP]
      refine oneH 4 rfl (fun K hK=>?_)
      go_simp
      go_at_call 24
      refine (refOf_any f.name f.arity pc nc cc _).mono ?_
      rintro e w3 ⟨rfl,hb3⟩
      have K3:Hid (Below W2.heap.size W2 w3):=⟨hb3.os,hb3.tape,hb3.output,hb3.size,hb3.block⟩
      clear hb3
      refine hK.out _ _ (CEL.out _ K3.out) (fun hHeld=>?_)
      clear hK K
      try simp only [sqP]
      refine oneH 5 rfl (fun K hK=>?_)
      go_simp
      go_at_call 23
      refine (CF.out _ K3.out).mono ?_
      rintro e w4 ⟨rfl,hb4⟩
      have K4:Hid (Below W2.heap.size W2 w4):=K3.out.trans (hb4.mono K3.out.size)
      clear hb4
      refine hK.out _ _ (CEL.out _ K4.out) (fun hHeld=>?_)
      clear hK K
      try simp only [sqP]
      refine oneH 6 rfl (fun K hK=>?_)
      go_simp
      have K5:Hid (Below W2.heap.size W2 (w4.alloc (.cells #[.string NM] 9))):=K4.out.alloc K4.out.size _
      refine hK.out _ _ (CEL.out _ K5.out) (fun hHeld=>?_)
      clear hK K
      try simp only [sqP]
      refine oneH 7 rfl (fun K hK=>?_)
      refine step_append_own _ (by rfl) _ _ _ (by rfl) w.heap.size 9 i0 (.string ⟨#[]⟩) 1 16 Tryz.underlying24 hi hz0 hz1 hz2 rfl (by decide) v PL.length (strs PL) (by rfl) (HOV.out.next K5.out).1 ⟨w4.heap.size,0,none⟩ 1 1 (strs [NM]) (by rfl) (by rfl) (one_str w4 NM _ rfl) (strs_oneCell _) (by have:=HLN.out;unfold maxLen;omega) (by have:=HLN.out;omega) (HOV.out.next K5.out).2 ?_
      intro v9 w9 ho9 hg9 _
      obtain ⟨p9,q9,rfl,-⟩:=owns_slice ho9
      have A9:=AFT.out _ p9 q9 w9 K5.out ho9 hg9
      refine hK.out _ _ A9.1 (fun hHeld=>?_)
      clear hK K ho9 hg9
      try simp only [sqP]
      refine oneH 8 rfl (fun K hK=>?_)
      have lc:=A9.2.1
      have lf:=A9.2.2.1
      go_simp
      refine hK.out _ _ A9.2.2.2.1 (fun hHeld=>?_)
      clear hK K lc lf
      try simp only [sqP]
      refine wpAnyH_done (by kernel_rfl) ?_ _
      exact ⟨rfl,by rw [HTK.out];exact A9.2.2.2.2.1,A9.2.2.2.2.2⟩
    · go_simp
      go_at_call 24
      refine (refOf_any f.name f.arity pc nc cc _).mono ?_
      rintro e w3 ⟨rfl,hb3⟩
      have K3:Hid (Below W2.heap.size W2 w3):=⟨hb3.os,hb3.tape,hb3.output,hb3.size,hb3.block⟩
      clear hb3
      refine hK.out _ _ (CEL.out _ K3.out) (fun hHeld=>?_)
      clear hK K
      try simp only [sqP]
      refine twoH 0 5 rfl rfl (fun K hK=>?_) (fun K hK=>?_)
      · have lc:=LB.out _ K3.out
        go_simp
        clear lc
        refine hK.out _ _ (CEL.out _ K3.out) (fun hHeld=>?_)
        clear hK K
        try simp only [sqP]
        refine oneH 5 rfl (fun K hK=>?_)
        go_simp
        go_at_call 23
        refine (CF.out _ K3.out).mono ?_
        rintro e w4 ⟨rfl,hb4⟩
        have K4:Hid (Below W2.heap.size W2 w4):=K3.out.trans (hb4.mono K3.out.size)
        clear hb4
        refine hK.out _ _ (CEL.out _ K4.out) (fun hHeld=>?_)
        clear hK K
        try simp only [sqP]
        refine oneH 6 rfl (fun K hK=>?_)
        go_simp
        have K5:Hid (Below W2.heap.size W2 (w4.alloc (.cells #[.string NM] 9))):=K4.out.alloc K4.out.size _
        refine hK.out _ _ (CEL.out _ K5.out) (fun hHeld=>?_)
        clear hK K
        try simp only [sqP]
        refine oneH 7 rfl (fun K hK=>?_)
        refine step_append_own _ (by rfl) _ _ _ (by rfl) w.heap.size 9 i0 (.string ⟨#[]⟩) 1 16 Tryz.underlying24 hi hz0 hz1 hz2 rfl (by decide) v PL.length (strs PL) (by rfl) (HOV.out.next K5.out).1 ⟨w4.heap.size,0,none⟩ 1 1 (strs [NM]) (by rfl) (by rfl) (one_str w4 NM _ rfl) (strs_oneCell _) (by have:=HLN.out;unfold maxLen;omega) (by have:=HLN.out;omega) (HOV.out.next K5.out).2 ?_
        intro v9 w9 ho9 hg9 _
        obtain ⟨p9,q9,rfl,-⟩:=owns_slice ho9
        have A9:=AFT.out _ p9 q9 w9 K5.out ho9 hg9
        refine hK.out _ _ A9.1 (fun hHeld=>?_)
        clear hK K ho9 hg9
        try simp only [sqP]
        refine oneH 8 rfl (fun K hK=>?_)
        have lc:=A9.2.1
        have lf:=A9.2.2.1
        go_simp
        refine hK.out _ _ A9.2.2.2.1 (fun hHeld=>?_)
        clear hK K lc lf
        try simp only [sqP]
        refine wpAnyH_done (by kernel_rfl) ?_ _
        exact ⟨rfl,by rw [HTK.out];exact A9.2.2.2.2.1,A9.2.2.2.2.2⟩
      · go_simp
        go_at_call 23
        refine (CF.out _ K3.out).mono ?_
        rintro e w4 ⟨rfl,hb4⟩
        have K4:Hid (Below W2.heap.size W2 w4):=K3.out.trans (hb4.mono K3.out.size)
        clear hb4
        refine hK.out _ _ (CEL.out _ K4.out) (fun hHeld=>?_)
        clear hK K
        try simp only [sqP]
        refine twoH 0 6 rfl rfl (fun K hK=>?_) (fun K hK=>?_)
        · have lc:=LB.out _ K4.out
          go_simp
          clear lc
          refine hK.out _ _ (CEL.out _ K4.out) (fun hHeld=>?_)
          clear hK K
          try simp only [sqP]
          refine oneH 6 rfl (fun K hK=>?_)
          go_simp
          have K5:Hid (Below W2.heap.size W2 (w4.alloc (.cells #[.string NM] 9))):=K4.out.alloc K4.out.size _
          refine hK.out _ _ (CEL.out _ K5.out) (fun hHeld=>?_)
          clear hK K
          try simp only [sqP]
          refine oneH 7 rfl (fun K hK=>?_)
          refine step_append_own _ (by rfl) _ _ _ (by rfl) w.heap.size 9 i0 (.string ⟨#[]⟩) 1 16 Tryz.underlying24 hi hz0 hz1 hz2 rfl (by decide) v PL.length (strs PL) (by rfl) (HOV.out.next K5.out).1 ⟨w4.heap.size,0,none⟩ 1 1 (strs [NM]) (by rfl) (by rfl) (one_str w4 NM _ rfl) (strs_oneCell _) (by have:=HLN.out;unfold maxLen;omega) (by have:=HLN.out;omega) (HOV.out.next K5.out).2 ?_
          intro v9 w9 ho9 hg9 _
          obtain ⟨p9,q9,rfl,-⟩:=owns_slice ho9
          have A9:=AFT.out _ p9 q9 w9 K5.out ho9 hg9
          refine hK.out _ _ A9.1 (fun hHeld=>?_)
          clear hK K ho9 hg9
          try simp only [sqP]
          refine oneH 8 rfl (fun K hK=>?_)
          have lc:=A9.2.1
          have lf:=A9.2.2.1
          go_simp
          refine hK.out _ _ A9.2.2.2.1 (fun hHeld=>?_)
          clear hK K lc lf
          try simp only [sqP]
          refine wpAnyH_done (by kernel_rfl) ?_ _
          exact ⟨rfl,by rw [HTK.out];exact A9.2.2.2.2.1,A9.2.2.2.2.2⟩
        · go_simp
          have K5:Hid (Below W2.heap.size W2 (w4.alloc (.cells #[.string NM] 9))):=K4.out.alloc K4.out.size _
          refine hK.out _ _ (CEL.out _ K5.out) (fun hHeld=>?_)
          clear hK K
          try simp only [sqP]
          refine oneH 0 rfl (fun K hK=>?_)
          have lc:=LB.out _ K5.out
          go_simp
          clear lc
          refine hK.out _ _ (CEL.out _ K5.out) (fun hHeld=>?_)
          clear hK K
          try simp only [sqP]
          refine oneH 7 rfl (fun K hK=>?_)
          refine step_append_own _ (by rfl) _ _ _ (by rfl) w.heap.size 9 i0 (.string ⟨#[]⟩) 1 16 Tryz.underlying24 hi hz0 hz1 hz2 rfl (by decide) v PL.length (strs PL) (by rfl) (HOV.out.next K5.out).1 ⟨w4.heap.size,0,none⟩ 1 1 (strs [NM]) (by rfl) (by rfl) (one_str w4 NM _ rfl) (strs_oneCell _) (by have:=HLN.out;unfold maxLen;omega) (by have:=HLN.out;omega) (HOV.out.next K5.out).2 ?_
          intro v9 w9 ho9 hg9 _
          obtain ⟨p9,q9,rfl,-⟩:=owns_slice ho9
          have A9:=AFT.out _ p9 q9 w9 K5.out ho9 hg9
          refine hK.out _ _ A9.1 (fun hHeld=>?_)
          clear hK K ho9 hg9
          try simp only [sqP]
          refine oneH 8 rfl (fun K hK=>?_)
          have lc:=A9.2.1
          have lf:=A9.2.2.1
          go_simp
          refine hK.out _ _ A9.2.2.2.1 (fun hHeld=>?_)
          clear hK K lc lf
          try simp only [sqP]
          refine wpAnyH_done (by kernel_rfl) ?_ _
          exact ⟨rfl,by rw [HTK.out];exact A9.2.2.2.2.1,A9.2.2.2.2.2⟩
  case done =>
    intro D W hD hI hK
    obtain ⟨⟨⟨v,hlv,hov⟩,hlow⟩,hPB⟩:=hI
    have hnl:((pairL ms).take (offs ms ms.length)).map nmP=namesL d ms:=by rw [List.take_of_length_le (by rw [pairL_len];exact Nat.le_refl _),names_pairs]
    rw [hnl] at hov
    have HLN:Hid ((namesL d ms).length≤1048576):=Nat.le_trans (namesL_len d ms) HWS.out
    have HND:Hid ((namesL d ms).Nodup):=names_nodup (by unfold goodB at hg;simp only [Bool.and_eq_true] at hg;exact hg.1)
    have HOV:Hid (OwnS W w.heap.size v (namesL d ms)):=hov
    have HLV:Hid (Blk W (w.heap.size+1+1) #[v] 24):=hlv
    have HPB:Hid (Blk W w.heap.size #[.slice p n cap] 52):=hPB
    have HLO:Hid (Below w.heap.size w W):=hlow
    have HDD:Hid (W.heap[D]?=some (.deferred (some []))):=hK
    refine ‹∀ (a:Act) (w:World),Code.wpIn Fence.wide 7 Tryz.prog _ _ a w→_› _ _ (wpIn_wide.2 ?_)
    dsimp only
    have l0:=hlv.cell 0 _ rfl
    clear hnl hov hlv hPB hlow hK
    go_wp2_with fail
    refine (sortNames_any W w.heap.size v _ HOV.out HND.out HLN.out).mono ?_
    rintro e w2 ⟨rfl,o2,b2,ap2,hf2⟩
    have hDl:=(Array.getElem?_eq_some_iff.1 HDD.out).1
    have hDv:v.ownBlock≠some D:=fun e=>by
      rcases HOV.out.1.2 with ⟨hv,_⟩ | ⟨g',cap',cur,hv,_,hg,_⟩
      · rw [hv] at e;simp [Value.ownBlock] at e
      · rw [hv] at e
        have e':g'=D:=by simpa [Value.ownBlock] using e
        subst e'
        rw [HDD.out] at hg
        cases hg
    have HD2:Hid (w2.heap[D]?=some (.deferred (some []))):=(hf2 D hDl hDv).trans HDD.out
    have LV2:Hid (Blk w2 (w.heap.size+1+1) #[v] 24):=ap2.blk HLV.out (by decide)
    have PB2:Hid (Blk w2 w.heap.size #[.slice p n cap] 52):=ap2.blk HPB.out (by decide)
    have B2:Hid (Below w.heap.size w w2):=HLO.out.trans b2
    have HLS:Hid ((sortS (namesL d ms)).length=(namesL d ms).length):=by
      have:=congrArg List.length (sortKeys HND.out)
      rw [List.length_mergeSort,List.length_map,List.length_map] at this
      exact this.symm
    have hnb:(namesL d ms).length≤1048576:=HLN.out
    obtain ⟨pn,qn,rfl,-⟩:=owns_slice o2.1
    rw [HLS.out] at LV2 o2
    rw [HLS.out]
    have O2:Hid (OwnS w2 w.heap.size (.slice pn (namesL d ms).length qn) (sortS (namesL d ms))):=o2
    generalize hnn:(namesL d ms).length=nn at *
    have HNN:Hid ((namesL d ms).length=nn):=hnn
    have mk1:∀ w',(Instr.makeSlice 109 (.int .i64 nn) (.int .i64 nn)).run Tryz.prog w'=.ok (.slice (some ⟨w'.heap.size,0,none⟩) nn nn) (w'.alloc (.cells (Array.replicate nn (.slice none 0 0)) 111)):=fun w'=>mk_calls w' nn hnb
    have mk2:∀ w',(Instr.makeSlice 110 (.int .i64 nn) (.int .i64 nn)).run Tryz.prog w'=.ok (.slice (some ⟨w'.heap.size,0,none⟩) nn nn) (w'.alloc (.cells (Array.replicate nn (.bool false)) 4)):=fun w'=>mk_met w' nn hnb
    clear o2 b2 ap2 hf2 hDl hDv l0 hnn
    have l0:=LV2.out.cell 0 _ rfl
    have FA:Hid (Below w2.heap.size w2 (((w2.alloc (.cells (Array.replicate nn (.slice none 0 0)) 111)).alloc (.cells (Array.replicate nn (.bool false)) 4)).alloc (.cells #[.slice pn nn qn,.slice (some ⟨w2.heap.size,0,none⟩) nn nn,.slice (some ⟨w2.heap.size+1,0,none⟩) nn nn,.slice none 0 0] 114))):=((((Below.refl _ _).alloc (Nat.le_refl _) _).alloc (by simp only [alloc_hs];omega) _).alloc (by simp only [alloc_hs];omega) _)
    have GA:(((w2.alloc (.cells (Array.replicate nn (.slice none 0 0)) 111)).alloc (.cells (Array.replicate nn (.bool false)) 4)).alloc (.cells #[.slice pn nn qn,.slice (some ⟨w2.heap.size,0,none⟩) nn nn,.slice (some ⟨w2.heap.size+1,0,none⟩) nn nn,.slice none 0 0] 114)).drew.cell? ⟨w.heap.size+1+1,0,none⟩=some (.slice pn nn qn):=(LV2.out.next FA.out).cell 0 _ rfl
    have FB:Hid (Below w2.heap.size w2 (((w2.alloc (.cells (Array.replicate nn (.bool false)) 4)).alloc (.cells (Array.replicate nn (.slice none 0 0)) 111)).alloc (.cells #[.slice pn nn qn,.slice (some ⟨w2.heap.size+1,0,none⟩) nn nn,.slice (some ⟨w2.heap.size,0,none⟩) nn nn,.slice none 0 0] 114))):=((((Below.refl _ _).alloc (Nat.le_refl _) _).alloc (by simp only [alloc_hs];omega) _).alloc (by simp only [alloc_hs];omega) _)
    have GB:(((w2.alloc (.cells (Array.replicate nn (.bool false)) 4)).alloc (.cells (Array.replicate nn (.slice none 0 0)) 111)).alloc (.cells #[.slice pn nn qn,.slice (some ⟨w2.heap.size+1,0,none⟩) nn nn,.slice (some ⟨w2.heap.size,0,none⟩) nn nn,.slice none 0 0] 114)).drew.cell? ⟨w.heap.size+1+1,0,none⟩=some (.slice pn nn qn):=(LV2.out.next FB.out).cell 0 _ rfl
    have RA:Hid (∃ (gc gm s:Nat),Value.pointer (some ⟨w2.heap.size+1+1,0,none⟩)=.pointer (some ⟨s,0,none⟩)∧Hid (Blk (((w2.alloc (.cells (Array.replicate nn (.slice none 0 0)) 111)).alloc (.cells (Array.replicate nn (.bool false)) 4)).alloc (.cells #[.slice pn nn qn,.slice (some ⟨w2.heap.size,0,none⟩) nn nn,.slice (some ⟨w2.heap.size+1,0,none⟩) nn nn,.slice none 0 0] 114)).drew s #[.slice pn nn qn,.slice (some ⟨gc,0,none⟩) nn nn,.slice (some ⟨gm,0,none⟩) nn nn,.slice none 0 0] 114)∧Hid (Blk (((w2.alloc (.cells (Array.replicate nn (.slice none 0 0)) 111)).alloc (.cells (Array.replicate nn (.bool false)) 4)).alloc (.cells #[.slice pn nn qn,.slice (some ⟨w2.heap.size,0,none⟩) nn nn,.slice (some ⟨w2.heap.size+1,0,none⟩) nn nn,.slice none 0 0] 114)).drew gc (Array.replicate nn (.slice none 0 0)) 111)∧Hid (Blk (((w2.alloc (.cells (Array.replicate nn (.slice none 0 0)) 111)).alloc (.cells (Array.replicate nn (.bool false)) 4)).alloc (.cells #[.slice pn nn qn,.slice (some ⟨w2.heap.size,0,none⟩) nn nn,.slice (some ⟨w2.heap.size+1,0,none⟩) nn nn,.slice none 0 0] 114)).drew gm (Array.replicate nn (.bool false)) 4)∧Hid (Below w2.heap.size w2 (((w2.alloc (.cells (Array.replicate nn (.slice none 0 0)) 111)).alloc (.cells (Array.replicate nn (.bool false)) 4)).alloc (.cells #[.slice pn nn qn,.slice (some ⟨w2.heap.size,0,none⟩) nn nn,.slice (some ⟨w2.heap.size+1,0,none⟩) nn nn,.slice none 0 0] 114)).drew)∧Hid (w2.heap.size≤s∧w2.heap.size≤gc∧w2.heap.size≤gm)) :=
      ⟨w2.heap.size,w2.heap.size+1,w2.heap.size+1+1,rfl,(by have:=Blk.new (w:=(w2.alloc (.cells (Array.replicate nn (.slice none 0 0)) 111)).alloc (.cells (Array.replicate nn (.bool false)) 4)) (cs:=#[.slice pn nn qn,.slice (some ⟨w2.heap.size,0,none⟩) nn nn,.slice (some ⟨w2.heap.size+1,0,none⟩) nn nn,.slice none 0 0]) (t:=114);simp only [alloc_hs] at this;exact this),(((Blk.new (w:=w2)).alloc).alloc),(by have:=(Blk.new (w:=w2.alloc (.cells (Array.replicate nn (.slice none 0 0)) 111)) (cs:=Array.replicate nn (.bool false)) (t:=4)).alloc (o:=.cells #[.slice pn nn qn,.slice (some ⟨w2.heap.size,0,none⟩) nn nn,.slice (some ⟨w2.heap.size+1,0,none⟩) nn nn,.slice none 0 0] 114);simp only [alloc_hs] at this;exact this),FA.out.drew,by show _∧_∧_;omega⟩
    have RB:Hid (∃ (gc gm s:Nat),Value.pointer (some ⟨w2.heap.size+1+1,0,none⟩)=.pointer (some ⟨s,0,none⟩)∧Hid (Blk (((w2.alloc (.cells (Array.replicate nn (.bool false)) 4)).alloc (.cells (Array.replicate nn (.slice none 0 0)) 111)).alloc (.cells #[.slice pn nn qn,.slice (some ⟨w2.heap.size+1,0,none⟩) nn nn,.slice (some ⟨w2.heap.size,0,none⟩) nn nn,.slice none 0 0] 114)).drew s #[.slice pn nn qn,.slice (some ⟨gc,0,none⟩) nn nn,.slice (some ⟨gm,0,none⟩) nn nn,.slice none 0 0] 114)∧Hid (Blk (((w2.alloc (.cells (Array.replicate nn (.bool false)) 4)).alloc (.cells (Array.replicate nn (.slice none 0 0)) 111)).alloc (.cells #[.slice pn nn qn,.slice (some ⟨w2.heap.size+1,0,none⟩) nn nn,.slice (some ⟨w2.heap.size,0,none⟩) nn nn,.slice none 0 0] 114)).drew gc (Array.replicate nn (.slice none 0 0)) 111)∧Hid (Blk (((w2.alloc (.cells (Array.replicate nn (.bool false)) 4)).alloc (.cells (Array.replicate nn (.slice none 0 0)) 111)).alloc (.cells #[.slice pn nn qn,.slice (some ⟨w2.heap.size+1,0,none⟩) nn nn,.slice (some ⟨w2.heap.size,0,none⟩) nn nn,.slice none 0 0] 114)).drew gm (Array.replicate nn (.bool false)) 4)∧Hid (Below w2.heap.size w2 (((w2.alloc (.cells (Array.replicate nn (.bool false)) 4)).alloc (.cells (Array.replicate nn (.slice none 0 0)) 111)).alloc (.cells #[.slice pn nn qn,.slice (some ⟨w2.heap.size+1,0,none⟩) nn nn,.slice (some ⟨w2.heap.size,0,none⟩) nn nn,.slice none 0 0] 114)).drew)∧Hid (w2.heap.size≤s∧w2.heap.size≤gc∧w2.heap.size≤gm)) :=
      ⟨w2.heap.size+1,w2.heap.size,w2.heap.size+1+1,rfl,(by have:=Blk.new (w:=(w2.alloc (.cells (Array.replicate nn (.bool false)) 4)).alloc (.cells (Array.replicate nn (.slice none 0 0)) 111)) (cs:=#[.slice pn nn qn,.slice (some ⟨w2.heap.size+1,0,none⟩) nn nn,.slice (some ⟨w2.heap.size,0,none⟩) nn nn,.slice none 0 0]) (t:=114);simp only [alloc_hs] at this;exact this),(by have:=(Blk.new (w:=w2.alloc (.cells (Array.replicate nn (.bool false)) 4)) (cs:=Array.replicate nn (.slice none 0 0)) (t:=111)).alloc (o:=.cells #[.slice pn nn qn,.slice (some ⟨w2.heap.size+1,0,none⟩) nn nn,.slice (some ⟨w2.heap.size,0,none⟩) nn nn,.slice none 0 0] 114);simp only [alloc_hs] at this;exact this),(((Blk.new (w:=w2)).alloc).alloc),FB.out.drew,by show _∧_∧_;omega⟩
    go_upto_region 7 with fail
    go_cut [6] from 26 to 34 (fun s6 wc=>∃ (gc gm s:Nat),s6=.pointer (some ⟨s,0,none⟩)∧Hid (Blk wc s #[.slice pn nn qn,.slice (some ⟨gc,0,none⟩) nn nn,.slice (some ⟨gm,0,none⟩) nn nn,.slice none 0 0] 114)∧Hid (Blk wc gc (Array.replicate nn (.slice none 0 0)) 111)∧Hid (Blk wc gm (Array.replicate nn (.bool false)) 4)∧Hid (Below w2.heap.size w2 wc)∧Hid (w2.heap.size≤s∧w2.heap.size≤gc∧w2.heap.size≤gm))
    case first =>
      go_region_held3 (fun w'=>w'.cell? ⟨w.heap.size+1+1,0,none⟩=some (.slice pn nn qn))
        (first | go_keep | exact GA | exact GB | exact GA.symm.symm)
        (fail)
      all_goals
        go_wp2_with fail
        go_meet
        case rel=>first | exact RA.out | exact RB.out
    case rest =>
      obtain ⟨gc,gm,s,rfl,hS,hC,hM,hB,hge⟩:=hcut
      have BWC:Hid (Below w.heap.size w wc):=B2.out.trans (hB.out.mono B2.out.size)
      have HPBc:Hid (Blk wc w.heap.size #[.slice p n cap] 52):=PB2.out.next hB.out
      have HDc:Hid (wc.heap[D]?=some (.deferred (some []))):=(hB.out.block D (Array.getElem?_eq_some_iff.1 HD2.out).1).trans HD2.out
      have OWC:Hid (OwnS wc w.heap.size (.slice pn nn qn) (sortS (namesL d ms))):=O2.out.next hB.out
      have CALc:Hid (CalR wc w.heap.size gc (List.replicate nn [])):=CalR.new hC.out BWC.out.size
      have HRc:Hid (Rows wc All 3 (HMd wc All d) (.slice p n cap) ms):=HRT.out.mono ⟨BWC.out.size,fun g hg _=>BWC.out.block g hg⟩ (fun _ _=>trivial) (fun _ _ _ h=>h.mono ⟨BWC.out.size,fun g hg _=>BWC.out.block g hg⟩ (fun _ _=>trivial))
      have HPc:Hid (PowAt wc):=powAt_low HP.out HPG.out (BWC.out.block _ HPG.out)
      have HEQ:Hid (compactE (sortE (edgesOf nmT d ms))=graphL d ms):=by
        show _=_
        unfold graphL
        rw [hg,if_pos rfl]
        exact graph_same (by unfold goodB at hg;simp only [Bool.and_eq_true] at hg;exact hg.1)
      have HED:Hid (∀ e ∈ graphL d ms,(∃ i:Nat,(sortS (namesL d ms))[i]?=some e.1)∧∃ i:Nat,(sortS (namesL d ms))[i]?=some e.2):=fun e he=>by
        obtain ⟨h1,h2⟩:=good_edge hg e he
        exact ⟨List.mem_iff_getElem?.1 ((sortS_iff _ _).2 h1),List.mem_iff_getElem?.1 ((sortS_iff _ _).2 h2)⟩
      have HGE:Hid (w.heap.size≤s∧w.heap.size≤gc∧w.heap.size≤gm):=by
        obtain ⟨x1,x2,x3⟩:=hge.out
        have:=B2.out.size
        show _∧_∧_
        omega
      have HGLN:Hid ((graphL d ms).length≤1048576):=by
        show _≤_
        rw [← HEQ.out]
        have h1:=compactE_len (sortE (edgesOf nmT d ms))
        rw [(sortE_perm _).length_eq,edges_pairs] at h1
        have h2:=edK_len d (pairL ms)
        have h3:=pre_sum d ms
        have h4:=HWS.out
        rw [edges_pairs]
        omega
      have HAS:Hid ((sortS (namesL d ms)).Pairwise (fun a b=>cmpS a b<0)):=sortS_asc _
      have HNS:Hid ((sortS (namesL d ms)).length=nn):=HLS.out
      have c0:=HPBc.out.cell 0 _ rfl
      clear hB hC l0 mk1 mk2
      go_wp2_with fail
      refine (progGraph_any d wc _ ms HRc.out HWS.out HPc.out).mono ?_
      rintro e w4 ⟨u4,rfl,o4,b4⟩
      rw [HEQ.out] at o4
      obtain ⟨pe,qe,rfl,-⟩:=OwnG.slice o4
      have S4:Hid (Blk w4 s #[.slice pn nn qn,.slice (some ⟨gc,0,none⟩) nn nn,.slice (some ⟨gm,0,none⟩) nn nn,.slice none 0 0] 114):=hS.out.next b4
      have M4:Hid (Blk w4 gm (Array.replicate nn (.bool false)) 4):=hM.out.next b4
      have C4:Hid (CalR w4 w.heap.size gc (List.replicate nn [])):=CALc.out.next b4
      have O4:Hid (OwnS w4 w.heap.size (.slice pn nn qn) (sortS (namesL d ms))):=OWC.out.next b4
      have E4:Hid (OwnE w4 w.heap.size (.slice pe (graphL d ms).length qe) (graphL d ms)):=OwnG.base o4 BWC.out.size
      have D4:Hid (w4.heap[D]?=some (.deferred (some []))):=(b4.block D (Array.getElem?_eq_some_iff.1 HDc.out).1).trans HDc.out
      have B4:Hid (Below w.heap.size w w4):=BWC.out.trans (b4.mono BWC.out.size)
      generalize hE:graphL d ms=E at *
      generalize hN:sortS (namesL d ms)=N at *
      have hNl:N.length=nn:=HNS.out
      have HNQ:Hid (sortS (namesL d ms)=N):=hN
      have HEE:Hid (graphL d ms=E):=hE
      have hNb:N.length≤1048576:=by rw [hNl];exact hnb
      generalize hel:E.length=ne at *
      have HEL:Hid (E.length=ne):=hel
      have hneb:ne≤1048576:=HGLN.out
      have CA0:Hid (CalOf N [] (List.replicate nn [])):=by show CalOf _ _ _;rw [← hNl];exact CalOf.nil N
      have HNE:Hid (N.Nodup):=asc_nodup HAS.out
      clear b4 o4 hS hM hE hN hel hNl c0 HPBc HRc HEQ
      go_wp2_with fail
      go_loopw [38] (fun iv wx=>∃ (k:Nat) (cl:List (List Nat)),k≤ne∧iv=.int .i64 k∧Hid (CalOf N (E.take k) cl)∧Hid (CalR wx w.heap.size gc cl)∧Hid (Blk wx s #[.slice pn nn qn,.slice (some ⟨gc,0,none⟩) nn nn,.slice (some ⟨gm,0,none⟩) nn nn,.slice none 0 0] 114)∧Hid (Blk wx gm (Array.replicate nn (.bool false)) 4)∧Hid (OwnS wx w.heap.size (.slice pn nn qn) N)∧Hid (OwnE wx w.heap.size (.slice pe ne qe) E)∧Hid (wx.heap[D]?=some (.deferred (some [])))∧Hid (Below w.heap.size w wx)) (fun iv _=>ne - (intOf iv).toNat)
      case atStart=>exact ⟨0,_,Nat.zero_le _,rfl,by show CalOf _ _ _;simpa using CA0.out,C4,S4,M4,O4,E4,D4,B4⟩
      case round =>
        obtain ⟨k,cl,hk,rfl,hca,hcr,hs,hm,ho,he,hd,hb⟩:=hrel
        clear C4 S4 M4 O4 E4 D4 B4 CA0
        by_cases hlt:k<ne
        · obtain ⟨e,hek⟩:∃ e,E[k]?=some e:=⟨E[k]'(by rw [HEL.out];exact hlt),List.getElem?_eq_getElem _⟩
          obtain ⟨ge,rfl,c0,c1⟩:=he.out.at hek
          obtain ⟨⟨fr,hfr⟩,⟨to',hto⟩⟩:=HED.out e (List.mem_of_getElem? hek)
          have hfl:fr<nn:=by rw [← HNS.out];exact (List.getElem?_eq_some_iff.1 hfr).1
          obtain ⟨us,hcu⟩:=hcr.out
          obtain ⟨r,hr⟩:∃ r,cl[fr]?=some r:=⟨_,List.getElem?_eq_getElem (by rw [hca.out.len,HNS.out];exact hfl)⟩
          obtain ⟨u,hu,hur⟩:=hcu.row fr r hr
          obtain ⟨gn,hgn,-⟩:=ho.out.at hfr
          subst hgn
          have hki:(k:Int)<(ne:Int):=by omega
          have hfi:(fr:Int)<(nn:Int):=by omega
          have hf0:(0:Int)≤(fr:Int):=by omega
          have HEK:Hid (E[k]?=some e):=hek
          have HFR:Hid (N[fr]?=some e.1):=hfr
          have HTO:Hid (N[to']?=some e.2):=hto
          have HCU:Hid (CalU wr w.heap.size gc us cl):=hcu
          have HR:Hid (cl[fr]?=some r):=hr
          have HU:Hid (us[fr]?=some u):=hu
          have HUR:Hid (OwnI wr w.heap.size u r):=hur
          have hrl:r.length≤1048576:=Nat.le_trans (hca.out.row fr _ r hfr hr).1 (by rw [List.length_take];omega)
          clear hek hfr hto hcu hr hu hur hcr
          obtain ⟨pu,qu,rfl,-⟩:=HUR.out.slice
          obtain ⟨be,hbe⟩:∃ be,be=wr.heap.size:=⟨_,rfl⟩
          have HBE:Hid (wr.heap.size=be):=hbe.symm
          have KA:Hid (Below wr.heap.size wr (wr.alloc (.cells #[.string e.1,.string e.2] 70))):=(Below.refl _ _).alloc (Nat.le_refl _) _
          have BEA:Hid (Blk (wr.alloc (.cells #[.string e.1,.string e.2] 70)) be #[.string e.1,.string e.2] 70):=by show Blk _ _ _ _;rw [hbe];exact Blk.new
          clear hbe
          go_wp2_with fail
          rw [HBE.out]
          refine (place_any (wr.alloc (.cells #[.string e.1,.string e.2] 70)) s w.heap.size gn nn qn _ _ _ N (hs.out.next KA.out) (ho.out.next KA.out) HAS.out hNb e.1 fr HFR.out).mono ?_
          rintro ev w5 ⟨rfl,hb5⟩
          have K5:Hid (Below wr.heap.size wr w5):=KA.out.trans (hb5.mono KA.out.size)
          have S5:Hid (Blk w5 s #[.slice (some ⟨gn,0,none⟩) nn qn,.slice (some ⟨gc,0,none⟩) nn nn,.slice (some ⟨gm,0,none⟩) nn nn,.slice none 0 0] 114):=hs.out.next K5.out
          have E5:Hid (Blk w5 be #[.string e.1,.string e.2] 70):=BEA.out.next hb5
          have U5:Hid (CalU w5 w.heap.size gc us cl):=HCU.out.next K5.out
          have N5:Hid (OwnS w5 w.heap.size (.slice (some ⟨gn,0,none⟩) nn qn) N):=ho.out.next K5.out
          have R5:Hid (OwnI w5 w.heap.size (.slice pu r.length qu) r):=HUR.out.next K5.out
          have D5:Hid (w5.heap[D]?=some (.deferred (some []))):=(K5.out.block D (Array.getElem?_eq_some_iff.1 hd.out).1).trans hd.out
          have B5:Hid (Below w.heap.size w w5):=hb.out.trans (K5.out.mono hb.out.size)
          have M5:Hid (Blk w5 gm (Array.replicate nn (.bool false)) 4):=hm.out.next K5.out
          have G5:Hid (OwnE w5 w.heap.size (.slice (some ⟨ge,0,none⟩) ne qe) E):=he.out.next K5.out
          have CEL:Hid (∀ w',Below w5.heap.size w5 w'→(fun w'=>w'.cell? ⟨s,1,none⟩=some (.slice (some ⟨gc,0,none⟩) nn nn)∧w'.cell? ⟨be,1,none⟩=some (.string e.2)) w'):=fun w' hb=>⟨(S5.out.next hb).cell 1 _ rfl,(E5.out.next hb).cell 1 _ rfl⟩
          have CPL:Hid (∀ w',Below w5.heap.size w5 w'→Calls Tryz.prog 44 #[.pointer (some ⟨s,0,none⟩),.string e.2] w' fun e w''=>e=.returned (.int .i64 (to':Int))∧Below w'.heap.size w' w''):=fun w' hb=>place_any w' s w.heap.size gn nn qn _ _ _ N (S5.out.next hb) (N5.out.next hb) HAS.out hNb e.2 to' HTO.out
          have LU:Hid (∀ w',Below w5.heap.size w5 w'→w'.cell? ⟨gc,fr,none⟩=some (.slice pu r.length qu)):=fun w' hb=>(U5.out.next hb).at HU.out
          have HNEX:Hid (CalOf N (E.take (k+1)) (cl.set fr (r ++ [to']))):=by
            have h1:=hca.out.push HNE.out HFR.out HTO.out HR.out
            have h2:E.take (k+1)=E.take k ++ [e]:=by rw [List.take_add_one,HEK.out];rfl
            show CalOf _ _ _
            rw [h2];exact h1
          have AFT:Hid (∀ (X:World) (g9 cap:Nat) (w9:World),Below w5.heap.size w5 X→OwnI w9 w.heap.size (.slice (some ⟨g9,0,none⟩) (r.length+1) cap) (r ++ [to'])→X.grownBy w9 (Value.slice pu r.length qu).ownBlock→((Value.slice pu r.length qu).ownBlock=some g9∨X.heap.size≤g9) →
              ((fun w'=>w'.cell? ⟨s,1,none⟩=some (.slice (some ⟨gc,0,none⟩) nn nn)∧w'.cell? ⟨be,1,none⟩=some (.string e.2)) w9∧w9.cell? ⟨gc,fr,none⟩=some (.slice pu r.length qu)∧w9.frozen? ⟨gc,fr,none⟩=false∧(fun w'=>w'.cell? ⟨s,1,none⟩=some (.slice (some ⟨gc,0,none⟩) nn nn)∧w'.cell? ⟨be,1,none⟩=some (.string e.2)) (w9.setCell ⟨gc,fr,none⟩ (.slice (some ⟨g9,0,none⟩) (r.length+1) cap)))∧(CalR (w9.setCell ⟨gc,fr,none⟩ (.slice (some ⟨g9,0,none⟩) (r.length+1) cap)) w.heap.size gc (cl.set fr (r ++ [to']))∧Blk (w9.setCell ⟨gc,fr,none⟩ (.slice (some ⟨g9,0,none⟩) (r.length+1) cap)) s #[.slice (some ⟨gn,0,none⟩) nn qn,.slice (some ⟨gc,0,none⟩) nn nn,.slice (some ⟨gm,0,none⟩) nn nn,.slice none 0 0] 114∧Blk (w9.setCell ⟨gc,fr,none⟩ (.slice (some ⟨g9,0,none⟩) (r.length+1) cap)) gm (Array.replicate nn (.bool false)) 4 ∧
                OwnS (w9.setCell ⟨gc,fr,none⟩ (.slice (some ⟨g9,0,none⟩) (r.length+1) cap)) w.heap.size (.slice (some ⟨gn,0,none⟩) nn qn) N∧OwnE (w9.setCell ⟨gc,fr,none⟩ (.slice (some ⟨g9,0,none⟩) (r.length+1) cap)) w.heap.size (.slice (some ⟨ge,0,none⟩) ne qe) E∧(w9.setCell ⟨gc,fr,none⟩ (.slice (some ⟨g9,0,none⟩) (r.length+1) cap)).heap[D]?=some (.deferred (some []))∧Below w.heap.size w (w9.setCell ⟨gc,fr,none⟩ (.slice (some ⟨g9,0,none⟩) (r.length+1) cap)))):=by
            intro X g9 cap w9 hX ho9 hg9 hl9
            have RX:=R5.out.next hX
            have AP:ApartE 3 X w9:=ApartE.of_grown RX.1 hg9
            have C9:Blk w9 gc us.toArray 111:=AP.blk (U5.out.blk.next hX) (by decide)
            have S9:=AP.blk (S5.out.next hX) (by decide)
            have E9:=AP.blk (E5.out.next hX) (by decide)
            have M9:=AP.blk (M5.out.next hX) (by decide)
            have S10:=S9.other (p:=⟨gc,fr,none⟩) (v:=.slice (some ⟨g9,0,none⟩) (r.length+1) cap) (S9.apartT C9 (by decide))
            have E10:=E9.other (p:=⟨gc,fr,none⟩) (v:=.slice (some ⟨g9,0,none⟩) (r.length+1) cap) (E9.apartT C9 (by decide))
            have M10:=M9.other (p:=⟨gc,fr,none⟩) (v:=.slice (some ⟨g9,0,none⟩) (r.length+1) cap) (M9.apartT C9 (by decide))
            have hDX:X.heap[D]?=some (.deferred (some [])):=(hX.block D (Array.getElem?_eq_some_iff.1 D5.out).1).trans D5.out
            have hD9:w9.heap[D]?=some (.deferred (some [])):=(hg9.block D (Array.getElem?_eq_some_iff.1 hDX).1 (fun e1=>by
              rcases RX.1.2 with ⟨hv,_⟩ | ⟨g',cap',cur,hv,_,hh,_⟩
              · rw [hv] at e1;simp [Value.ownBlock] at e1
              · rw [hv] at e1
                have e':D=g':=by simpa [Value.ownBlock] using e1
                subst e'
                rw [hDX] at hh
                cases hh)).trans hDX
            have hDg:D≠gc:=fun e1=>by
              subst e1
              rw [show w9.heap[D]?=_ from C9] at hD9
              cases hD9
            have hs9:w.heap.size≤X.heap.size:=Nat.le_trans B5.out.size hX.size
            have hlow:Below w.heap.size w w9:=(B5.out.trans (hX.mono B5.out.size)).trans (owns_below RX.1 hg9 hs9)
            exact ⟨⟨⟨S9.cell 1 _ rfl,E9.cell 1 _ rfl⟩,C9.cell fr _ (by simpa using HU.out),C9.frozen fr,S10.cell 1 _ rfl,E10.cell 1 _ rfl⟩,U5.out.push hX HU.out HR.out R5.out ho9 hg9 hl9,S10,M10,((N5.out.next hX).apart AP hg9.size (by decide)).setO C9 (by decide),(OwnE.apart (G5.out.next hX) AP hg9.size (by decide)).setCell C9 (by decide),(Below.heap_setCell _ _ _ _ hDg).trans hD9,hlow.setCell (by show _≤gc;exact HGE.out.2.1) _⟩
          clear hb5
          have s1:=S5.out.cell 1 _ rfl
          have b1:=E5.out.cell 1 _ rfl
          have b0:=E5.out.cell 0 _ rfl
          go_wp2_with fail
          refine wp_region_noPanic ?_
          refine wp_region_any (by kernel_rfl) (wpAny_of_held (S:=(fun w'=>w'.cell? ⟨s,1,none⟩=some (.slice (some ⟨gc,0,none⟩) nn nn)∧w'.cell? ⟨be,1,none⟩=some (.string e.2))) _ _ _ _ ?_)
          have hHeld:(fun w'=>w'.cell? ⟨s,1,none⟩=some (.slice (some ⟨gc,0,none⟩) nn nn)∧w'.cell? ⟨be,1,none⟩=some (.string e.2)) w5.drew:=⟨s1,b1⟩
          change wpAnyH _ _ _ _ _ 20 #[false,false,false,false,false,false,false,false,false,false,false,false,false,false,false,false,false,false,false,false] _ w5.drew
          refine tkH 0 (v:=.pointer (some ⟨s,0,none⟩)) (by simp only [List.getElem?_toArray,List.getElem?_cons_zero];rfl) (by rfl) (fun w' hS=>by go_simp) hHeld ?_
          try simp only [sqP,rcSq]
          refine tkH 1 (v:=.pointer (some ⟨s,0,none⟩)) (by simp only [List.getElem?_toArray,List.getElem?_cons_succ,List.getElem?_cons_zero];rfl) (by rfl) (fun w' hS=>by go_simp) hHeld ?_
          try simp only [sqP,rcSq]
          refine tkH 2 (v:=.pointer (some ⟨s,1,none⟩)) (by simp only [List.getElem?_toArray,List.getElem?_cons_succ,List.getElem?_cons_zero];rfl) (by rfl) (fun w' hS=>by go_simp) hHeld ?_
          try simp only [sqP,rcSq]
          refine tkH 3 (v:=.slice (some ⟨gc,0,none⟩) nn nn) (by simp only [List.getElem?_toArray,List.getElem?_cons_succ,List.getElem?_cons_zero];rfl) (by rfl) (fun w' hS=>by obtain ⟨h0,h1⟩:=hS;go_simp) hHeld ?_
          try simp only [sqP,rcSq]
          refine tkH 4 (v:=.int .i64 (fr:Int)) (by simp only [List.getElem?_toArray,List.getElem?_cons_succ,List.getElem?_cons_zero];rfl) (by rfl) (fun w' hS=>by go_simp) hHeld ?_
          try simp only [sqP,rcSq]
          refine tkH 5 (v:=.pointer (some ⟨s,0,none⟩)) (by simp only [List.getElem?_toArray,List.getElem?_cons_succ,List.getElem?_cons_zero];rfl) (by rfl) (fun w' hS=>by go_simp) hHeld ?_
          try simp only [sqP,rcSq]
          refine tkH 6 (v:=.pointer (some ⟨s,0,none⟩)) (by simp only [List.getElem?_toArray,List.getElem?_cons_succ,List.getElem?_cons_zero];rfl) (by rfl) (fun w' hS=>by go_simp) hHeld ?_
          try simp only [sqP,rcSq]
          refine tkH 7 (v:=.pointer (some ⟨s,1,none⟩)) (by simp only [List.getElem?_toArray,List.getElem?_cons_succ,List.getElem?_cons_zero];rfl) (by rfl) (fun w' hS=>by go_simp) hHeld ?_
          try simp only [sqP,rcSq]
          refine tkH 8 (v:=.slice (some ⟨gc,0,none⟩) nn nn) (by simp only [List.getElem?_toArray,List.getElem?_cons_succ,List.getElem?_cons_zero];rfl) (by rfl) (fun w' hS=>by obtain ⟨h0,h1⟩:=hS;go_simp) hHeld ?_
          try simp only [sqP,rcSq]
          refine tkH 9 (v:=.int .i64 (fr:Int)) (by simp only [List.getElem?_toArray,List.getElem?_cons_succ,List.getElem?_cons_zero];rfl) (by rfl) (fun w' hS=>by go_simp) hHeld ?_
          try simp only [sqP,rcSq]
          refine tkH 10 (v:=.pointer (some ⟨gc,fr,none⟩)) (by simp only [List.getElem?_toArray,List.getElem?_cons_succ,List.getElem?_cons_zero];rfl) (by rfl) (fun w' hS=>by go_simp) hHeld ?_
          try simp only [sqP,rcSq]
          refine tkH 12 (v:=.pointer (some ⟨s,0,none⟩)) (by simp only [List.getElem?_toArray,List.getElem?_cons_succ,List.getElem?_cons_zero];rfl) (by rfl) (fun w' hS=>by go_simp) hHeld ?_
          try simp only [sqP,rcSq]
          refine tkH 13 (v:=.pointer (some ⟨be,1,none⟩)) (by simp only [List.getElem?_toArray,List.getElem?_cons_succ,List.getElem?_cons_zero];rfl) (by rfl) (fun w' hS=>by go_simp) hHeld ?_
          try simp only [sqP,rcSq]
          refine tkH 14 (v:=.string e.2) (by simp only [List.getElem?_toArray,List.getElem?_cons_succ,List.getElem?_cons_zero];rfl) (by rfl) (fun w' hS=>by obtain ⟨h0,h1⟩:=hS;go_simp) hHeld ?_
          try simp only [sqP,rcSq]
          refine twoH 11 15 (by simp only [List.getElem?_toArray,List.getElem?_cons_succ,List.getElem?_cons_zero];rfl) (by simp only [List.getElem?_toArray,List.getElem?_cons_succ,List.getElem?_cons_zero];rfl) (fun K hK=>?_) (fun K hK=>?_)
          · have K0:Hid (Below w5.heap.size w5 w5.drew):=(Below.refl _ _).drew
            have lc:=LU.out _ (Below.refl _ _)
            go_simp
            clear lc
            refine hK.out _ _ (CEL.out _ K0.out) (fun hHeld=>?_)
            clear hK K
            try simp only [rcSq]
            refine oneH 15 (by simp only [List.getElem?_toArray,List.getElem?_cons_succ,List.getElem?_cons_zero];rfl) (fun K hK=>?_)
            go_simp
            go_at_call 44
            refine (CPL.out _ ((Below.refl _ _).drew)).mono ?_
            rintro e w6 ⟨rfl,hb6⟩
            have K6:Hid (Below w5.heap.size w5 w6):=⟨hb6.os,hb6.tape,hb6.output,hb6.size,hb6.block⟩
            clear hb6
            refine hK.out _ _ (CEL.out _ K6.out) (fun hHeld=>?_)
            clear hK K
            try simp only [rcSq]
            refine oneH 16 (by simp only [List.getElem?_toArray,List.getElem?_cons_succ,List.getElem?_cons_zero];rfl) (fun K hK=>?_)
            go_simp
            have K7:Hid (Below w5.heap.size w5 (w6.alloc (.cells #[.int .i64 (to':Int)] 3))):=K6.out.alloc K6.out.size _
            refine hK.out _ _ (CEL.out _ K7.out) (fun hHeld=>?_)
            clear hK K
            try simp only [rcSq]
            refine oneH 17 (by simp only [List.getElem?_toArray,List.getElem?_cons_succ,List.getElem?_cons_zero];rfl) (fun K hK=>?_)
            refine step_append_intL (by rfl) _ _ 111 (by rfl) Tryz.underlying111 (R5.out.next K7.out) w6.heap.size to' (heap_alloc_new w6 _) (by rfl) (by rfl) (by omega) ?_
            intro g9 cap9 w9 ho9 hg9 hl9
            have A9:=AFT.out _ g9 cap9 w9 K7.out ho9 hg9 hl9
            refine hK.out _ _ A9.1.1 (fun hHeld=>?_)
            clear hK K ho9 hg9 hl9
            try simp only [sqP,rcSq]
            refine tkH 18 (v:=.pointer (some ⟨gc,fr,none⟩)) (by simp only [List.getElem?_toArray,List.getElem?_cons_succ,List.getElem?_cons_zero];rfl) (by rfl) (fun w' hS=>by go_simp) hHeld ?_
            try simp only [sqP,rcSq]
            refine oneH 19 (by simp only [List.getElem?_toArray,List.getElem?_cons_succ,List.getElem?_cons_zero];rfl) (fun K hK=>?_)
            have lc:=A9.1.2.1
            have lf:=A9.1.2.2.1
            go_simp
            refine hK.out _ _ A9.1.2.2.2 (fun hHeld=>?_)
            clear hK K lc lf
            try simp only [rcSq]
            refine wpAnyH_done (by kernel_rfl) ?_ _
            dsimp only [NoPanic]
            obtain ⟨-,a1,a2,a3,a4,a5,a6,a7⟩:=A9
            have FIN:Hid (CalR _ _ _ _∧Blk _ _ _ _∧Blk _ _ _ _∧OwnS _ _ _ _∧OwnE _ _ _ _∧_=_∧Below _ _ _):=⟨a1,a2,a3,a4,a5,a6,a7⟩
            clear a1 a2 a3 a4 a5 a6 a7
            go_wp2_with fail
            exact ⟨⟨k+1,_,by omega,by go_num,HNEX,FIN.out.1,FIN.out.2.1,FIN.out.2.2.1,FIN.out.2.2.2.1,FIN.out.2.2.2.2.1,FIN.out.2.2.2.2.2.1,FIN.out.2.2.2.2.2.2⟩,by simp [intOf];omega⟩
          · go_simp
            go_at_call 44
            refine (CPL.out _ ((Below.refl _ _).drew)).mono ?_
            rintro e w6 ⟨rfl,hb6⟩
            have K6:Hid (Below w5.heap.size w5 w6):=⟨hb6.os,hb6.tape,hb6.output,hb6.size,hb6.block⟩
            clear hb6
            refine hK.out _ _ (CEL.out _ K6.out) (fun hHeld=>?_)
            clear hK K
            try simp only [rcSq]
            refine twoH 11 16 (by simp only [List.getElem?_toArray,List.getElem?_cons_succ,List.getElem?_cons_zero];rfl) (by simp only [List.getElem?_toArray,List.getElem?_cons_succ,List.getElem?_cons_zero];rfl) (fun K hK=>?_) (fun K hK=>?_)
            · have lc:=LU.out _ K6.out
              go_simp
              clear lc
              refine hK.out _ _ (CEL.out _ K6.out) (fun hHeld=>?_)
              clear hK K
              try simp only [rcSq]
              refine oneH 16 (by simp only [List.getElem?_toArray,List.getElem?_cons_succ,List.getElem?_cons_zero];rfl) (fun K hK=>?_)
              go_simp
              have K7:Hid (Below w5.heap.size w5 (w6.alloc (.cells #[.int .i64 (to':Int)] 3))):=K6.out.alloc K6.out.size _
              refine hK.out _ _ (CEL.out _ K7.out) (fun hHeld=>?_)
              clear hK K
              try simp only [rcSq]
              refine oneH 17 (by simp only [List.getElem?_toArray,List.getElem?_cons_succ,List.getElem?_cons_zero];rfl) (fun K hK=>?_)
              refine step_append_intL (by rfl) _ _ 111 (by rfl) Tryz.underlying111 (R5.out.next K7.out) w6.heap.size to' (heap_alloc_new w6 _) (by rfl) (by rfl) (by omega) ?_
              intro g9 cap9 w9 ho9 hg9 hl9
              have A9:=AFT.out _ g9 cap9 w9 K7.out ho9 hg9 hl9
              refine hK.out _ _ A9.1.1 (fun hHeld=>?_)
              clear hK K ho9 hg9 hl9
              try simp only [sqP,rcSq]
              refine tkH 18 (v:=.pointer (some ⟨gc,fr,none⟩)) (by simp only [List.getElem?_toArray,List.getElem?_cons_succ,List.getElem?_cons_zero];rfl) (by rfl) (fun w' hS=>by go_simp) hHeld ?_
              try simp only [sqP,rcSq]
              refine oneH 19 (by simp only [List.getElem?_toArray,List.getElem?_cons_succ,List.getElem?_cons_zero];rfl) (fun K hK=>?_)
              have lc:=A9.1.2.1
              have lf:=A9.1.2.2.1
              go_simp
              refine hK.out _ _ A9.1.2.2.2 (fun hHeld=>?_)
              clear hK K lc lf
              try simp only [rcSq]
              refine wpAnyH_done (by kernel_rfl) ?_ _
              dsimp only [NoPanic]
              obtain ⟨-,a1,a2,a3,a4,a5,a6,a7⟩:=A9
              have FIN:Hid (CalR _ _ _ _∧Blk _ _ _ _∧Blk _ _ _ _∧OwnS _ _ _ _∧OwnE _ _ _ _∧_=_∧Below _ _ _):=⟨a1,a2,a3,a4,a5,a6,a7⟩
              clear a1 a2 a3 a4 a5 a6 a7
              go_wp2_with fail
              exact ⟨⟨k+1,_,by omega,by go_num,HNEX,FIN.out.1,FIN.out.2.1,FIN.out.2.2.1,FIN.out.2.2.2.1,FIN.out.2.2.2.2.1,FIN.out.2.2.2.2.2.1,FIN.out.2.2.2.2.2.2⟩,by simp [intOf];omega⟩
            · go_simp
              have K7:Hid (Below w5.heap.size w5 (w6.alloc (.cells #[.int .i64 (to':Int)] 3))):=K6.out.alloc K6.out.size _
              refine hK.out _ _ (CEL.out _ K7.out) (fun hHeld=>?_)
              clear hK K
              try simp only [rcSq]
              refine oneH 11 (by simp only [List.getElem?_toArray,List.getElem?_cons_succ,List.getElem?_cons_zero];rfl) (fun K hK=>?_)
              have lc:=LU.out _ K7.out
              go_simp
              clear lc
              refine hK.out _ _ (CEL.out _ K7.out) (fun hHeld=>?_)
              clear hK K
              try simp only [rcSq]
              refine oneH 17 (by simp only [List.getElem?_toArray,List.getElem?_cons_succ,List.getElem?_cons_zero];rfl) (fun K hK=>?_)
              refine step_append_intL (by rfl) _ _ 111 (by rfl) Tryz.underlying111 (R5.out.next K7.out) w6.heap.size to' (heap_alloc_new w6 _) (by rfl) (by rfl) (by omega) ?_
              intro g9 cap9 w9 ho9 hg9 hl9
              have A9:=AFT.out _ g9 cap9 w9 K7.out ho9 hg9 hl9
              refine hK.out _ _ A9.1.1 (fun hHeld=>?_)
              clear hK K ho9 hg9 hl9
              try simp only [sqP,rcSq]
              refine tkH 18 (v:=.pointer (some ⟨gc,fr,none⟩)) (by simp only [List.getElem?_toArray,List.getElem?_cons_succ,List.getElem?_cons_zero];rfl) (by rfl) (fun w' hS=>by go_simp) hHeld ?_
              try simp only [sqP,rcSq]
              refine oneH 19 (by simp only [List.getElem?_toArray,List.getElem?_cons_succ,List.getElem?_cons_zero];rfl) (fun K hK=>?_)
              have lc:=A9.1.2.1
              have lf:=A9.1.2.2.1
              go_simp
              refine hK.out _ _ A9.1.2.2.2 (fun hHeld=>?_)
              clear hK K lc lf
              try simp only [rcSq]
              refine wpAnyH_done (by kernel_rfl) ?_ _
              dsimp only [NoPanic]
              obtain ⟨-,a1,a2,a3,a4,a5,a6,a7⟩:=A9
              have FIN:Hid (CalR _ _ _ _∧Blk _ _ _ _∧Blk _ _ _ _∧OwnS _ _ _ _∧OwnE _ _ _ _∧_=_∧Below _ _ _):=⟨a1,a2,a3,a4,a5,a6,a7⟩
              clear a1 a2 a3 a4 a5 a6 a7
              go_wp2_with fail
              exact ⟨⟨k+1,_,by omega,by go_num,HNEX,FIN.out.1,FIN.out.2.1,FIN.out.2.2.1,FIN.out.2.2.2.1,FIN.out.2.2.2.2.1,FIN.out.2.2.2.2.2.1,FIN.out.2.2.2.2.2.2⟩,by simp [intOf];omega⟩
        · have HCE:Hid (CalOf N E cl):=by
            have h1:=hca.out
            rw [List.take_of_length_le (by rw [HEL.out];omega)] at h1
            exact h1
          go_wp2_with fail
          have KC:=keepC_put hd.out (.deferred none)
          refine ⟨by simp,.inl ⟨_,_,rfl,run_takeDeferred hd.out,?_⟩⟩
          refine ⟨_,results_tmp rfl _ _ _,?_⟩
          rw [HNN.out,HNQ.out,HEE.out]
          refine ⟨s,gc,gm,pn,qn,cl,rfl,KC.blk hs.out,KC.cal hcr.out,HCE.out,KC.blk hm.out,⟨KC.owns ho.out.1,Nat.le_trans ho.out.2 KC.1⟩,HGE.out,hb.out.trans (below_put _ (Nat.le_trans BW.size hD))⟩
end
end Go.Proofs.YtonpgdfpgpepiaaGreatDoor
