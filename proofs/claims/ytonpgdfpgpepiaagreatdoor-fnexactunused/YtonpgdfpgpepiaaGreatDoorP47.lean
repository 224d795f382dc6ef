/-
  GraphImplD
-/
import Derived.Test.YtonpgdfpgpepiaaGreatDoorP42
import Derived.Test.YtonpgdfpgpepiaaGreatDoorP45
import Derived.Test.YtonpgdfpgpepiaaGreatDoorP23
set_option maxHeartbeats 16000000
set_option linter.unusedVariables false
set_option maxRecDepth 100000
namespace Go.Proofs.YtonpgdfpgpepiaaGreatDoor
open Go.ChangeShapes Go.WideShapes Go.ChangeAt Go.RowKit
section
open Go.Maps Go.WideMaps Go.Shelf
attribute [local go_sem] Oper.semAt_some
structure GrI (w:World) (bl:Nat) (W:World) (s:List Edge):Prop where
  ex:∃ v,Blk W bl #[v] 68∧OwnE W w.heap.size v s
  low:Below w.heap.size w W
theorem GrI.next {w:World} {bl:Nat} {A B:World} {s:List Edge} (h:GrI w bl A s) (hb:Below A.heap.size A B):GrI w bl B s:=by
  obtain ⟨v,h1,h2⟩:=h.ex
  exact ⟨⟨v,h1.next hb,h2.next hb⟩,h.low.trans (hb.mono h.low.size)⟩
theorem GrI.put {w:World} {bl:Nat} {A:World} {s:List Edge} {l:Nat} {o:Obj} {r:Loop} (h:GrI w bl A s) (hl:w.heap.size≤l) (ho:A.heap[l]?=some (.loop r)):GrI w bl (A.putObj l o) s:=by
  obtain ⟨v,h1,⟨⟨cells,g1,g2⟩,g3⟩⟩:=h.ex
  have hs:A.heap.size≤(A.putObj l o).heap.size:=by simp
  refine ⟨⟨v,(World.putObj_heap_other (fun e=>?_)).trans h1,⟨⟨cells,⟨g1.1,?_⟩,g2⟩,Nat.le_trans g3 hs⟩⟩,h.low.trans (below_put o hl)⟩
  · subst e
    rw [show A.heap[bl]?=_ from h1] at ho
    cases ho
  · rcases g1.2 with hn | ⟨g,cap,cur,hv,hB,hg,hr⟩
    · exact .inl hn
    · refine .inr ⟨g,cap,cur,hv,hB,(World.putObj_heap_other (fun e=>?_)).trans hg,hr⟩
      subst e
      rw [hg] at ho
      cases ho
theorem CellsAt.mono {w W:World} {d:Nat} {v:Value} {ms:List Md} {C:Nat→List Value × List Value} (h:CellsAt w (fun g=>g<w.heap.size) d v ms C) (hb:Below w.heap.size w W):CellsAt W (fun g=>g<w.heap.size) d v ms C:=by
  have hs:SameOn (fun g=>g<w.heap.size) w W:=⟨hb.size,fun g hg _=>hb.block g hg⟩
  intro a m hm b f hf
  obtain ⟨g,off,n,cap,e1,e2,e3,e4,e5,e6,fv,g5,o5,n5,c5,e7,e8,e9,e10,e11,e12,e13⟩:=h a m hm b f hf
  exact ⟨g,off,n,cap,e1,e2,Nat.lt_of_lt_of_le e3 hb.size,e4,fun j hj=>(hb.cell (p:=⟨g,_,none⟩) e2).trans (e5 j hj),e6.mono hs (fun _ h=>h),fv,g5,o5,n5,c5,e7,e8,e9,Nat.lt_of_lt_of_le e10 hb.size,e11,fun j hj=>(hb.cell (p:=⟨g5,_,none⟩) e9).trans (e12 j hj),e13.mono hs (fun _ h=>h)⟩
theorem progGraph_any (d:Nat) (w:World) (v:Value) (ms:List Md) (h:Rows w All 3 (HMd w All d) v ms) (hw:wtS (wtMd d) ms≤1048576) (hp:PowAt w) :
    Calls Tryz.prog 68 #[.agg #[v]] w fun e w'=>∃ u,e=.returned u∧OwnE w' w.heap.size u (compactE (sortE (edgesOf nmT d ms)))∧Below w.heap.size w w':=by
  have hrT:Rows w (fun g=>g<w.heap.size) 3 (HMd w (fun g=>g<w.heap.size) d) v ms:=Rows.tight h (fun _ _ h=>md_tight h)
  obtain ⟨C,hC⟩:=fcells_at hrT
  have HPG:Hid (2<w.heap.size):=powAt_lt hp
  have HP:Hid (PowAt w):=hp
  obtain ⟨p,cap,rfl,-⟩:=id h
  generalize hn:ms.length=n at *
  clear h hp
  refine (callsIn_wide (n:=7)).1 ?_
  refine callsIn_of_wp_marks Tryz.func68 rfl trivial ?_ rfl
  simp only [Tryz.ntmps68,List.size_toArray,List.length_cons,List.length_nil,Nat.reduceAdd,Nat.reduceSub,Array.replicate_succ,Array.replicate_zero,List.push_toArray,List.append_toArray,List.nil_append,List.cons_append]
  gi_wp2
  have BW:Below w.heap.size w (((w.alloc (.cells #[.slice p n cap] 52)).alloc (.cells #[] 70)).alloc (.cells #[.slice (some ⟨w.heap.size+1,0,none⟩) 0 0] 68)):=(((Below.refl _ _).alloc (Nat.le_refl _) _).alloc (by simp only [alloc_hs];omega) _).alloc (by simp only [alloc_hs];omega) _
  have bL:Blk (((w.alloc (.cells #[.slice p n cap] 52)).alloc (.cells #[] 70)).alloc (.cells #[.slice (some ⟨w.heap.size+1,0,none⟩) 0 0] 68)) (w.heap.size+1+1) #[.slice (some ⟨w.heap.size+1,0,none⟩) 0 0] 68:=by
    have:=Blk.new (w:=(w.alloc (.cells #[.slice p n cap] 52)).alloc (.cells #[] 70)) (cs:=#[.slice (some ⟨w.heap.size+1,0,none⟩) 0 0]) (t:=68)
    simp only [alloc_hs] at this
    exact this
  have oL:OwnE (((w.alloc (.cells #[.slice p n cap] 52)).alloc (.cells #[] 70)).alloc (.cells #[.slice (some ⟨w.heap.size+1,0,none⟩) 0 0] 68)) w.heap.size (.slice (some ⟨w.heap.size+1,0,none⟩) 0 0) []:=by
    have h1:=OwnG.fresh (w:=w.alloc (.cells #[.slice p n cap] 52)) (e:=70) (c:=2) (R:=HEd)
    simp only [alloc_hs] at h1
    exact (h1.next ((Below.refl _ _).alloc (Nat.le_refl _) _)).base (by omega)
  have hsz:(((w.alloc (.cells #[.slice p n cap] 52)).alloc (.cells #[] 70)).alloc (.cells #[.slice (some ⟨w.heap.size+1,0,none⟩) 0 0] 68)).heap.size=w.heap.size+3:=by simp only [alloc_hs]
  have HRT:Hid (Rows w (fun g=>g<w.heap.size) 3 (HMd w (fun g=>g<w.heap.size) d) (.slice p n cap) ms):=hrT
  have HCC:Hid (CellsAt w (fun g=>g<w.heap.size) d (.slice p n cap) ms C):=hC
  have HWS:Hid (wtS (wtMd d) ms≤1048576):=hw
  generalize hWW:(((w.alloc (.cells #[.slice p n cap] 52)).alloc (.cells #[] 70)).alloc (.cells #[.slice (some ⟨w.heap.size+1,0,none⟩) 0 0] 68))=w0 at *
  clear hrT hC hw hWW hn
  refine range_kg (ts:=[70,68]) rfl (by omega) (gf:=22) (bs:=#[.slice p n cap]) rfl trivial (enters_of Tryz.func22 (by kernel_rfl) rfl)
    (encs:=fun k=>#[.agg (C k).1.toArray,.agg (C k).2.toArray]) (fun _=>rfl) (offs ms ms.length) w.heap.size BW.size
    (fun l J W hW hJb hY h0=>by
      have hb:Below w.heap.size w W:=BW.trans (hW.mono BW.size)
      have hs:SameOn (fun g=>g<w.heap.size) w W:=⟨hb.size,fun g hg _=>hb.block g hg⟩
      exact funcs_in (by show _ ∉ _;decide) l w.heap.size d _ ms C W (HRT.out.mono hs (fun _ h=>h) (fun _ _ _ h=>h.mono hs (fun _ h=>h))) (HCC.out.mono hb) hb.size J hJb hY h0)
    (fun k W=>GrI w (w.heap.size+1+1) W (((pairL ms).take k).flatMap (edF d)))
    (fun k A B h hb=>h.next hb) (fun k A l o r h hl ho=>h.put (by omega) ho)
    (by simpa using (⟨⟨_,bL,oL⟩,BW⟩:GrI w (w.heap.size+1+1) w0 [])) ?round ?done
  case round =>
    rintro l k W hI hsW hk hl
    have HI:Hid (GrI w (w.heap.size+1+1) W (((pairL ms).take k).flatMap (edF d))):=hI
    obtain ⟨P,hP⟩:∃ P,(pairL ms)[k]?=some P:=⟨(pairL ms)[k]'(by rw [pairL_len];exact hk),List.getElem?_eq_getElem _⟩
    obtain ⟨a,b,hma,hfb,hab⟩:=pairL_at ms k P hP
    obtain ⟨m,f⟩:=P
    obtain ⟨g,off,n',cap',e1,e2,e3,e4,e5,e6,fv,g5,o5,n5,c5,e7,e8,e9,e10,e11,e12,e13⟩:=HCC.out a m hma b f hfb
    rw [hab] at e4 e5 e6 e7 e11 e12 e13
    have HMD:Hid (HMd w (fun g=>g<w.heap.size) d (C k).1 m):=e6
    have HFN:Hid (HFn w (fun g=>g<w.heap.size) d (C k).2 f):=e13
    obtain ⟨ev,fv',hc1,hms,⟨pe,ce,rfl,-⟩,⟨pf,cf,rfl,-⟩⟩:=e6
    obtain ⟨cv,hc2,hfs,hfa,hcl⟩:=e13
    obtain ⟨pc,cc,rfl,-⟩:=id hcl
    obtain ⟨hnm,hwf⟩:=pair_wt (d:=d) (List.mem_of_getElem? hP)
    rw [hc1,hc2]
    rw [hc1] at HMD
    rw [hc2] at HFN
    have HPK:Hid ((pairL ms)[k]?=some (m,f)):=hP
    have HFA:Hid (okI f.arity):=hfa
    simp only at hnm hwf
    have hnm':m.name.size≤1048576:=Nat.le_trans hnm HWS.out
    have hwf':wtFn d f≤1048576:=Nat.le_trans hwf HWS.out
    have hfn':f.name.size≤1048576:=by unfold wtFn at hwf';omega
    clear hI hma hfb hab e1 e2 e3 e4 e5 e7 e8 e9 e10 e11 e12 hc1 hc2 hms hfs hfa hcl hnm hwf hP fv g5 o5 n5 c5 g off n' cap' a b
    generalize m.exports.length=ne at *
    generalize m.funs.length=nf at *
    generalize hnc:f.clauses.length=nc at *
    gi_wp2
    refine ⟨((Below.refl _ _).alloc (Nat.le_refl _) _).alloc (by simp only [alloc_hs];omega) _,fun r o' hl'=>?_⟩
    have bM:=(Blk.new (w:=W) (cs:=#[.string m.name,.slice pe ne ce,.slice pf nf cf]) (t:=42)).alloc (o:=.cells #[.string f.name,.int .i64 f.arity,.slice pc nc cc] 46)
    have bF:=Blk.new (w:=W.alloc (.cells #[.string m.name,.slice pe ne ce,.slice pf nf cf] 42)) (cs:=#[.string f.name,.int .i64 f.arity,.slice pc nc cc]) (t:=46)
    simp only [alloc_hs] at bF
    have BA:Below W.heap.size W ((W.alloc (.cells #[.string m.name,.slice pe ne ce,.slice pf nf cf] 42)).alloc (.cells #[.string f.name,.int .i64 f.arity,.slice pc nc cc] 46)):=((Below.refl _ _).alloc (Nat.le_refl _) _).alloc (by simp only [alloc_hs];omega) _
    have I1:=HI.out.next BA
    generalize (W.alloc (.cells #[.string m.name,.slice pe ne ce,.slice pf nf cf] 42)).alloc (.cells #[.string f.name,.int .i64 f.arity,.slice pc nc cc] 46)=W' at *
    have I2:Hid (GrI w (w.heap.size+1+1) (W'.putObj l o') (((pairL ms).take k).flatMap (edF d))):=I1.put (by omega) hl'
    have hneM:W.heap.size≠l:=fun e=>by
      have:=(show W'.heap[W.heap.size]?=_ from bM)
      rw [e,hl'] at this
      cases this
    have hneF:W.heap.size+1≠l:=fun e=>by
      have:=(show W'.heap[W.heap.size+1]?=_ from bF)
      rw [e,hl'] at this
      cases this
    have bM2:Hid (Blk (W'.putObj l o') W.heap.size #[.string m.name,.slice pe ne ce,.slice pf nf cf] 42):=(World.putObj_heap_other hneM).trans bM
    have bF2:Hid (Blk (W'.putObj l o') (W.heap.size+1) #[.string f.name,.int .i64 f.arity,.slice pc nc cc] 46):=(World.putObj_heap_other hneF).trans bF
    generalize W'.putObj l o'=W2 at *
    clear bM bF BA I1 hl' hneM hneF
    have m0:=bM2.out.cell 0 _ rfl
    have f0:=bF2.out.cell 0 _ rfl
    have f1:=bF2.out.cell 1 _ rfl
    have f2:=bF2.out.cell 2 _ rfl
    obtain ⟨NM,hNM⟩:∃ NM,NM=nmT m.name f.name f.arity:=⟨_,rfl⟩
    have CEL:Hid (∀ w',Below W2.heap.size W2 w'→(fun w'=>w'.cell? ⟨W.heap.size,0,none⟩=some (.string m.name)∧w'.cell? ⟨W.heap.size+1,0,none⟩=some (.string f.name)∧w'.cell? ⟨W.heap.size+1,1,none⟩=some (.int .i64 f.arity)∧w'.cell? ⟨W.heap.size+1,2,none⟩=some (.slice pc nc cc)) w'):=fun w' hb=>⟨cell_next hb m0,cell_next hb f0,cell_next hb f1,cell_next hb f2⟩
    have HPW:Hid (∀ w',Below W2.heap.size W2 w'→PowAt w'):=fun w' hb=>powAt_low HP.out HPG.out ((I2.out.low.trans (hb.mono I2.out.low.size)).block _ HPG.out)
    have CF:Hid (∀ w',Below W2.heap.size W2 w'→Calls Tryz.prog 23 #[.string m.name,.agg #[.string f.name,.int .i64 f.arity]] w' fun e w''=>e=.returned (.string NM)∧Below w'.heap.size w' w''):=fun w' hb=>by rw [hNM];exact fullName_any w' m.name f.name f.arity hnm' hfn' HFA.out (HPW.out w' hb)
    have HNM:Hid (NM=nmT m.name f.name f.arity):=hNM
    clear hNM
    gi_wp2
    refine wpIn_mono (Q:=Exit.then (fun a' w'=>Hid (∃ bf,Blk w' bf #[.string NM] 9∧Below W2.heap.size W2 w'∧a'=⟨#[.agg #[.slice p n cap],.pointer (some ⟨w.heap.size,0,none⟩),.slice none 0 0,.pointer (some ⟨w.heap.size+1+1,0,none⟩),.pointer (some ⟨W.heap.size,0,none⟩),.pointer (some ⟨W.heap.size+1,0,none⟩),.pointer (some ⟨bf,0,none⟩),.slice (some ⟨w.heap.size+1,0,none⟩) 0 0,.pointer (some ⟨w.heap.size,0,none⟩),.slice p n cap,.func (.func 22) #[.slice p n cap] #[],.agg #[.string m.name,.slice pe ne ce,.slice pf nf cf],.agg #[.string f.name,.int .i64 f.arity,.slice pc nc cc],.pointer (some ⟨W.heap.size,0,none⟩),.string m.name,.agg #[.string f.name,.int .i64 f.arity,.slice pc nc cc],.agg #[.string f.name,.int .i64 f.arity],.string NM,undef,undef,undef,undef,undef,undef,undef],[]⟩)) (fun _ _ _=>False)) ?reg ?rest
    case reg =>
      refine wpIn_region_held_drew (S:=(fun w'=>w'.cell? ⟨W.heap.size,0,none⟩=some (.string m.name)∧w'.cell? ⟨W.heap.size+1,0,none⟩=some (.string f.name)∧w'.cell? ⟨W.heap.size+1,1,none⟩=some (.int .i64 f.arity)∧w'.cell? ⟨W.heap.size+1,2,none⟩=some (.slice pc nc cc))) (by kernel_rfl) ?nd ?lo ⟨m0,f0,f1,f2⟩ (fun hHeld=>?_)
      case nd =>
        intro i o ho c e
        match i,ho with
        | 0,ho=>cases ho;cases e
        | 1,ho=>cases ho;cases e
        | 2,ho=>cases ho;cases e
        | 3,ho=>cases ho;cases e
        | 4,ho=>cases ho;cases e
        | 5,ho=>cases ho;cases e
        | 6,ho=>cases ho;cases e
        | i+7,ho=>simp at ho
      case lo =>
        rintro ⟨a,w,h⟩
        exact h
      refine tkH 0 (v:=.pointer (some ⟨W.heap.size,0,none⟩)) rfl (by rfl) (fun w' hS=>by go_simp) hHeld ?_
      try simp only [sqP]
      refine tkH 1 (v:=.string m.name) rfl (by rfl) (fun w' hS=>by obtain ⟨h0,h1,h2,h3⟩:=hS;go_simp) hHeld ?_
      try simp only [sqP]
      refine tkH 2 (v:=.agg #[.string f.name,.int .i64 f.arity,.slice pc nc cc]) rfl (by rfl) (fun w' hS=>by obtain ⟨h0,h1,h2,h3⟩:=hS;go_simp) hHeld ?_
      try simp only [sqP]
      refine twoH 3 5 rfl rfl (fun K hK=>?_) (fun K hK=>?_)
      · go_simp
        go_at_call 24
        refine (refOf_any f.name f.arity pc nc cc _).mono ?_
        rintro e w3 ⟨rfl,hb3⟩
        have K3:Hid (Below W2.heap.size W2 w3):=⟨hb3.os,hb3.tape,hb3.output,hb3.size,hb3.block⟩
        clear hb3
        refine hK.out _ _ (CEL.out _ K3.out) (fun hHeld3=>?_)
        clear hK K
        try simp only [sqP]
        refine twoH 4 5 rfl rfl (fun K hK=>?_) (fun K hK=>?_)
        · go_simp
          go_at_call 23
          refine (CF.out _ K3.out).mono ?_
          rintro e w4 ⟨rfl,hb4⟩
          have K4:Hid (Below W2.heap.size W2 w4):=K3.out.trans (hb4.mono K3.out.size)
          clear hb4
          refine hK.out _ _ (CEL.out _ K4.out) (fun hHeld4=>?_)
          clear hK K
          try simp only [sqP]
          refine oneH 5 rfl (fun K hK=>?_)
          go_simp
          have K5:Hid (Below W2.heap.size W2 (w4.alloc (.cells #[.string ⟨#[]⟩] 9))):=K4.out.alloc K4.out.size _
          have bx:Hid (Blk (w4.alloc (.cells #[.string ⟨#[]⟩] 9)) w4.heap.size #[.string ⟨#[]⟩] 9):=Blk.new
          refine hK.out _ _ (CEL.out _ K5.out) (fun hHeld5=>?_)
          clear hK K
          try simp only [sqP]
          have c0:=bx.out.cell 0 _ rfl
          have z0:=bx.out.frozen 0
          refine oneH 6 rfl (fun K hK=>?_)
          go_simp
          have K6:Hid (Below W2.heap.size W2 (w4.alloc (.cells #[.string NM] 9))):=K4.out.alloc K4.out.size _
          refine hK.out _ _ (CEL.out _ K6.out) (fun hHeld6=>?_)
          clear hK K
          try simp only [sqP]
          refine wpAnyH_done (by kernel_rfl) ?_ _
          exact ⟨w4.heap.size,Blk.new,K6.out,rfl⟩
        · go_simp
          have K5:Hid (Below W2.heap.size W2 (w3.alloc (.cells #[.string ⟨#[]⟩] 9))):=K3.out.alloc K3.out.size _
          have bx:Hid (Blk (w3.alloc (.cells #[.string ⟨#[]⟩] 9)) w3.heap.size #[.string ⟨#[]⟩] 9):=Blk.new
          refine hK.out _ _ (CEL.out _ K5.out) (fun hHeld5=>?_)
          clear hK K
          try simp only [sqP]
          refine oneH 4 rfl (fun K hK=>?_)
          go_simp
          go_at_call 23
          refine (CF.out _ K5.out).mono ?_
          rintro e w4 ⟨rfl,hb4⟩
          have K4:Hid (Below W2.heap.size W2 w4):=K5.out.trans (hb4.mono K5.out.size)
          have bx4:Hid (Blk w4 w3.heap.size #[.string ⟨#[]⟩] 9):=bx.out.next hb4
          clear hb4
          refine hK.out _ _ (CEL.out _ K4.out) (fun hHeld4=>?_)
          clear hK K
          try simp only [sqP]
          have c0:=bx4.out.cell 0 _ rfl
          have z0:=bx4.out.frozen 0
          refine oneH 6 rfl (fun K hK=>?_)
          go_simp
          have K6:Hid (Below W2.heap.size W2 (w4.setCell ⟨w3.heap.size,0,none⟩ (.string NM))):=K4.out.setCell (by show _≤w3.heap.size;exact K3.out.size) _
          refine hK.out _ _ (CEL.out _ K6.out) (fun hHeld6=>?_)
          clear hK K
          try simp only [sqP]
          refine wpAnyH_done (by kernel_rfl) ?_ _
          exact ⟨w3.heap.size,bx4.out.same rfl,K6.out,rfl⟩
      · go_simp
        have K5:Hid (Below W2.heap.size W2 (W2.alloc (.cells #[.string ⟨#[]⟩] 9)).drew):=((Below.refl _ _).alloc (Nat.le_refl _) _).drew
        have bx:Hid (Blk (W2.alloc (.cells #[.string ⟨#[]⟩] 9)).drew W2.heap.size #[.string ⟨#[]⟩] 9):=Blk.new (w:=W2)
        refine hK.out _ _ (CEL.out _ K5.out) (fun hHeld5=>?_)
        clear hK K
        try simp only [sqP]
        refine oneH 3 rfl (fun K hK=>?_)
        go_simp
        go_at_call 24
        refine (refOf_any f.name f.arity pc nc cc _).mono ?_
        rintro e w3 ⟨rfl,hb3⟩
        have K3:Hid (Below W2.heap.size W2 w3):=K5.out.trans (hb3.mono K5.out.size)
        have bx3:Hid (Blk w3 W2.heap.size #[.string ⟨#[]⟩] 9):=bx.out.next hb3
        clear hb3
        refine hK.out _ _ (CEL.out _ K3.out) (fun hHeld3=>?_)
        clear hK K
        try simp only [sqP]
        refine oneH 4 rfl (fun K hK=>?_)
        go_simp
        go_at_call 23
        refine (CF.out _ K3.out).mono ?_
        rintro e w4 ⟨rfl,hb4⟩
        have K4:Hid (Below W2.heap.size W2 w4):=K3.out.trans (hb4.mono K3.out.size)
        have bx4:Hid (Blk w4 W2.heap.size #[.string ⟨#[]⟩] 9):=bx3.out.next hb4
        clear hb4
        refine hK.out _ _ (CEL.out _ K4.out) (fun hHeld4=>?_)
        clear hK K
        try simp only [sqP]
        have c0:=bx4.out.cell 0 _ rfl
        have z0:=bx4.out.frozen 0
        refine oneH 6 rfl (fun K hK=>?_)
        go_simp
        have K6:Hid (Below W2.heap.size W2 (w4.setCell ⟨W2.heap.size,0,none⟩ (.string NM))):=K4.out.setCell (Nat.le_refl _) _
        refine hK.out _ _ (CEL.out _ K6.out) (fun hHeld6=>?_)
        clear hK K
        try simp only [sqP]
        refine wpAnyH_done (by kernel_rfl) ?_ _
        exact ⟨W2.heap.size,bx4.out.same rfl,K6.out,rfl⟩
    case rest =>
      rintro e a' V hp
      cases e with
      | normal =>
        obtain ⟨bf,hbF,hKF,rfl⟩:=hp.out
        have BFx:Hid (Blk V bf #[.string NM] 9):=hbF
        have KF:Hid (Below W2.heap.size W2 V):=hKF
        have I3:Hid (GrI w (w.heap.size+1+1) V (((pairL ms).take k).flatMap (edF d))):=I2.out.next hKF
        have bM3:Hid (Blk V W.heap.size #[.string m.name,.slice pe ne ce,.slice pf nf cf] 42):=bM2.out.next hKF
        have bF3:Hid (Blk V (W.heap.size+1) #[.string f.name,.int .i64 f.arity,.slice pc nc cc] 46):=bF2.out.next hKF
        clear hp hbF hKF m0 f0 f1 f2
        have f0:=bF3.out.cell 0 _ rfl
        have f1:=bF3.out.cell 1 _ rfl
        have f2:=bF3.out.cell 2 _ rfl
        obtain ⟨v,hlv,hov⟩:=I3.out.ex
        have hlow:=I3.out.low
        have hsm:SameOn (fun g=>g<w.heap.size) w V:=⟨hlow.size,fun g hg _=>hlow.block g hg⟩
        have GI:Hid (GcI d w.heap.size W.heap.size (w.heap.size+1+1) bf #[.string m.name,.slice pe ne ce,.slice pf nf cf] m NM V v (((pairL ms).take k).flatMap (edF d))) :=
          ⟨bM3.out,hlv,BFx.out,hov,HMD.out.mono hsm (fun _ h=>h),powAt_low HP.out HPG.out (hlow.block _ HPG.out),HPG.out,by omega⟩
        obtain ⟨cv,hcv,-,-,hcl⟩:=HFN.out
        simp only [List.cons.injEq,true_and,and_true] at hcv
        subst hcv
        have RC:Hid (Rows V (fun g=>g<w.heap.size) 2 (HCl V (fun g=>g<w.heap.size) (HEx V (fun g=>g<w.heap.size) d)) (.slice pc nc cc) f.clauses):=hcl.mono hsm (fun _ h=>h) (fun _ _ _ h=>h.mono hsm (fun _ h=>h) (fun _ _=>HEx.mono hsm (fun _ h=>h)))
        have RU:Hid (Runs okG (stH m NM) (((pairL ms).take k).flatMap (edF d)) (f.clauses.flatMap fun c=>c.2.flatMap (preX d))):=by
          refine runsG m NM (preL d f) _ ?_ (preL_small hwf')
          have h1:=edK_len d ((pairL ms).take k)
          have h2:((((pairL ms).take (k+1)).map fun p=>(preL d p.2).length).sum)=(((pairL ms).take k).map fun p=>(preL d p.2).length).sum+(preL d f).length:=sum_take_succ (fun p:Md × Fn'=>(preL d p.2).length) (pairL ms) k (m,f) HPK.out
          have h3:=sum_take_le (fun p:Md × Fn'=>(preL d p.2).length) (pairL ms) (k+1)
          have h4:=pre_sum d ms
          have h5:=HWS.out
          omega
        have HE:Hid (((pairL ms).take (k+1)).flatMap (edF d)=(f.clauses.flatMap fun c=>c.2.flatMap (preX d)).foldl (stH m NM) (((pairL ms).take k).flatMap (edF d))):=by
          show _=_
          rw [stH_fold,List.take_add_one,HPK.out,HNM.out]
          simp [edF,preL]
        clear hlv hov hlow hsm hcl
        have hfE:(Fence.wide).fn 104:=trivial
        gi_wp2_with (gi_at_call 104;refine (CallsIn.inRound l ((callsIn_wide (n:=7 - 1 - 1 - 1)).2 (geachCall_any d w.heap.size W.heap.size (w.heap.size+1+1) bf pe ne ce pf nf cf m NM f.name f.arity pc nc cc hnm' V _ v f.clauses GI.out RC.out RU.out))).mono ?_;rintro e w9 ⟨rfl,v9,i9,m9⟩)
        have hMlo:∀ g,MvG (w.heap.size+1+1) v g→w.heap.size≤g:=fun g hg=>by
          rcases hg with hg | hg
          · omega
          · obtain ⟨⟨cells,g1,g2⟩,g3⟩:=GI.out.own
            exact (g1.lt g hg).1
        have hlow9:Below w.heap.size V w9:=m9.below hMlo I3.out.low.size
        refine ⟨⟨⟨v9,i9.l,by rw [HE.out];exact i9.own⟩,I3.out.low.trans hlow9⟩,⟨(KF.out.mono I2.out.low.size).trans hlow9,fun b o ho hn=>?_⟩⟩
        have hbl:=(Array.getElem?_eq_some_iff.1 ho).1
        have hV:V.heap[b]?=some o:=(KF.out.block b hbl).trans ho
        refine (m9.block b (Array.getElem?_eq_some_iff.1 hV).1 (fun hM=>?_)).trans hV
        rcases hM with hM | hM
        · subst hM
          have:=(show V.heap[w.heap.size+1+1]?=_ from GI.out.l)
          rw [hV] at this
          exact hn _ _ _ (Option.some.inj this) (by simp)
        · obtain ⟨⟨cells,g1,g2⟩,g3⟩:=GI.out.own
          rcases g1.2 with ⟨hv,_⟩ | ⟨g',cap',cur,hv,_,hg,_⟩
          · rw [hv] at hM;cases hM
          · rw [hv] at hM
            have e:g'=b:=by simpa [Value.ownBlock] using hM
            subst e
            rw [hV] at hg
            exact hn _ _ _ (Option.some.inj hg) (by simp)
      | _=>exact hp.elim
  case done =>
    intro D W hD hI hK
    obtain ⟨v,hlv,hov⟩:=hI.ex
    have HEL:Hid (((pairL ms).take (offs ms ms.length)).flatMap (edF d)=edgesOf nmT d ms):=by
      show _=_
      rw [edges_pairs,List.take_of_length_le (by rw [pairL_len];exact Nat.le_refl _)]
    rw [HEL.out] at hov
    have HLN:Hid ((edgesOf nmT d ms).length≤1048576):=by
      show _≤_
      rw [edges_pairs]
      exact Nat.le_trans (Nat.le_trans (edK_len d _) (pre_sum d ms)) HWS.out
    have HSL:Hid ((sortE (edgesOf nmT d ms)).length≤1048576):=by show _≤_;rw [(sortE_perm _).length_eq];exact HLN.out
    have HLV:Hid (Blk W (w.heap.size+1+1) #[v] 68):=hlv
    have HOV:Hid (OwnE W w.heap.size v (edgesOf nmT d ms)):=hov
    have HLO:Hid (Below w.heap.size w W):=hI.low
    have HDD:Hid (W.heap[D]?=some (.deferred (some []))):=hK
    have l0:=hlv.cell 0 _ rfl
    have hfS:(Fence.wide).fn 110:=trivial
    have hfC:(Fence.wide).fn 112:=trivial
    clear hI hlv hov hK
    gi_wp2_with (first
      | (gi_at_call 110;refine ((callsIn_wide (n:=6)).2 (sortEdges_any W w.heap.size v _ HOV.out HLN.out)).mono ?_;rintro e w2 ⟨rfl,o2,b2,ap2,hf2⟩;have HF2:Hid (∀ a,a<W.heap.size→v.ownBlock≠some a→w2.heap[a]?=W.heap[a]?):=hf2;have O2:Hid (OwnE w2 w.heap.size v (sortE (edgesOf nmT d ms))):=o2;have B2:Hid (Below w.heap.size W w2):=b2;have AP2:Hid (ApartE 70 W w2):=ap2;have l2:=(ap2.blk HLV.out (by decide)).cell 0 _ rfl;clear o2 b2 ap2 hf2)
      | (gi_at_call 112;refine ((callsIn_wide (n:=6)).2 (compact_any w2 w.heap.size v _ O2.out HSL.out)).mono ?_;rintro e w3 ⟨u3,rfl,o3,b3,hf3⟩))
    have hDl:=(Array.getElem?_eq_some_iff.1 HDD.out).1
    have hDv:v.ownBlock≠some D:=fun e=>by
      obtain ⟨⟨cells,g1,g2⟩,g3⟩:=HOV.out
      rcases g1.2 with ⟨hv,_⟩ | ⟨g',cap',cur,hv,_,hg,_⟩
      · rw [hv] at e;cases e
      · rw [hv] at e
        have e':g'=D:=by simpa [Value.ownBlock] using e
        subst e'
        rw [HDD.out] at hg
        cases hg
    have hD2:w2.heap[D]?=some (.deferred (some [])):=(HF2.out D hDl hDv).trans HDD.out
    have hD3:w3.heap[D]?=some (.deferred (some [])):=(hf3 D (Array.getElem?_eq_some_iff.1 hD2).1 hDv).trans hD2
    have hDu:u3.ownBlock≠some D:=fun e=>by
      obtain ⟨⟨cells,g1,g2⟩,g3⟩:=o3
      rcases g1.2 with ⟨hv,_⟩ | ⟨g',cap',cur,hv,_,hg,_⟩
      · rw [hv] at e;cases e
      · rw [hv] at e
        have e':g'=D:=by simpa [Value.ownBlock] using e
        subst e'
        rw [hD3] at hg
        cases hg
    refine ⟨by simp,.inl ⟨_,_,rfl,run_takeDeferred hD3,?_⟩⟩
    have hp:Below w.heap.size w3 (w3.putObj D (.deferred none)):=below_put _ (by omega)
    refine ⟨_,results_tmp rfl _ _ _,u3,rfl,?_,((HLO.out.trans B2.out).trans b3).trans hp⟩
    obtain ⟨⟨cells,g1,g2⟩,g3⟩:=o3
    refine ⟨⟨cells,⟨g1.1,?_⟩,g2⟩,Nat.le_trans g3 hp.size⟩
    rcases g1.2 with hn | ⟨g',cap',cur,hv,hB,hg,hr⟩
    · exact .inl hn
    · refine .inr ⟨g',cap',cur,hv,hB,(World.putObj_heap_other (fun e=>hDu (by rw [hv,e];rfl))).trans hg,hr⟩
end
end Go.Proofs.YtonpgdfpgpepiaaGreatDoor
