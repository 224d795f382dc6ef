/-
  CpMod
-/
import Derived.Test.YtefpgpbbgclemaaGreatDoorP32
import Derived.Test.YtefpgpbbgclemaaGreatDoorP22
import Derived.Test.YtefpgpbbgclemaaGreatDoorP17
set_option maxHeartbeats 16000000
set_option linter.unusedVariables false
set_option maxRecDepth 100000
namespace Go.Proofs.YtefpgpbbgclemaaGreatDoor
open Go.ChangeShapes Go.WideShapes Go.ChangeAt Go.RowKit
theorem refs_own {w:World} {B:Nat} {v:Value} {n d:Nat} {cells:List Value} {l:List Rf} (h:w.ownsRow B 89 2 v n cells) (hc:CellsR 2 HRf cells l) (hn:n=l.length) :
    ∃ fe,ORows w 89 2 (ORf w d) v l fe∧fe.Nodup∧∀ a ∈ fe,B≤a∧a<w.heap.size∧∃ cur,w.heap[a]?=some (.cells cur 89 (0,0)):=by
  subst hn
  by_cases hne:l = []
  · subst hne
    refine ⟨[],.inl ⟨rfl,rfl,?_⟩,by simp,fun a ha=>by simp at ha⟩
    rcases h.2 with ⟨hv,hn⟩ | ⟨g,cap,cur,hv,hb,hg,hc',hm,hr⟩
    · exact ⟨none,0,hv,Nat.zero_le _⟩
    · exact ⟨_,cap,hv,hm⟩
  · rcases h.2 with ⟨hv,hn⟩ | ⟨g,cap,cur,hv,hb,hg,hr⟩
    · exact absurd (List.length_eq_zero_iff.1 hn) hne
    · refine ⟨[g],.inr ⟨hne,cells,g,cap,l.map (fun _=>[]),⟨h.1,.inr ⟨g,cap,cur,hv,Nat.zero_le _,hg,hr⟩⟩,hv,by simp,?_,fun i x f hi hf=>?_⟩,by simp,fun a ha=>?_⟩
      · have:(l.map (fun _=>([]:List Nat))).flatten = []:=by
          rw [List.flatten_eq_nil_iff];intro x hx;simp at hx;exact hx.2
        rw [this]
      · rw [List.getElem?_map,hi] at hf
        simp at hf;subst hf
        obtain ⟨cs,h1,h2,h3⟩:=hc.2 i x hi
        exact ⟨cs,h1,h2,h3,rfl⟩
      · simp at ha;subst ha
        exact ⟨hb,(Array.getElem?_eq_some_iff.1 hg).1,cur,hg⟩
theorem owns_lower {w:World} {B B':Nat} {e:TypeId} {c n:Nat} {v:Value} {xs:List Value} (h:w.ownsRow B e c v n xs) (hB:B'≤B):w.ownsRow B' e c v n xs:=by
  refine ⟨h.1,?_⟩
  rcases h.2 with hn | ⟨g,cap,cur,hv,hb,hr⟩
  · exact .inl hn
  · exact .inr ⟨g,cap,cur,hv,Nat.le_trans hB hb,hr⟩
theorem rf_one (cs:List Value) (y:Rf) (h:HRf cs y):∀ q ∈ cs,q.oneCell'=true:=by
  obtain ⟨rfl,-⟩:=h
  simp [Value.oneCell']
theorem refs_rows {w w':World} {v:Value} {l:List Rf} (h:Rows w All 2 HRf v l) (hb:Below w.heap.size w w'):Rows w' All 2 HRf v l:=h.mono (SameOn.of_below hb) (fun _ h=>h) (fun _ _ _ h=>h)
structure MidM (w V:World) (d:Nat) (E R:Array Value) (es:List Rf) (fe:List Nat) (ob:Nat) (ev:Value):Prop where
  bel:Below w.heap.size w V
  box:Blk V w.heap.size E 47
  res:Blk V (w.heap.size+1) #[.string ⟨#[]⟩,.slice none 0 0,.slice none 0 0] 47
  out:Blk V ob R 47
  exps:ORows V 89 2 (ORf V d) ev es fe
  nd:fe.Nodup
  rg:∀ a ∈ fe,w.heap.size+2≤a∧a<V.heap.size∧a≠ob
  obl:w.heap.size+2≤ob
theorem MidM.turn {w V V':World} {d:Nat} {E R R':Array Value} {es:List Rf} {fe:List Nat} {ob:Nat} {ev:Value} (h:MidM w V d E R es fe ob ev) (ho:Off [ob] V V') (hR:Blk V' ob R' 47):MidM w V' d E R' es fe ob ev:=by
  have hb:=h.box.lt
  have hr:=h.res.lt
  have hl:=h.obl
  have kk:KeepOn fe V V':=fun a ha=>ho.block a (h.rg a ha).2.1 (by simp [(h.rg a ha).2.2])
  exact ⟨⟨ho.os.trans h.bel.os,ho.tape.trans h.bel.tape,ho.output.trans h.bel.output,Nat.le_trans h.bel.size ho.size,fun a ha=>(ho.block a (Nat.lt_of_lt_of_le ha h.bel.size) (by simp;omega)).trans (h.bel.block a ha)⟩,
    (ho.block _ hb (by simp;omega)).trans h.box,(ho.block _ hr (by simp;omega)).trans h.res,hR,h.exps.keep kk (fun cs x f _ hs h=>h),h.nd,fun a ha=>⟨(h.rg a ha).1,Nat.lt_of_lt_of_le (h.rg a ha).2.1 ho.size,(h.rg a ha).2.2⟩,hl⟩
theorem off_set3 {V:World} {ob j:Nat} (v:Value):Off [ob] V (V.setCell ⟨ob,j,none⟩ v) :=
  ⟨by simp [World.setCell],by simp [World.setCell],by simp [World.setCell],by simp [World.setCell],fun a _ hn=>Below.heap_setCell _ _ _ _ (by simpa using hn)⟩
theorem offB_set3 {V u:World} {ob j N:Nat} (h:OffB ob N V u) (v:Value):OffB ob N V (u.setCell ⟨ob,j,none⟩ v) :=
  ⟨(by simp [World.setCell]:(u.setCell ⟨ob,j,none⟩ v).os=u.os).trans h.os,(by simp [World.setCell]:(u.setCell ⟨ob,j,none⟩ v).tape=u.tape).trans h.tape,(by simp [World.setCell]:(u.setCell ⟨ob,j,none⟩ v).output=u.output).trans h.output,Nat.le_trans h.size (by simp [World.setCell]),fun a h1 h2=>(Below.heap_setCell _ _ _ _ h2).trans (h.block a h1 h2)⟩
namespace CpU
def ModS (d:Nat):Prop:=∀ (w:World) (cs:List Value) (x:Md),HMd w All d cs x→wtMd d x≤1048576 →
  Calls Tryz.prog 34 #[.agg cs.toArray] w (ResO w fun w' u fp=>∃ cs',u=.agg cs'.toArray∧OMd w' d cs' (mapM (fT ftU) d x) fp)
def ModsS (d:Nat):Prop:=∀ (w:World) (v:Value) (xs:List Md),Rows w All 3 (HMd w All d) v xs→wtS (wtMd d) xs≤1048576 →
  Calls Tryz.prog 15 #[v] w (ResO w fun w' u fp=>ORows w' 47 3 (OMd w' d) u (xs.map (mapM (fT ftU) d)) fp)
theorem mod_any (d:Nat):ModS d:=by
  intro w cs x hr hw
  obtain ⟨ev,fv,rfl,o1,he,hf⟩:=hr
  obtain ⟨nm,es,fs⟩:=x
  simp only at *
  have hw':wtMd d ⟨nm,es,fs⟩=nm.size+wtS wtRf es+wtS (wtFn d) fs:=rfl
  have HOK:Hid (okS nm):=o1
  have HE:Hid (Rows w All 2 HRf ev es):=he
  have HF:Hid (Rows w All 3 (HFn w All d) fv fs):=hf
  have HW1:Hid (wtS wtRf es≤1048576):=by show _≤_;omega
  have HW2:Hid (wtS (wtFn d) fs≤1048576):=by show _≤_;omega
  have hCl:=clauses d
  obtain ⟨pe,ce,rfl,-⟩:=he
  obtain ⟨pf,cf,rfl,-⟩:=hf
  generalize hn1:es.length=ne at *
  generalize hn2:fs.length=nf at *
  have HL1:Hid (es.length=ne):=hn1
  have HL2:Hid (fs.length=nf):=hn2
  have hne:ne≤1048576:=by have h:=HW1.out;unfold wtS at h;omega
  have hnf:nf≤1048576:=by have h:=HW2.out;unfold wtS at h;omega
  obtain ⟨i0,hi,hz0,hz1,hz2⟩:=info_parts info_ref
  have HI:Hid (Tryz.prog.info? 89=some i0∧i0.zero=some (.agg #[.string ⟨#[]⟩,.int .i64 0])∧i0.size=2∧i0.bytes=24):=⟨hi,hz0,hz1,hz2⟩
  obtain ⟨W2,hW2⟩:∃ W2,W2=(w.alloc (.cells #[.string nm,.slice pe ne ce,.slice pf nf cf] 47)).alloc (.cells #[.string ⟨#[]⟩,.slice none 0 0,.slice none 0 0] 47):=⟨_,rfl⟩
  have HW2':Hid (W2=(w.alloc (.cells #[.string nm,.slice pe ne ce,.slice pf nf cf] 47)).alloc (.cells #[.string ⟨#[]⟩,.slice none 0 0,.slice none 0 0] 47)):=hW2
  have B2:Hid (Below w.heap.size w W2):=by show Below _ _ _;rw [hW2];exact ((Below.refl _ _).alloc (Nat.le_refl _) _).alloc (by simp) _
  have e2:Hid (Blk W2 w.heap.size #[.string nm,.slice pe ne ce,.slice pf nf cf] 47):=by show Blk _ _ _ _;rw [hW2];exact Blk.new.alloc
  have r2:Hid (Blk W2 (w.heap.size+1) #[.string ⟨#[]⟩,.slice none 0 0,.slice none 0 0] 47):=by
    have:=Blk.new (w:=w.alloc (.cells #[.string nm,.slice pe ne ce,.slice pf nf cf] 47)) (cs:=#[.string ⟨#[]⟩,.slice none 0 0,.slice none 0 0]) (t:=47)
    rw [alloc_hs] at this
    show Blk _ _ _ _;rw [hW2];exact this
  have S2:Hid (W2.heap.size=w.heap.size+2):=by show _=_;rw [hW2,alloc_hs,alloc_hs]
  have CELLS:Hid (∀ w',Below (w.heap.size+1) W2 w'→w'.cell? ⟨w.heap.size,0,none⟩=some (.string nm)∧w'.cell? ⟨w.heap.size,1,none⟩=some (.slice pe ne ce)):=fun w' h=>by
    have e:=e2.out.below h (by omega)
    exact ⟨e.cell 0 _ rfl,e.cell 1 _ rfl⟩
  obtain ⟨q0,q1⟩:=CELLS.out W2 (Below.refl _ _)
  have hs2:w.heap.size+1≤W2.heap.size:=by rw [S2.out];omega
  have C2:Hid (∀ w',Below W2.heap.size W2 w'→w'.cell? ⟨w.heap.size,0,none⟩=some (.string nm)∧w'.cell? ⟨w.heap.size,1,none⟩=some (.slice pe ne ce)):=fun w' h=>CELLS.out w' (h.mono hs2)
  have CA:Hid (∀ w',Below W2.heap.size W2 w'→∀ o,(w'.alloc o).cell? ⟨w.heap.size,0,none⟩=some (.string nm)∧(w'.alloc o).cell? ⟨w.heap.size,1,none⟩=some (.slice pe ne ce)):=fun w' h o=>C2.out _ (h.alloc h.size _)
  have CS1:Hid (∀ w',Below W2.heap.size W2 w'→∀ a b c,(((w'.setCell ⟨W2.heap.size+1,0,none⟩ a).setCell ⟨W2.heap.size+1,1,none⟩ b).setCell ⟨W2.heap.size+1,2,none⟩ c).cell? ⟨w.heap.size,0,none⟩=some (.string nm)∧(((w'.setCell ⟨W2.heap.size+1,0,none⟩ a).setCell ⟨W2.heap.size+1,1,none⟩ b).setCell ⟨W2.heap.size+1,2,none⟩ c).cell? ⟨w.heap.size,1,none⟩=some (.slice pe ne ce)):=fun w' h a b c=>C2.out _ (((h.setCell (p:=⟨W2.heap.size+1,0,none⟩) (Nat.le_succ _) _).setCell (p:=⟨W2.heap.size+1,1,none⟩) (Nat.le_succ _) _).setCell (p:=⟨W2.heap.size+1,2,none⟩) (Nat.le_succ _) _)
  have CS2:Hid (∀ w',Below W2.heap.size W2 w'→∀ a b c,(((w'.setCell ⟨W2.heap.size,0,none⟩ a).setCell ⟨W2.heap.size,1,none⟩ b).setCell ⟨W2.heap.size,2,none⟩ c).cell? ⟨w.heap.size,0,none⟩=some (.string nm)∧(((w'.setCell ⟨W2.heap.size,0,none⟩ a).setCell ⟨W2.heap.size,1,none⟩ b).setCell ⟨W2.heap.size,2,none⟩ c).cell? ⟨w.heap.size,1,none⟩=some (.slice pe ne ce)):=fun w' h a b c=>C2.out _ (((h.setCell (p:=⟨W2.heap.size,0,none⟩) (Nat.le_refl _) _).setCell (p:=⟨W2.heap.size,1,none⟩) (Nat.le_refl _) _).setCell (p:=⟨W2.heap.size,2,none⟩) (Nat.le_refl _) _)
  obtain ⟨Z1,hZ1⟩:∃ Z1,Z1=(W2.alloc (.cells #[.string ⟨#[]⟩,.slice none 0 0,.slice none 0 0] 47)).drew:=⟨_,rfl⟩
  have HZ1:Hid (Z1=(W2.alloc (.cells #[.string ⟨#[]⟩,.slice none 0 0,.slice none 0 0] 47)).drew):=hZ1
  have KZ1:Hid (Below W2.heap.size W2 Z1):=by show Below _ _ _;rw [hZ1];exact ((Below.refl _ _).alloc (Nat.le_refl _) _).drew
  -- the three worlds in which the exports are appended
  obtain ⟨X1,hX1⟩:∃ X1,X1=(W2.alloc (.cells #[] 89)).drew:=⟨_,rfl⟩
  obtain ⟨X2,hX2⟩:∃ X2,X2=((W2.alloc (.cells #[] 89)).alloc (.cells #[.string ⟨#[]⟩,.slice none 0 0,.slice none 0 0] 47)).drew:=⟨_,rfl⟩
  obtain ⟨Y1,hY1⟩:∃ Y1,Y1=((W2.alloc (.cells #[.string ⟨#[]⟩,.slice none 0 0,.slice none 0 0] 47)).alloc (.cells #[] 89)).drew:=⟨_,rfl⟩
  have HX1:Hid (X1=(W2.alloc (.cells #[] 89)).drew):=hX1
  have HX2:Hid (X2=((W2.alloc (.cells #[] 89)).alloc (.cells #[.string ⟨#[]⟩,.slice none 0 0,.slice none 0 0] 47)).drew):=hX2
  have HY1:Hid (Y1=((W2.alloc (.cells #[.string ⟨#[]⟩,.slice none 0 0,.slice none 0 0] 47)).alloc (.cells #[] 89)).drew):=hY1
  have KX1:Hid (Below W2.heap.size W2 X1):=by show Below _ _ _;rw [hX1];exact ((Below.refl _ _).alloc (Nat.le_refl _) _).drew
  have KX2:Hid (Below W2.heap.size W2 X2):=by show Below _ _ _;rw [hX2];exact (((Below.refl _ _).alloc (Nat.le_refl _) _).alloc (by simp) _).drew
  have KY1:Hid (Below W2.heap.size W2 Y1):=by show Below _ _ _;rw [hY1];exact (((Below.refl _ _).alloc (Nat.le_refl _) _).alloc (by simp) _).drew
  have OX1:Hid (X1.ownsRow W2.heap.size 89 2 (.slice (some ⟨W2.heap.size,0,none⟩) 0 0) 0 []):=by show World.ownsRow _ _ _ _ _ _ _;rw [hX1];exact owns_fresh (w:=W2)
  have OX2:Hid (X2.ownsRow W2.heap.size 89 2 (.slice (some ⟨W2.heap.size,0,none⟩) 0 0) 0 []):=by show World.ownsRow _ _ _ _ _ _ _;rw [hX2];exact owns_next (owns_fresh (w:=W2)) ((Below.refl _ _).alloc (Nat.le_refl _) _).drew
  have OY1:Hid (Y1.ownsRow W2.heap.size 89 2 (.slice (some ⟨W2.heap.size+1,0,none⟩) 0 0) 0 []):=by
    have:=owns_fresh (w:=W2.alloc (.cells #[.string ⟨#[]⟩,.slice none 0 0,.slice none 0 0] 47)) (e:=89) (c:=2)
    rw [alloc_hs] at this
    show World.ownsRow _ _ _ _ _ _ _;rw [hY1];exact owns_lower this (Nat.le_succ _)
  have BX2:Hid (Blk X2 (W2.heap.size+1) #[.string ⟨#[]⟩,.slice none 0 0,.slice none 0 0] 47):=by
    have:=Blk.new (w:=W2.alloc (.cells #[] 89)) (cs:=#[.string ⟨#[]⟩,.slice none 0 0,.slice none 0 0]) (t:=47)
    rw [alloc_hs] at this
    show Blk _ _ _ _;rw [hX2];exact this
  have BY1:Hid (Blk Y1 W2.heap.size #[.string ⟨#[]⟩,.slice none 0 0,.slice none 0 0] 47):=by show Blk _ _ _ _;rw [hY1];exact (Blk.new (w:=W2)).alloc
  have SX1:Hid (X1.heap.size=W2.heap.size+1):=by show _=_;rw [hX1];show (W2.alloc _).heap.size=_;rw [alloc_hs]
  have SX2:Hid (X2.heap.size=W2.heap.size+2):=by show _=_;rw [hX2];show ((W2.alloc _).alloc _).heap.size=_;rw [alloc_hs,alloc_hs]
  have SY1:Hid (Y1.heap.size=W2.heap.size+2):=by show _=_;rw [hY1];show ((W2.alloc _).alloc _).heap.size=_;rw [alloc_hs,alloc_hs]
  clear hs2 hW2 hX1 hX2 hY1 hZ1 hw hw' hn1 hn2 o1 hi hz0 hz1 hz2
  go_enter Tryz.func34,Tryz.ntmps34
  go_wp2_with fail
  rw [← HW2'.out]
  go_region_held3 (fun w'=>w'.cell? ⟨w.heap.size,0,none⟩=some (.string nm)∧w'.cell? ⟨w.heap.size,1,none⟩=some (.slice pe ne ce))
    (first
      | with_reducible exact CS1.out _ K6.out _ _ _
      | with_reducible exact CS2.out _ K6.out _ _ _
      | with_reducible exact CA.out _ K6.out _
      | with_reducible exact C2.out _ K6.out
      | (rw [← HX2.out];exact C2.out _ KX2.out)
      | (rw [← HY1.out];exact C2.out _ KY1.out)
      | (rw [← HX1.out];exact C2.out _ KX1.out)
      | (rw [← HZ1.out];exact C2.out _ KZ1.out)
      | with_reducible exact CELLS.out _ (Below.refl _ _).drew)
    (first
      | (rw [← HX2.out];refine step_append_rows (R:=HRf) (S:=All) (by rfl) _ _ _ (by rfl) W2.heap.size 89 i0 _ 2 24 Tryz.underlying44 HI.out.1 HI.out.2.1 HI.out.2.2.1 HI.out.2.2.2 rfl (by decide) (.slice (some ⟨W2.heap.size,0,none⟩) 0 0) 0 [] (by rfl) OX2.out (.slice pe ne ce) es (by rfl) (refs_rows HE.out (B2.out.trans (KX2.out.mono B2.out.size))) rf_one (by have:=HL1.out;unfold maxLen;omega) (by have:=HL1.out;omega) (by have:=SX2.out;omega) ?_;intro v6 w6 news hc6 ho6 hg6;obtain ⟨p6,c6,hv6,-⟩:=owns_slice ho6;rw [Nat.zero_add] at hv6 ho6;rw [HL1.out] at hv6 ho6;subst hv6;have K6:Hid (Below W2.heap.size W2 w6):=KX2.out.trans (owns_below OX2.out hg6 (by have:=SX2.out;omega));have RE6:Hid (w6.ownsRow W2.heap.size 89 2 (.slice p6 ne c6) ne ([] ++ news)∧CellsR 2 HRf news es):=⟨ho6,hc6⟩;have HBX:Hid (Blk w6 (W2.heap.size+1) #[.string ⟨#[]⟩,.slice none 0 0,.slice none 0 0] 47):=(hg6.block _ BX2.out.lt (by simp [Value.ownBlock])).trans BX2.out;have y0:=HBX.out.cell 0 _ rfl;have y1:=HBX.out.cell 1 _ rfl;have y2:=HBX.out.cell 2 _ rfl;have z0:=HBX.out.frozen 0;have z1:=HBX.out.frozen 1;have z2:=HBX.out.frozen 2;clear hc6 ho6 hg6)
      | (rw [← HY1.out];refine step_append_rows (R:=HRf) (S:=All) (by rfl) _ _ _ (by rfl) W2.heap.size 89 i0 _ 2 24 Tryz.underlying44 HI.out.1 HI.out.2.1 HI.out.2.2.1 HI.out.2.2.2 rfl (by decide) (.slice (some ⟨W2.heap.size+1,0,none⟩) 0 0) 0 [] (by rfl) OY1.out (.slice pe ne ce) es (by rfl) (refs_rows HE.out (B2.out.trans (KY1.out.mono B2.out.size))) rf_one (by have:=HL1.out;unfold maxLen;omega) (by have:=HL1.out;omega) (by have:=SY1.out;omega) ?_;intro v6 w6 news hc6 ho6 hg6;obtain ⟨p6,c6,hv6,-⟩:=owns_slice ho6;rw [Nat.zero_add] at hv6 ho6;rw [HL1.out] at hv6 ho6;subst hv6;have K6:Hid (Below W2.heap.size W2 w6):=KY1.out.trans (owns_below OY1.out hg6 (by have:=SY1.out;omega));have RE6:Hid (w6.ownsRow W2.heap.size 89 2 (.slice p6 ne c6) ne ([] ++ news)∧CellsR 2 HRf news es):=⟨ho6,hc6⟩;have HBY:Hid (Blk w6 W2.heap.size #[.string ⟨#[]⟩,.slice none 0 0,.slice none 0 0] 47):=(hg6.block _ BY1.out.lt (by simp [Value.ownBlock])).trans BY1.out;have y0:=HBY.out.cell 0 _ rfl;have y1:=HBY.out.cell 1 _ rfl;have y2:=HBY.out.cell 2 _ rfl;have z0:=HBY.out.frozen 0;have z1:=HBY.out.frozen 1;have z2:=HBY.out.frozen 2;clear hc6 ho6 hg6)
      | (rw [← HX1.out];refine step_append_rows (R:=HRf) (S:=All) (by rfl) _ _ _ (by rfl) W2.heap.size 89 i0 _ 2 24 Tryz.underlying44 HI.out.1 HI.out.2.1 HI.out.2.2.1 HI.out.2.2.2 rfl (by decide) (.slice (some ⟨W2.heap.size,0,none⟩) 0 0) 0 [] (by rfl) OX1.out (.slice pe ne ce) es (by rfl) (refs_rows HE.out (B2.out.trans (KX1.out.mono B2.out.size))) rf_one (by have:=HL1.out;unfold maxLen;omega) (by have:=HL1.out;omega) (by have:=SX1.out;omega) ?_;intro v6 w6 news hc6 ho6 hg6;obtain ⟨p6,c6,hv6,-⟩:=owns_slice ho6;rw [Nat.zero_add] at hv6 ho6;rw [HL1.out] at hv6 ho6;subst hv6;have K6:Hid (Below W2.heap.size W2 w6):=KX1.out.trans (owns_below OX1.out hg6 (by have:=SX1.out;omega));have RE6:Hid (w6.ownsRow W2.heap.size 89 2 (.slice p6 ne c6) ne ([] ++ news)∧CellsR 2 HRf news es):=⟨ho6,hc6⟩;clear hc6 ho6 hg6))
  all_goals
    go_split_ands
    clear q0 q1
    first
    | (have HM5:Hid (∃ fe,MidM w (((w6.setCell ⟨W2.heap.size+1,0,none⟩ (.string nm)).setCell ⟨W2.heap.size+1,1,none⟩ (.slice p6 ne c6)).setCell ⟨W2.heap.size+1,2,none⟩ (.slice none 0 0)) d #[.string nm,.slice pe ne ce,.slice pf nf cf] #[.string nm,.slice p6 ne c6,.slice none 0 0] es fe (W2.heap.size+1) (.slice p6 ne c6)):=by
         obtain ⟨fe,f1,f2,f3⟩:=refs_own (d:=d) RE6.out.1 (by simpa using RE6.out.2) HL1.out.symm
         have s2:=S2.out
         have mm:MidM w w6 d #[.string nm,.slice pe ne ce,.slice pf nf cf] #[.string ⟨#[]⟩,.slice none 0 0,.slice none 0 0] es fe (W2.heap.size+1) (.slice p6 ne c6):=⟨B2.out.trans (K6.out.mono B2.out.size),e2.out.next K6.out,r2.out.next K6.out,HBX.out,f1,f2,fun a ha=>by
           obtain ⟨g1,g2,cur,g3⟩:=f3 a ha
           refine ⟨by omega,g2,fun e=>?_⟩
           have h:=HBX.out
           unfold Blk at h
           rw [← e,g3] at h
           simp at h,by omega⟩
         exact ⟨fe,mm.turn (((off_set3 _).trans (off_set3 _)).trans (off_set3 _)) (((HBX.out.same rfl).same rfl).same rfl)⟩
       clear y0 y1 y2 z0 z1 z2 HBX
       revert HM5
       generalize (((w6.setCell ⟨W2.heap.size+1,0,none⟩ (.string nm)).setCell ⟨W2.heap.size+1,1,none⟩ (.slice p6 ne c6)).setCell ⟨W2.heap.size+1,2,none⟩ (.slice none 0 0))=W5
       generalize W2.heap.size+1=ob
       intro HM5)
    | (have HM5:Hid (∃ fe,MidM w (((w6.setCell ⟨W2.heap.size,0,none⟩ (.string nm)).setCell ⟨W2.heap.size,1,none⟩ (.slice p6 ne c6)).setCell ⟨W2.heap.size,2,none⟩ (.slice none 0 0)) d #[.string nm,.slice pe ne ce,.slice pf nf cf] #[.string nm,.slice p6 ne c6,.slice none 0 0] es fe (W2.heap.size) (.slice p6 ne c6)):=by
         obtain ⟨fe,f1,f2,f3⟩:=refs_own (d:=d) RE6.out.1 (by simpa using RE6.out.2) HL1.out.symm
         have s2:=S2.out
         have mm:MidM w w6 d #[.string nm,.slice pe ne ce,.slice pf nf cf] #[.string ⟨#[]⟩,.slice none 0 0,.slice none 0 0] es fe (W2.heap.size) (.slice p6 ne c6):=⟨B2.out.trans (K6.out.mono B2.out.size),e2.out.next K6.out,r2.out.next K6.out,HBY.out,f1,f2,fun a ha=>by
           obtain ⟨g1,g2,cur,g3⟩:=f3 a ha
           refine ⟨by omega,g2,fun e=>?_⟩
           have h:=HBY.out
           unfold Blk at h
           rw [← e,g3] at h
           simp at h,by omega⟩
         exact ⟨fe,mm.turn (((off_set3 _).trans (off_set3 _)).trans (off_set3 _)) (((HBY.out.same rfl).same rfl).same rfl)⟩
       clear y0 y1 y2 z0 z1 z2 HBY
       revert HM5
       generalize (((w6.setCell ⟨W2.heap.size,0,none⟩ (.string nm)).setCell ⟨W2.heap.size,1,none⟩ (.slice p6 ne c6)).setCell ⟨W2.heap.size,2,none⟩ (.slice none 0 0))=W5
       generalize W2.heap.size=ob
       intro HM5)
    | (have HM5:Hid (∃ fe,MidM w (w6.alloc (.cells #[.string nm,.slice p6 ne c6,.slice none 0 0] 47)) d #[.string nm,.slice pe ne ce,.slice pf nf cf] #[.string nm,.slice p6 ne c6,.slice none 0 0] es fe w6.heap.size (.slice p6 ne c6)):=by
         obtain ⟨fe,f1,f2,f3⟩:=refs_own (d:=d) RE6.out.1 (by simpa using RE6.out.2) HL1.out.symm
         have al:Below w6.heap.size w6 (w6.alloc (.cells #[.string nm,.slice p6 ne c6,.slice none 0 0] 47)):=(Below.refl _ _).alloc (Nat.le_refl _) _
         have s4:=K6.out.size
         have s2:=S2.out
         exact ⟨fe,(B2.out.trans (K6.out.mono B2.out.size)).trans (al.mono (by omega)),(e2.out.next K6.out).next al,(r2.out.next K6.out).next al,Blk.new,f1.keep (fun a ha=>al.block a (f3 a ha).2.1) (fun cs x f _ hs h=>h),f2,fun a ha=>by have:=f3 a ha;rw [alloc_hs];omega,by omega⟩
       revert HM5
       generalize w6.alloc (.cells #[.string nm,.slice p6 ne c6,.slice none 0 0] 47)=W5
       generalize w6.heap.size=ob
       intro HM5)
    clear RE6 K6 C2 CA CS1 CS2 HZ1 KZ1 HX1 HX2 HY1 KX1 KX2 KY1 OX1 OX2 OY1 BX2 BY1 SX1 SX2 SY1 CELLS
    obtain ⟨fe,hm5⟩:=HM5.out
    have HMX:Hid (MidM w W5 d #[.string nm,.slice pe ne ce,.slice pf nf cf] #[.string nm,.slice p6 ne c6,.slice none 0 0] es fe ob (.slice p6 ne c6)):=hm5
    have hobl:ob<W5.heap.size:=hm5.out.lt
    clear HM5 hm5
    go_wp2_with fail
    go_loopw [4] (fun iv wr=>∃ (i:Nat) (cv:Value),i≤nf∧iv=.int .i64 i∧Hid (OffB ob W5.heap.size W5 wr)∧Hid (Blk wr ob #[.string nm,.slice p6 ne c6,cv] 47)∧Hid (GrowO 91 3 (fun w=>OFn w d) wr W5.heap.size wr.heap.size cv ((fs.take i).map (mapF (fT ftU) d)))) (fun iv _=>nf - (intOf iv).toNat)
    case atStart=>exact ⟨0,.slice none 0 0,Nat.zero_le _,rfl,OffB.refl _ _ _,HMX.out.out,GrowO.nil (Nat.le_refl _)⟩
    case round =>
      obtain ⟨i,cv,hi,rfl,HO,HR,HG⟩:=hrel
      have bx:=HO.out.blk HMX.out.box HMX.out.box.lt (by have:=HMX.out.obl;omega)
      have m2:=bx.cell 2 _ rfl
      have hi0:(0:Int)≤(i:Int):=by omega
      have HBW:Hid (Below w.heap.size w wr):=HMX.out.bel.trans (HO.out.below HMX.out.bel.size (by have:=HMX.out.obl;omega))
      by_cases hlt2:i<nf
      · obtain ⟨x,hck⟩:∃ x,fs[i]?=some x:=⟨fs[i]'(by rw [HL2.out];exact hlt2),List.getElem?_eq_getElem _⟩
        obtain ⟨pz,cz,hz,-,-,hzx⟩:=HF.out
        obtain ⟨g,off,hpz,-,hgl,hat⟩:=hzx (by intro h;rw [h] at hck;simp at hck)
        simp only [Value.slice.injEq] at hz
        obtain ⟨rfl,-,rfl⟩:=hz
        subst hpz
        obtain ⟨cs,hc2,hcs,hfn⟩:=hat i x hck
        obtain ⟨cv2,rfl,ok1,ok2,hcl⟩:=hfn
        have HFK:Hid (okS x.name∧okI x.arity):=⟨ok1,ok2⟩
        have a0:=hcs 0 (by omega)
        have a1:=hcs 1 (by omega)
        have a2:=hcs 2 (by omega)
        have HCLW:Hid (∀ w',Below w.heap.size w w'→Rows w' All 2 (HCl w' All (HEx w' All d)) cv2 x.clauses):=fun w' hb=>hcl.mono (SameOn.of_below hb) (fun _ h=>h) (fun _ _ _ h=>h.mono (SameOn.of_below hb) (fun _ h=>h) (fun _ _ h=>h.mono (SameOn.of_below hb) (fun _ h=>h)))
        obtain ⟨r1,s1,rfl,-⟩:=hcl
        generalize x.clauses.length=m1 at *
        clear hcs hat hzx
        rw [← HBW.out.cell (p:=⟨g,_,none⟩) hgl] at a0 a1 a2
        simp only [List.getElem?_cons_zero,List.getElem?_cons_succ,Nat.add_zero] at a0 a1 a2
        have hli:(i:Int)<(nf:Int):=by omega
        have HWX:Hid (wtS (wtCl (wtEx d)) x.clauses≤1048576):=by
          show _≤_
          have h1:=HW2.out
          have h2:=sum_take_succ (wtFn d) fs i x hck
          have h3:=sum_take_le (wtFn d) fs (i+1)
          have h4:wtFn d x=x.name.size+wtS (wtCl (wtEx d)) x.clauses:=rfl
          unfold wtS at h1
          unfold wtS at h4
          unfold wtS
          omega
        have HMS:Hid ((fs.take (i+1)).map (mapF (fT ftU) d)=(fs.take i).map (mapF (fT ftU) d) ++ [mapF (fT ftU) d x]):=take_map_succ _ hck
        have hll:((fs.take i).map (mapF (fT ftU) d)).length≤100000000:=by rw [List.length_map,List.length_take];omega
        generalize (fs.take i).map (mapF (fT ftU) d)=acc at *
        have hgw:g<wr.heap.size:=Nat.lt_of_lt_of_le hgl HBW.out.size
        have how:ob<wr.heap.size:=HR.out.lt
        obtain ⟨WA,hWA⟩:∃ WA,WA=wr.alloc (.cells #[.string x.name,.int .i64 x.arity,.slice r1 m1 s1] 91):=⟨_,rfl⟩
        have HWA:Hid (WA=wr.alloc (.cells #[.string x.name,.int .i64 x.arity,.slice r1 m1 s1] 91)):=hWA
        have KA:Hid (Below wr.heap.size wr WA):=by show Below _ _ _;rw [hWA];exact (Below.refl _ _).alloc (Nat.le_refl _) _
        have SA:Hid (WA.heap.size=wr.heap.size+1):=by show _=_;rw [hWA,alloc_hs]
        have fA:Hid (Blk WA wr.heap.size #[.string x.name,.int .i64 x.arity,.slice r1 m1 s1] 91):=by show Blk _ _ _ _;rw [hWA];exact Blk.new
        have BA:Hid (Below w.heap.size w WA):=HBW.out.trans (KA.out.mono HBW.out.size)
        clear hWA hc2 bx ok1 ok2
        go_wp2_with fail
        rw [← HWA.out]
        refine (hCl WA _ x.clauses (HCLW.out WA BA.out) HWX.out).mono ?_
        rintro e w3 ⟨u3,fq,rfl,ho3,hnd,hrg,hb3⟩
        obtain ⟨p3,c3,hu3,-⟩:=ho3.shape
        generalize (x.clauses.map (mapC (fT ftU) d)).length=n3 at hu3
        subst hu3
        have K3:Hid (Below WA.heap.size WA w3):=hb3
        have HO3:Hid (ORows w3 127 2 (OCl w3 (OEx w3 d)) (.slice p3 n3 c3) (x.clauses.map (mapC (fT ftU) d)) fq∧fq.Nodup∧∀ a ∈ fq,WA.heap.size≤a∧a<w3.heap.size):=⟨ho3,hnd,hrg⟩
        have f3:Hid (Blk w3 wr.heap.size #[.string x.name,.int .i64 x.arity,.slice r1 m1 s1] 91):=fA.out.next hb3
        have u0:=f3.out.cell 2 _ rfl
        have u1:=f3.out.frozen 2
        have hlf:=f3.out.lt
        obtain ⟨W4,hW4⟩:∃ W4,W4=w3.setCell ⟨wr.heap.size,2,none⟩ (.slice p3 n3 c3):=⟨_,rfl⟩
        have HW4:Hid (W4=w3.setCell ⟨wr.heap.size,2,none⟩ (.slice p3 n3 c3)):=hW4
        have q4:Hid (∀ a,a≠wr.heap.size→W4.heap[a]?=w3.heap[a]?):=fun a ha=>by rw [hW4];exact Below.heap_setCell _ _ _ _ ha
        have S4:Hid (W4.heap.size=w3.heap.size):=by show _=_;rw [hW4];simp [World.setCell]
        have f4:Hid (Blk W4 wr.heap.size #[.string x.name,.int .i64 x.arity,.slice p3 n3 c3] 91):=by show Blk _ _ _ _;rw [hW4];exact f3.out.same rfl
        have B4:Hid (Below wr.heap.size wr W4):=by show Below _ _ _;rw [hW4];exact (KA.out.trans (hb3.mono KA.out.size)).setCell (p:=⟨wr.heap.size,2,none⟩) (Nat.le_refl _) _
        have o4:Hid (Blk W4 ob #[.string nm,.slice p6 ne c6,cv] 47):=HR.out.next B4.out
        have G4:Hid (GrowO 91 3 (fun w=>OFn w d) W4 W5.heap.size wr.heap.size cv acc):=HG.out.next (keepsF d) B4.out
        have X4:Hid (OFn W4 d [.string x.name,.int .i64 x.arity,.slice p3 n3 c3] (mapF (fT ftU) d x) fq∧fq.Nodup∧∀ a ∈ fq,wr.heap.size≤a∧a<W4.heap.size):=by
          have s1:=SA.out
          have kk:KeepOn fq w3 W4:=fun a ha=>q4.out a (by have:=(hrg a ha).1;omega)
          exact ⟨⟨_,rfl,HFK.out.1,HFK.out.2,ho3.keep kk (fun cs x f _ hs h=>OCls.keep h (kk.sub hs))⟩,hnd,fun a ha=>by have:=hrg a ha;have:=S4.out;omega⟩
        have v0:=f4.out.cell 0 _ rfl
        have v1:=f4.out.cell 1 _ rfl
        have v2:=f4.out.cell 2 _ rfl
        have t2:=o4.out.cell 2 _ rfl
        clear ho3 hnd hrg hb3 hW4 a0 a1 a2 m2
        go_wp2_with (first | (rw [← HW4.out]) | (at_builtin;refine wpList_push (keepsF d) 45 91 3 48 _ rfl _ _ rfl Tryz.underlying45 infoF rfl (by decide) (by decide) W5.heap.size wr.heap.size cv acc rfl [.string x.name,.int .i64 x.arity,.slice p3 n3 c3] rfl (mapF (fT ftU) d x) fq G4.out X4.out.1 X4.out.2.1 X4.out.2.2 rfl oneF hll ?_))
        intro v5 w5 hg5 hb5
        obtain ⟨p5,c5,hv5,-⟩:=hg5.shape
        rw [List.length_append] at hv5
        simp only [List.length_singleton] at hv5
        subst hv5
        have al:Below W4.heap.size W4 (W4.alloc (.cells #[.string x.name,.int .i64 x.arity,.slice p3 n3 c3] 91)):=(Below.refl _ _).alloc (Nat.le_refl _) _
        have R5:Hid (Blk w5 ob #[.string nm,.slice p6 ne c6,cv] 47):=(hb5.block ob hobl).trans (o4.out.next al)
        have k2:=R5.out.cell 2 _ rfl
        have k3:=R5.out.frozen 2
        obtain ⟨W7,hW7⟩:∃ W7,W7=w5.setCell ⟨ob,2,none⟩ (.slice p5 (acc.length+1) c5):=⟨_,rfl⟩
        have HW7:Hid (W7=w5.setCell ⟨ob,2,none⟩ (.slice p5 (acc.length+1) c5)):=hW7
        have s7:W7.heap.size=w5.heap.size:=by rw [hW7];simp [World.setCell]
        have O5:OffB ob W5.heap.size W5 w5:=HO.out.trans ((OffB.of_below (B4.out.mono HO.out.size)).trans ((OffB.of_below (al.mono (by have:=B4.out.size;have:=HO.out.size;omega))).trans (OffB.of_below hb5)))
        have O7:Hid (OffB ob W5.heap.size W5 W7):=by show OffB _ _ _ _;rw [hW7];exact offB_set3 O5 _
        have R7:Hid (Blk W7 ob #[.string nm,.slice p6 ne c6,.slice p5 (acc.length+1) c5] 47):=by show Blk _ _ _ _;rw [hW7];exact R5.out.same rfl
        have G7:Hid (GrowO 91 3 (fun w=>OFn w d) W7 W5.heap.size W7.heap.size (.slice p5 (acc.length+1) c5) ((fs.take (i+1)).map (mapF (fT ftU) d))):=by
          show GrowO _ _ _ _ _ _ _ _
          rw [HMS.out,s7]
          rw [hW7]
          exact hg5.off (keepsF d) (off_set3 _) hobl
        clear hg5 hb5 al O5 s7 hW7 v0 v1 v2 t2 u0 u1
        go_wp2_with (rw [← HW7.out])
        exact ⟨⟨i+1,_,by omega,by go_num,O7.out,R7.out,G7.out⟩,by simp [intOf];omega⟩
      · obtain rfl:i=nf:=by omega
        obtain ⟨ff,r1,r2',r3,-,-⟩:=HG.out.done
        rw [List.take_of_length_le (by rw [HL2.out];exact Nat.le_refl _)] at r1
        have hsh:=HG.out.shape
        rw [List.length_map,List.length_take,HL2.out,Nat.min_self] at hsh
        obtain ⟨pc,cc,hcv,-⟩:=hsh
        subst hcv
        have rs:Hid (Blk wr (w.heap.size+1) #[.string ⟨#[]⟩,.slice none 0 0,.slice none 0 0] 47):=HO.out.blk HMX.out.res HMX.out.res.lt (by have:=HMX.out.obl;omega)
        have oo0:=HR.out.cell 0 _ rfl
        have oo1:=HR.out.cell 1 _ rfl
        have oo2:=HR.out.cell 2 _ rfl
        have xx0:=rs.out.cell 0 _ rfl
        have xx1:=rs.out.cell 1 _ rfl
        have xx2:=rs.out.cell 2 _ rfl
        have gg0:=rs.out.frozen 0
        have gg1:=rs.out.frozen 1
        have gg2:=rs.out.frozen 2
        have HQ:Hid (ORows wr 91 3 (OFn wr d) (.slice pc i cc) (fs.map (mapF (fT ftU) d)) ff∧ff.Nodup∧∀ a ∈ ff,W5.heap.size≤a∧a<wr.heap.size):=⟨r1,r2',r3⟩
        clear r1 r2' r3 bx
        go_wp2_with fail
        obtain ⟨W8,hW8⟩:∃ W8,W8=((wr.setCell ⟨w.heap.size+1,0,none⟩ (.string nm)).setCell ⟨w.heap.size+1,1,none⟩ (.slice p6 ne c6)).setCell ⟨w.heap.size+1,2,none⟩ (.slice pc i cc):=⟨_,rfl⟩
        have bz:Blk W8 (w.heap.size+1) #[.string nm,.slice p6 ne c6,.slice pc i cc] 47:=by rw [hW8];exact ((rs.out.same rfl).same rfl).same rfl
        have j0:=bz.cell 0 _ rfl
        have j1:=bz.cell 1 _ rfl
        have j2:=bz.cell 2 _ rfl
        have ho:∀ a,a≠w.heap.size+1→W8.heap[a]?=wr.heap[a]?:=fun a ha=>by rw [hW8,Below.heap_setCell _ _ _ _ ha,Below.heap_setCell _ _ _ _ ha,Below.heap_setCell _ _ _ _ ha]
        have s8:W8.heap.size=wr.heap.size:=by rw [hW8];simp [World.setCell]
        have B8:Below w.heap.size w W8:=by rw [hW8];exact ((HBW.out.setCell (p:=⟨w.heap.size+1,0,none⟩) (Nat.le_succ _) _).setCell (p:=⟨w.heap.size+1,1,none⟩) (Nat.le_succ _) _).setCell (p:=⟨w.heap.size+1,2,none⟩) (Nat.le_succ _) _
        have hol:=HMX.out.obl
        have kf:KeepOn ff wr W8:=fun a ha=>ho a (by have:=(HQ.out.2.2 a ha).1;omega)
        have ke:KeepOn fe W5 W8:=fun a ha=>(ho a (by have:=(HMX.out.rg a ha).1;omega)).trans (HO.out.block a (HMX.out.rg a ha).2.1 (HMX.out.rg a ha).2.2)
        have s9:=HO.out.size
        have fin:ResO w (fun w' u fp=>∃ cs',u=.agg cs'.toArray∧OMd w' d cs' (mapM (fT ftU) d ⟨nm,es,fs⟩) fp) (.returned (.agg #[.string nm,.slice p6 ne c6,.slice pc i cc])) W8:=by
          refine ⟨_,fe ++ ff,rfl,⟨[.string nm,.slice p6 ne c6,.slice pc i cc],rfl,_,_,fe,ff,rfl,rfl,HOK.out,HMX.out.exps.keep ke (fun cs x f _ hs h=>h),HQ.out.1.keep kf (fun cs x f _ hs h=>h.keep (kf.sub hs))⟩,?_,fun a ha=>?_,B8⟩
          · rw [List.nodup_append]
            refine ⟨HMX.out.nd,HQ.out.2.1,fun a ha b hb=>?_⟩
            have h:=(HMX.out.rg a ha).2.1
            have h':=(HQ.out.2.2 b hb).1
            omega
          · rcases List.mem_append.1 ha with ha | ha
            · have h:=HMX.out.rg a ha;omega
            · have h:=HQ.out.2.2 a ha;omega
        rw [hW8] at fin j0 j1 j2
        exact bodyPost_ret (v:=.agg #[.string nm,.slice p6 ne c6,.slice pc i cc]) (by simp [results,Tryz.results34,go_sem,j0,j1,j2]) rfl fin
theorem mods_of {d:Nat} (hE:ModS d):ModsS d:=by
  intro w v xs hr hw
  obtain ⟨p,cap,rfl,hcl,hcm,hx⟩:=hr
  have HWT:Hid (wtS (wtMd d) xs≤1048576):=hw
  have hnb:xs.length≤1048576:=by unfold wtS at hw;omega
  generalize hn:xs.length=n at *
  have HN:Hid (xs.length=n):=hn
  have HX:Hid (xs≠[]→∃ g off,p=some ⟨g,off,none⟩∧All g∧g<w.heap.size∧∀ i x,xs[i]?=some x→∃ cs,cs.length=3∧(∀ j,j<3→w.cell? ⟨g,off+i * 3+j,none⟩=cs[j]?)∧HMd w All d cs x):=hx
  obtain ⟨W1,hW1⟩:∃ W1,W1=w.alloc (.cells #[] 47):=⟨_,rfl⟩
  have HW1:Hid (W1=w.alloc (.cells #[] 47)):=hW1
  have G1:Hid (GrowO 47 3 (fun w=>OMd w d) W1 w.heap.size W1.heap.size (.slice (some ⟨w.heap.size,0,none⟩) 0 0) ((xs.take 0).map (mapM (fT ftU) d))):=growFresh hW1
  have B1:Hid (Below w.heap.size w W1):=by show Below _ _ _;rw [hW1];exact (Below.refl _ _).alloc (Nat.le_refl _) _
  clear hW1 hx hn hw
  go_enter Tryz.func15,Tryz.ntmps15
  go_wp2_with fail
  rw [← HW1.out]
  go_loopw [3,4] (fun ov iv wr=>∃ (k:Nat),k≤n∧iv=.int .i64 k∧Hid (GrowO 47 3 (fun w=>OMd w d) wr w.heap.size wr.heap.size ov ((xs.take k).map (mapM (fT ftU) d)))∧Hid (Below w.heap.size w wr)) (fun _ iv _=>n - (intOf iv).toNat)
  case atStart=>exact ⟨0,Nat.zero_le _,rfl,G1.out,B1.out⟩
  case round =>
    obtain ⟨k,hk,rfl,HG,HB⟩:=hrel
    by_cases hlt:k<n
    · obtain ⟨x,hxk⟩:∃ x,xs[k]?=some x:=⟨xs[k]'(by rw [HN.out];exact hlt),List.getElem?_eq_getElem _⟩
      obtain ⟨g,off,rfl,-,hgl,hat⟩:=HX.out (by intro h;rw [h] at hxk;simp at hxk)
      obtain ⟨cs,hc6,hcs,hex⟩:=hat k x hxk
      have HXR:Hid (HMd wr All d cs x):=hex.mono (SameOn.of_below HB.out) (fun _ h=>h)
      obtain ⟨tt,r1,m1,s1,r2,m2,s2,rfl⟩:=HMd.shapeR hex
      have a0:=hcs 0 (by omega)
      have a1:=hcs 1 (by omega)
      have a2:=hcs 2 (by omega)
      rw [← HB.out.cell (p:=⟨g,_,none⟩) hgl] at a0 a1 a2
      clear hcs hat
      simp at a0 a1 a2
      have hki:(k:Int)<(n:Int):=by omega
      have hk0:(0:Int)≤(k:Int):=by omega
      have HWX:Hid (wtMd d x≤1048576):=by
        show _≤_
        have h1:=HWT.out
        have h2:=sum_take_succ (wtMd d) xs k x hxk
        have h3:=sum_take_le (wtMd d) xs (k+1)
        unfold wtS at h1
        omega
      have HMS:Hid ((xs.take (k+1)).map (mapM (fT ftU) d)=(xs.take k).map (mapM (fT ftU) d) ++ [mapM (fT ftU) d x]):=take_map_succ _ hxk
      have hll:((xs.take k).map (mapM (fT ftU) d)).length≤100000000:=by rw [List.length_map,List.length_take];omega
      generalize (xs.take k).map (mapM (fT ftU) d)=acc at *
      clear hex hc6
      go_wp2_with fail
      refine (hE wr _ x HXR.out HWX.out).mono ?_
      rintro e w3 ⟨u,fp,rfl,⟨cs',rfl,hx3⟩,hnd,hrg,hb3⟩
      obtain ⟨sx,p1,n1,q1,p2,n2,q2,hsh⟩:=hx3.shape
      subst hsh
      have G3:Hid (GrowO 47 3 (fun w=>OMd w d) w3 w.heap.size wr.heap.size u3 acc):=HG.out.next (keepsM d) hb3
      have X3:Hid (OMd w3 d [.string sx,.slice p1 n1 q1,.slice p2 n2 q2] (mapM (fT ftU) d x) fp∧fp.Nodup∧∀ a ∈ fp,wr.heap.size≤a∧a<w3.heap.size):=⟨hx3,hnd,hrg⟩
      have B3:Hid (Below w.heap.size w w3):=HB.out.trans (hb3.mono HB.out.size)
      clear hx3 hnd hrg hb3 a0 a1 a2
      go_wp2_with (at_builtin;refine wpList_push (keepsM d) 24 47 3 64 _ rfl _ _ rfl Tryz.underlying24 infoM rfl (by decide) (by decide) w.heap.size wr.heap.size u3 acc rfl [.string sx,.slice p1 n1 q1,.slice p2 n2 q2] rfl (mapM (fT ftU) d x) fp G3.out X3.out.1 X3.out.2.1 X3.out.2.2 rfl oneM hll ?_)
      intro v4 w4 hg4 hb4
      have B4:Hid (Below w.heap.size w w4):=(B3.out.alloc B3.out.size _).trans hb4
      rw [← HMS.out] at hg4
      have G4:Hid (GrowO 47 3 (fun w=>OMd w d) w4 w.heap.size w4.heap.size v4 ((xs.take (k+1)).map (mapM (fT ftU) d))):=hg4
      clear hg4 hb4
      go_wp2_with fail
      exact ⟨⟨k+1,by omega,by go_num,G4.out,B4.out⟩,by simp [intOf];omega⟩
    · obtain rfl:k=n:=by omega
      obtain ⟨fp,r1,r2,r3,r4,r5⟩:=HG.out.done
      rw [List.take_of_length_le (by rw [HN.out];exact Nat.le_refl _)] at r1
      obtain ⟨pu,cu,hu,-⟩:=HG.out.shape
      subst hu
      have FIN:Hid (ResO w (fun w' u fp=>ORows w' 47 3 (OMd w' d) u (xs.map (mapM (fT ftU) d)) fp) (.returned _) wr):=⟨_,fp,rfl,r1,r2,fun a ha=>r3 a ha,HB.out⟩
      clear r1 r2 r3 r4 r5
      go_wp2_with fail
      go_ret
      exact FIN.out
theorem mods (d:Nat):ModsS d:=mods_of (mod_any d)
end CpU
theorem l07Copy_any (d:Nat) (w:World) (v:Value) (ms:List Md) (h:Rows w All 3 (HMd w All d) v ms) (hw:wtS (wtMd d) ms≤1048576) :
    Calls Tryz.prog 15 #[v] w (ResO w fun w' u fp=>ORows w' 47 3 (OMd w' d) u ms fp):=by
  have h1:=CpU.mods d w v ms h hw
  have e:ms.map (mapM (fT ftU) d)=ms:=by rw [fT_U];exact mapMs_id d ms
  rw [e] at h1
  exact h1
end Go.Proofs.YtefpgpbbgclemaaGreatDoor
