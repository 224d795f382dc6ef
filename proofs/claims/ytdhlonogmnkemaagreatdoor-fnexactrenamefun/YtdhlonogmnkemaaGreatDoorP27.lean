/-
  CpC CallsW
-/
import Derived.Test.YtdhlonogmnkemaaGreatDoorP25
import Derived.Deep.DeepCutAuto
set_option maxHeartbeats 16000000
set_option linter.unusedVariables false
set_option maxRecDepth 100000
namespace Go.Proofs.YtdhlonogmnkemaaGreatDoor
open Go.ChangeShapes Go.WideShapes Go.ChangeAt Go.RowKit
theorem sqP:(∀ (a:Act) (d:Option Tmp) (v:Value),a.put d v=match d with | none=>a | some t=>{ a with tmps:=a.tmps.setIfInBounds t v })/\(∀ (l:List Value) (i:Nat) (v:Value),l.toArray.setIfInBounds i v=(l.set i v).toArray)/\(∀ (x y:Value) (l:List Value),(x :: l).set 0 y=y :: l)/\∀ (x y:Value) (l:List Value) (n:Nat),(x :: l).set (n+1) y=x :: l.set n y :=
 ⟨λa d v=>by cases d <;> rfl,λl i v=>by simp,λ_ _ _=>rfl,λ_ _ _ _=>rfl⟩
theorem tkH {P:Program} {ops:Array Oper} {Q:Exit->Act->World->Prop} {md:Region.Mode} {S:World->Prop} {fuel:Nat} {listed:Array Bool} {a:Act} {w:World} (i:Nat) {oi:Oper} {v:Value}
 (h:wpAnyH P md ops Q S fuel (listed.setIfInBounds i true) (a.put oi.dst v) w) (hi:ops[i]?=some oi:=by simp only [List.getElem?_toArray,List.getElem?_cons_succ,List.getElem?_cons_zero];rfl) (hw:Region.wanted oi (yielded ops a.tmps)=true:=by rfl) (hy:∀ w,S w->(execOp a.eval oi).run P w=.ok (.value v) w:=by intro w hSw;(try dsimp only at hSw);go_simp;(try with_reducible rfl)) (hS:S w:=by assumption)
 (hs:Region.noSelect ops=true:=by kernel_rfl) (hf:Region.free md ops listed i=true:=by kernel_rfl) (hr:(Region.ready md ops listed).contains i=true:=by kernel_rfl) (hQ:∀ c a' w,Q (.panic c) a' w ↔ Q (.panic c) a w:=by intros;rfl):wpAnyH P md ops Q S (fuel+1) listed a w :=
 wpAnyH_take hi hs hf hr (λc a' w' h=>((hQ c _ w').trans (hQ c a' w').symm).1 h) (Or.inl ⟨hw,hy⟩) hS h
theorem oneH {P:Program} {ops:Array Oper} {Q:Exit->Act->World->Prop} {md:Region.Mode} {S:World->Prop} {fuel:Nat} {listed:Array Bool} {a:Act} {w:World} (i:Nat) {o:Oper}
 (h:∀ K':Act->World->Prop,Shut (∀ a w,S w->(S w->wpAnyH P md ops Q S fuel (listed.setIfInBounds i true) a w)->K' a w)->if Region.wanted o (yielded ops a.tmps)=true then Oper.wp P o a w K' Q else K' (a.put o.dst undef) w) (ho:ops[i]?=some o:=by simp only [List.getElem?_toArray,List.getElem?_cons_succ,List.getElem?_cons_zero];rfl) (hr:Region.ready md ops listed = [i]:=by kernel_rfl):wpAnyH P md ops Q S (fuel+1) listed a w :=
 wpAnyH_ready hr (by simp) (AllReadyH.cons ho h AllReadyH.nil)
theorem twoH {P:Program} {ops:Array Oper} {Q:Exit->Act->World->Prop} {md:Region.Mode} {S:World->Prop} {fuel:Nat} {listed:Array Bool} {a:Act} {w:World} (i j:Nat) {o o':Oper}
 (h:∀ K':Act->World->Prop,Shut (∀ a w,S w->(S w->wpAnyH P md ops Q S fuel (listed.setIfInBounds i true) a w)->K' a w)->if Region.wanted o (yielded ops a.tmps)=true then Oper.wp P o a w K' Q else K' (a.put o.dst undef) w)
 (h':∀ K':Act->World->Prop,Shut (∀ a w,S w->(S w->wpAnyH P md ops Q S fuel (listed.setIfInBounds j true) a w)->K' a w)->if Region.wanted o' (yielded ops a.tmps)=true then Oper.wp P o' a w K' Q else K' (a.put o'.dst undef) w) (ho:ops[i]?=some o:=by simp only [List.getElem?_toArray,List.getElem?_cons_succ,List.getElem?_cons_zero];rfl) (ho':ops[j]?=some o':=by simp only [List.getElem?_toArray,List.getElem?_cons_succ,List.getElem?_cons_zero];rfl) (hr:Region.ready md ops listed = [i,j]:=by kernel_rfl):wpAnyH P md ops Q S (fuel+1) listed a w :=
 wpAnyH_ready hr (by simp) (AllReadyH.cons ho h (AllReadyH.cons ho' h' AllReadyH.nil))
namespace CpC
structure Mid (w V:World) (d:Nat) (E P R:Array Value) (ks:List Ex) (fp:List Nat) (ob:Nat) (kv:Value):Prop where
 bel:Below w.heap.size w V
 box:Blk V w.heap.size E 76
 pl:Blk V (w.heap.size+1) P 31
 res:Blk V (w.heap.size+1+1) #[.int .i64 0,.int .i64 0,.string ⟨#[]⟩,.string ⟨#[]⟩,.slice none 0 0,.slice none 0 0] 76
 out:Blk V ob R 76
 kids:Zg V 76 6 (OEx V d) kv ks fp
 nd:fp.Nodup
 rg:∀ a ∈ fp,w.heap.size+3<=a/\a<V.heap.size/\a≠ob
 obl:w.heap.size+3<=ob
theorem Mid.turn {w V V':World} {d:Nat} {E P R R':Array Value} {ks:List Ex} {fp:List Nat} {ob:Nat} {kv:Value} (h:Mid w V d E P R ks fp ob kv) (ho:Off [ob] V V') (hR:Blk V' ob R' 76):Mid w V' d E P R' ks fp ob kv:=by
 have hb:=h.box.lt;have hp:=h.pl.lt;have hr:=h.res.lt;have hl:=h.obl;have kk:Zj fp V V':=λa ha=>ho.block a (h.rg a ha).2.1 (by simp [(h.rg a ha).2.2])
 exact ⟨⟨ho.os.trans h.bel.os,ho.tape.trans h.bel.tape,ho.output.trans h.bel.output,Nat.le_trans h.bel.size ho.size,λa ha=>(ho.block a (Nat.lt_of_lt_of_le ha h.bel.size) (by simp;omega)).trans (h.bel.block a ha)⟩,
  (ho.block _ hb (by simp;omega)).trans h.box,(ho.block _ hp (by simp;omega)).trans h.pl,(ho.block _ hr (by simp;omega)).trans h.res,hR,h.kids.keep kk (λcs x f _ hs h=>h.keep (kk.sub hs)),h.nd,λa ha=>⟨(h.rg a ha).1,Nat.lt_of_lt_of_le (h.rg a ha).2.1 ho.size,(h.rg a ha).2.2⟩,hl⟩
theorem ZbH {V:World} {ob j:Nat} (v:Value):Off [ob] V (V.setCell ⟨ob,j,none⟩ v) :=
 ⟨by simp [World.setCell],by simp [World.setCell],by simp [World.setCell],by simp [World.setCell],λa _ hn=>Below.heap_setCell _ _ _ _ (by simpa using hn)⟩
theorem mapY_mk {ft:Int->ByteArray->ByteArray->Nat->ByteArray} {d:Nat} {k0 n0:Int} {t0 m0:ByteArray} {ks:List Ex} {cls:List Cl} {n1:Nat} (hl:ks.length=n1):mapY (fT ft) (d+1) (.mk k0 n0 t0 m0 ks cls)=.mk k0 n0 (ft k0 t0 m0 n1) m0 (ks.map (mapY (fT ft) d)) (cls.map (Zao (fT ft) d)):=by
 show fT ft (.mk k0 n0 t0 m0 (ks.map (mapY (fT ft) d)) (cls.map λc=>(c.1,c.2.map (mapY (fT ft) d))))=_;unfold fT;simp only [Ex.kind,Ex.n,Ex.text,Ex.mod,Ex.kids,Ex.clauses,List.length_map,hl]
 rfl
theorem clL {w wr:World} {d:Nat} {u1 u2:Value} {c:Cl} (h:HCl w All (HEx w All d) [u1,u2] c) (hb:Below w.heap.size w wr):Rows wr All 6 (HEx wr All d) u1 c.1/\Rows wr All 6 (HEx wr All d) u2 c.2:=by
 obtain ⟨p,b,he,h1,h2⟩:=HCl.mono h (Za.of_below hb) sqj (λ_ _ h=>h.mono (Za.of_below hb) sqj);simp only [List.cons.injEq,and_true] at he;obtain ⟨rfl,rfl⟩:=he;exact ⟨h1,h2⟩
theorem clN {w:World} {d:Nat} {p1 p2:Option Addr} {m1 s1 m2 s2:Nat} {c:Cl} (h:HCl w All (HEx w All d) [.slice p1 m1 s1,.slice p2 m2 s2] c):c.1.length=m1/\c.2.length=m2:=by
 obtain ⟨p,b,he,h1,h2⟩:=h;simp only [List.cons.injEq,and_true] at he;obtain ⟨rfl,rfl⟩:=he;obtain ⟨_,_,e1,-⟩:=h1;obtain ⟨_,_,e2,-⟩:=h2;simp only [Value.slice.injEq] at e1 e2;exact ⟨e1.2.1.symm,e2.2.1.symm⟩
theorem clW {d:Nat} {c:Cl} (h:wtCl (wtEx d) c<=16777216):wtS (wtEx d) c.1<=16777216/\wtS (wtEx d) c.2<=16777216:=by unfold wtCl at h;omega
theorem clO {w1 w2:World} {d N:Nat} {v1 v2:Value} {c:Cl} {f:Ex->Ex} {fq1 fq2:List Nat} (h1:Zg w1 76 6 (OEx w1 d) v1 (c.1.map (mapX (fT ftU) d)) fq1/\fq1.Nodup/\∀ a ∈ fq1,N<=a/\a<w1.heap.size)
 (h2:Zg w2 76 6 (OEx w2 d) v2 (c.2.map (mapY f d)) fq2/\fq2.Nodup/\(∀ a ∈ fq2,w1.heap.size<=a/\a<w2.heap.size)/\Below w1.heap.size w1 w2) (hN:N<=w1.heap.size) :
 OCl w2 (OEx w2 d) [v1,v2] (Zao f d c) (fq1 ++ fq2)/\(fq1 ++ fq2).Nodup/\∀ a ∈ fq1 ++ fq2,N<=a/\a<w2.heap.size:=by
 have e:c.1.map (mapX (fT ftU) d)=c.1:=by
  rw [fT_U]
  conv=>rhs;rw [<-List.map_id c.1]
  exact List.map_congr_left λx _=>Zhf d x
 rw [e] at h1;exact ZeF h1.1 h1.2 h2.1 ⟨h2.2.1,h2.2.2.1⟩ h2.2.2.2 hN
theorem cellS {w:World} {b j:Nat} {v:Value} {p:Addr} (h:p.block≠b):(w.setCell ⟨b,j,none⟩ v).cell? p=w.cell? p:=World.cell?_of_block (Below.heap_setCell _ _ _ _ h)
theorem exp_of {q:Pl} {near:Bool} {tv:ByteArray} {d:Nat} (hto:okS tv) (hE:ExpsS q near tv d):ExpS q near tv (d+1):=by
 intro w cs x hr hw;obtain ⟨qm,qn,qa,qc⟩:=q;have HTO:=hid hto;obtain ⟨kv,cv,rfl,o1,o2,o3,o4,hk,hcl⟩:=hr;obtain ⟨k0,n0,t0,m0,ks,cls⟩:=x;simp only [Ex.kind,Ex.n,Ex.text,Ex.mod,Ex.kids,Ex.clauses] at *;have hw':wtEx (d+1) (.mk k0 n0 t0 m0 ks cls)=t0.size+m0.size+wtS (wtEx d) ks+wtS (wtCl (wtEx d)) cls:=rfl;have HOK:Hid (okI k0/\okI n0/\okS t0/\okS m0):=⟨o1,o2,o3,o4⟩;have HKS:=hid hk;have HCS:=hid hcl;have HW1:Hid (wtS (wtEx d) ks<=16777216):=(by show _<=_;omega);have HW2:Hid (wtS (wtCl (wtEx d)) cls<=16777216):=(by show _<=_;omega);obtain ⟨p1,c1,rfl,hl1,hm1,-⟩:=hk;obtain ⟨p2,c2,rfl,-⟩:=hcl;have hn1m:ks.length<=9223372036854775807:=(by unfold maxLen at hm1;omega);generalize hn1:ks.length=n1 at *;generalize hn2:cls.length=n2 at *;have HL1:=hid hn1;have HL2:=hid hn2;obtain ⟨W3,hW3⟩:∃ W3,W3=((w.alloc (.cells #[.int .i64 k0,.int .i64 n0,.string t0,.string m0,.slice p1 n1 c1,.slice p2 n2 c2] 76)).alloc (.cells #[.string qm,.string qn,.int .i64 qa,.int .i64 qc] 31)).alloc (.cells #[.int .i64 0,.int .i64 0,.string ⟨#[]⟩,.string ⟨#[]⟩,.slice none 0 0,.slice none 0 0] 76):=⟨_,rfl⟩;have HW3:=hid hW3;have B3:Hid (Below w.heap.size w W3):=(by show Below _ _ _;rw [hW3];exact (((sqN _ _)).alloc (by simp) _).alloc (by simp only [Zb];omega) _);have e3:Hid (Blk W3 w.heap.size #[.int .i64 k0,.int .i64 n0,.string t0,.string m0,.slice p1 n1 c1,.slice p2 n2 c2] 76):=(by show Blk _ _ _ _;rw [hW3];exact Blk.new.alloc.alloc)
 have l3:Hid (Blk W3 (w.heap.size+1) #[.string qm,.string qn,.int .i64 qa,.int .i64 qc] 31):=by
  have:=Blk.new (w:=w.alloc (.cells #[.int .i64 k0,.int .i64 n0,.string t0,.string m0,.slice p1 n1 c1,.slice p2 n2 c2] 76)) (cs:=#[.string qm,.string qn,.int .i64 qa,.int .i64 qc]) (t:=31);rw [Zb] at this;show Blk _ _ _ _;rw [hW3];exact this.alloc
 have r3:Hid (Blk W3 (w.heap.size+1+1) #[.int .i64 0,.int .i64 0,.string ⟨#[]⟩,.string ⟨#[]⟩,.slice none 0 0,.slice none 0 0] 76):=by
  have:=Blk.new (w:=(w.alloc (.cells #[.int .i64 k0,.int .i64 n0,.string t0,.string m0,.slice p1 n1 c1,.slice p2 n2 c2] 76)).alloc (.cells #[.string qm,.string qn,.int .i64 qa,.int .i64 qc] 31)) (cs:=#[.int .i64 0,.int .i64 0,.string ⟨#[]⟩,.string ⟨#[]⟩,.slice none 0 0,.slice none 0 0]) (t:=76);rw [Zb,Zb] at this;show Blk _ _ _ _;rw [hW3];exact this
 have S3:Hid (W3.heap.size=w.heap.size+3):=(by show _=_;rw [hW3,Zb,Zb,Zb]);obtain ⟨V3,hV3⟩:∃ V3,V3=(W3.alloc (.cells #[.int .i64 0,.int .i64 0,.string ⟨#[]⟩,.string ⟨#[]⟩,.slice none 0 0,.slice none 0 0] 76)).drew:=⟨_,rfl⟩;have HV3:=hid hV3;have KV3:Hid (Below W3.heap.size W3 V3):=(by show Below _ _ _;rw [hV3];exact ((sqN _ _)).drew);have SV3:Hid (V3.heap.size=w.heap.size+4):=(by show _=_;rw [hV3];show (W3.alloc _).heap.size=_;rw [Zb,S3.out])
 have ob3:Hid (Blk V3 W3.heap.size #[.int .i64 0,.int .i64 0,.string ⟨#[]⟩,.string ⟨#[]⟩,.slice none 0 0,.slice none 0 0] 76):=by
  have:=Blk.new (w:=W3) (cs:=#[.int .i64 0,.int .i64 0,.string ⟨#[]⟩,.string ⟨#[]⟩,.slice none 0 0,.slice none 0 0]) (t:=76);show Blk _ _ _ _;rw [hV3];exact this
 have PA:Hid (∀ w',Below w.heap.size w w'->Calls Tryz.prog 84 #[.slice p1 n1 c1,.agg #[.string qm,.string qn,.int .i64 qa,.int .i64 qc],.bool near,.string qm,.string tv] w' (ResO w' λw' u fp=>Zg w' 76 6 (OEx w' d) u (ks.map (mapY (fT (ftN ⟨qm,qn,qa,qc⟩ near tv)) d)) fp)):=λw' hb=>hE w' _ ks (HKS.out.mono (Za.of_below hb) sqj (λ_ _ _ h=>h.mono (Za.of_below hb) sqj)) HW1.out
 have CELLS:Hid (∀ w',Below (w.heap.size+1+1) W3 w'->w'.cell? ⟨w.heap.size,0,none⟩=some (.int .i64 k0)/\w'.cell? ⟨w.heap.size,1,none⟩=some (.int .i64 n0)/\w'.cell? ⟨w.heap.size,2,none⟩=some (.string t0)/\w'.cell? ⟨w.heap.size,3,none⟩=some (.string m0)/\w'.cell? ⟨w.heap.size,4,none⟩=some (.slice p1 n1 c1)/\w'.cell? ⟨w.heap.size,5,none⟩=some (.slice p2 n2 c2)/\w'.cell? ⟨w.heap.size+1,0,none⟩=some (.string qm)/\w'.cell? ⟨w.heap.size+1,1,none⟩=some (.string qn)/\w'.cell? ⟨w.heap.size+1,2,none⟩=some (.int .i64 qa)/\w'.cell? ⟨w.heap.size+1,3,none⟩=some (.int .i64 qc)):=λw' h=>by
  have e:Blk w' w.heap.size #[.int .i64 k0,.int .i64 n0,.string t0,.string m0,.slice p1 n1 c1,.slice p2 n2 c2] 76:=(h.block _ (by omega)).trans e3.out;have f:Blk w' (w.heap.size+1) #[.string qm,.string qn,.int .i64 qa,.int .i64 qc] 31:=(h.block _ (by omega)).trans l3.out;exact ⟨e.cell 0 _ rfl,e.cell 1 _ rfl,e.cell 2 _ rfl,e.cell 3 _ rfl,e.cell 4 _ rfl,e.cell 5 _ rfl,f.cell 0 _ rfl,f.cell 1 _ rfl,f.cell 2 _ rfl,f.cell 3 _ rfl⟩
 have hs2:w.heap.size+1+1<=W3.heap.size:=(by rw [S3.out];omega);have CELLSA:Hid (∀ w0,Below (w.heap.size+1+1) W3 w0->∀ a b c e f g,((((((w0.setCell ⟨W3.heap.size,0,none⟩ a).setCell ⟨W3.heap.size,1,none⟩ b).setCell ⟨W3.heap.size,2,none⟩ c).setCell ⟨W3.heap.size,3,none⟩ e).setCell ⟨W3.heap.size,4,none⟩ f).setCell ⟨W3.heap.size,5,none⟩ g).cell? ⟨w.heap.size,0,none⟩=some (.int .i64 k0)/\((((((w0.setCell ⟨W3.heap.size,0,none⟩ a).setCell ⟨W3.heap.size,1,none⟩ b).setCell ⟨W3.heap.size,2,none⟩ c).setCell ⟨W3.heap.size,3,none⟩ e).setCell ⟨W3.heap.size,4,none⟩ f).setCell ⟨W3.heap.size,5,none⟩ g).cell? ⟨w.heap.size,1,none⟩=some (.int .i64 n0)/\((((((w0.setCell ⟨W3.heap.size,0,none⟩ a).setCell ⟨W3.heap.size,1,none⟩ b).setCell ⟨W3.heap.size,2,none⟩ c).setCell ⟨W3.heap.size,3,none⟩ e).setCell ⟨W3.heap.size,4,none⟩ f).setCell ⟨W3.heap.size,5,none⟩ g).cell? ⟨w.heap.size,2,none⟩=some (.string t0)/\((((((w0.setCell ⟨W3.heap.size,0,none⟩ a).setCell ⟨W3.heap.size,1,none⟩ b).setCell ⟨W3.heap.size,2,none⟩ c).setCell ⟨W3.heap.size,3,none⟩ e).setCell ⟨W3.heap.size,4,none⟩ f).setCell ⟨W3.heap.size,5,none⟩ g).cell? ⟨w.heap.size,3,none⟩=some (.string m0)/\((((((w0.setCell ⟨W3.heap.size,0,none⟩ a).setCell ⟨W3.heap.size,1,none⟩ b).setCell ⟨W3.heap.size,2,none⟩ c).setCell ⟨W3.heap.size,3,none⟩ e).setCell ⟨W3.heap.size,4,none⟩ f).setCell ⟨W3.heap.size,5,none⟩ g).cell? ⟨w.heap.size,4,none⟩=some (.slice p1 n1 c1)/\((((((w0.setCell ⟨W3.heap.size,0,none⟩ a).setCell ⟨W3.heap.size,1,none⟩ b).setCell ⟨W3.heap.size,2,none⟩ c).setCell ⟨W3.heap.size,3,none⟩ e).setCell ⟨W3.heap.size,4,none⟩ f).setCell ⟨W3.heap.size,5,none⟩ g).cell? ⟨w.heap.size,5,none⟩=some (.slice p2 n2 c2)/\((((((w0.setCell ⟨W3.heap.size,0,none⟩ a).setCell ⟨W3.heap.size,1,none⟩ b).setCell ⟨W3.heap.size,2,none⟩ c).setCell ⟨W3.heap.size,3,none⟩ e).setCell ⟨W3.heap.size,4,none⟩ f).setCell ⟨W3.heap.size,5,none⟩ g).cell? ⟨w.heap.size+1,0,none⟩=some (.string qm)/\((((((w0.setCell ⟨W3.heap.size,0,none⟩ a).setCell ⟨W3.heap.size,1,none⟩ b).setCell ⟨W3.heap.size,2,none⟩ c).setCell ⟨W3.heap.size,3,none⟩ e).setCell ⟨W3.heap.size,4,none⟩ f).setCell ⟨W3.heap.size,5,none⟩ g).cell? ⟨w.heap.size+1,1,none⟩=some (.string qn)/\((((((w0.setCell ⟨W3.heap.size,0,none⟩ a).setCell ⟨W3.heap.size,1,none⟩ b).setCell ⟨W3.heap.size,2,none⟩ c).setCell ⟨W3.heap.size,3,none⟩ e).setCell ⟨W3.heap.size,4,none⟩ f).setCell ⟨W3.heap.size,5,none⟩ g).cell? ⟨w.heap.size+1,2,none⟩=some (.int .i64 qa)/\((((((w0.setCell ⟨W3.heap.size,0,none⟩ a).setCell ⟨W3.heap.size,1,none⟩ b).setCell ⟨W3.heap.size,2,none⟩ c).setCell ⟨W3.heap.size,3,none⟩ e).setCell ⟨W3.heap.size,4,none⟩ f).setCell ⟨W3.heap.size,5,none⟩ g).cell? ⟨w.heap.size+1,3,none⟩=some (.int .i64 qc)):=λw0 h a b c e f g=>CELLS.out _ ((((((h.setCell (p:=⟨W3.heap.size,0,none⟩) hs2 _).setCell (p:=⟨W3.heap.size,1,none⟩) hs2 _).setCell (p:=⟨W3.heap.size,2,none⟩) hs2 _).setCell (p:=⟨W3.heap.size,3,none⟩) hs2 _).setCell (p:=⟨W3.heap.size,4,none⟩) hs2 _).setCell (p:=⟨W3.heap.size,5,none⟩) hs2 _);have CELLSB:Hid (∀ w0,Below (w.heap.size+1+1) W3 w0->∀ o,(w0.alloc o).cell? ⟨w.heap.size,0,none⟩=some (.int .i64 k0)/\(w0.alloc o).cell? ⟨w.heap.size,1,none⟩=some (.int .i64 n0)/\(w0.alloc o).cell? ⟨w.heap.size,2,none⟩=some (.string t0)/\(w0.alloc o).cell? ⟨w.heap.size,3,none⟩=some (.string m0)/\(w0.alloc o).cell? ⟨w.heap.size,4,none⟩=some (.slice p1 n1 c1)/\(w0.alloc o).cell? ⟨w.heap.size,5,none⟩=some (.slice p2 n2 c2)/\(w0.alloc o).cell? ⟨w.heap.size+1,0,none⟩=some (.string qm)/\(w0.alloc o).cell? ⟨w.heap.size+1,1,none⟩=some (.string qn)/\(w0.alloc o).cell? ⟨w.heap.size+1,2,none⟩=some (.int .i64 qa)/\(w0.alloc o).cell? ⟨w.heap.size+1,3,none⟩=some (.int .i64 qc)):=λw0 h o=>CELLS.out _ (h.alloc (by have:=h.size;have:=S3.out;omega) _);have CELLSD:Hid (∀ w0,Below (w.heap.size+1+1) W3 w0->∀ o,(w0.alloc o).drew.cell? ⟨w.heap.size,0,none⟩=some (.int .i64 k0)/\(w0.alloc o).drew.cell? ⟨w.heap.size,1,none⟩=some (.int .i64 n0)/\(w0.alloc o).drew.cell? ⟨w.heap.size,2,none⟩=some (.string t0)/\(w0.alloc o).drew.cell? ⟨w.heap.size,3,none⟩=some (.string m0)/\(w0.alloc o).drew.cell? ⟨w.heap.size,4,none⟩=some (.slice p1 n1 c1)/\(w0.alloc o).drew.cell? ⟨w.heap.size,5,none⟩=some (.slice p2 n2 c2)/\(w0.alloc o).drew.cell? ⟨w.heap.size+1,0,none⟩=some (.string qm)/\(w0.alloc o).drew.cell? ⟨w.heap.size+1,1,none⟩=some (.string qn)/\(w0.alloc o).drew.cell? ⟨w.heap.size+1,2,none⟩=some (.int .i64 qa)/\(w0.alloc o).drew.cell? ⟨w.heap.size+1,3,none⟩=some (.int .i64 qc)):=λw0 h o=>CELLS.out _ (h.alloc (by have:=h.size;have:=S3.out;omega) _).drew;obtain ⟨q0,q1,q2,q3,q4,q5,q6,q7,q8,q9⟩:=CELLS.out W3 (Below.refl _ _);clear hs2 hW3 hV3 hw hw' hn1 hn2 o1 o2 o3 o4 hto hl1 hm1;go_enter Tryz.func126,Tryz.ntmps126
 go_upto_region 1 with (rw [<-HW3.out])
 go_cut [11] (λs11 wc=>∃ (ob:Nat) (pu4:Option Addr) (cu4:Nat) (fp:List Nat),s11=.pointer (some ⟨ob,0,none⟩)/\Hid (Mid w wc d #[.int .i64 k0,.int .i64 n0,.string t0,.string m0,.slice p1 n1 c1,.slice p2 n2 c2] #[.string qm,.string qn,.int .i64 qa,.int .i64 qc] #[.int .i64 k0,.int .i64 n0,.string t0,.string m0,.slice pu4 n1 cu4,.slice none 0 0] (ks.map (mapY (fT (ftN ⟨qm,qn,qa,qc⟩ near tv)) d)) fp ob (.slice pu4 n1 cu4)))
 case first =>
  go_region_held3 (λw'=>w'.cell? ⟨w.heap.size,0,none⟩=some (.int .i64 k0)/\w'.cell? ⟨w.heap.size,1,none⟩=some (.int .i64 n0)/\w'.cell? ⟨w.heap.size,2,none⟩=some (.string t0)/\w'.cell? ⟨w.heap.size,3,none⟩=some (.string m0)/\w'.cell? ⟨w.heap.size,4,none⟩=some (.slice p1 n1 c1)/\w'.cell? ⟨w.heap.size,5,none⟩=some (.slice p2 n2 c2)/\w'.cell? ⟨w.heap.size+1,0,none⟩=some (.string qm)/\w'.cell? ⟨w.heap.size+1,1,none⟩=some (.string qn)/\w'.cell? ⟨w.heap.size+1,2,none⟩=some (.int .i64 qa)/\w'.cell? ⟨w.heap.size+1,3,none⟩=some (.int .i64 qc))
   (first | with_reducible exact CELLSA.out _ KA.out _ _ _ _ _ _ | with_reducible exact CELLSB.out _ KB.out _ | with_reducible exact CELLS.out _ KB.out | with_reducible exact CELLS.out _ KA.out | with_reducible exact CELLSD.out _ (Below.refl _ _) _ | with_reducible exact CELLS.out _ (Below.refl _ _).drew)
   (first
    | (go_at_call 84;rw [<-HV3.out];refine (PA.out V3 (B3.out.trans (KV3.out.mono B3.out.size))).mono ?_;rintro e w4 ⟨u4,fp,rfl,ho4,hnd4,hrg4,hb4⟩;obtain ⟨pu4,cu4,hu4,-⟩:=ho4.shape;rw [List.length_map,HL1.out] at hu4;subst hu4;have HO4:=hid ho4;have ND4:Hid (fp.Nodup/\∀ a ∈ fp,V3.heap.size<=a/\a<w4.heap.size):=⟨hnd4,hrg4⟩;have M4:Hid (Below V3.heap.size V3 w4):=hb4;have KA:Hid (Below (w.heap.size+1+1) W3 w4):=(KV3.out.trans (M4.out.mono KV3.out.size)).mono (by have h2:=S3.out;omega);have rr:=ob3.out.next M4.out;have HRR:=hid rr;have y0:=rr.cell 0 _ rfl;have g0:=rr.frozen 0;have y1:=rr.cell 1 _ rfl;have g1:=rr.frozen 1;have y2:=rr.cell 2 _ rfl;have g2:=rr.frozen 2;have y3:=rr.cell 3 _ rfl;have g3:=rr.frozen 3;have y4:=rr.cell 4 _ rfl;have g4:=rr.frozen 4;have y5:=rr.cell 5 _ rfl;have g5:=rr.frozen 5;clear rr ho4 hnd4 hrg4 hb4)
    | (go_at_call 84;refine (PA.out W3.drew B3.out.drew).mono ?_;rintro e w4 ⟨u4,fp,rfl,ho4,hnd4,hrg4,hb4⟩;obtain ⟨pu4,cu4,hu4,-⟩:=ho4.shape;rw [List.length_map,HL1.out] at hu4;subst hu4;have HO4:=hid ho4;have ND4:Hid (fp.Nodup/\∀ a ∈ fp,W3.heap.size<=a/\a<w4.heap.size):=⟨hnd4,hrg4⟩;have M4:Hid (Below W3.heap.size W3 w4):=Z5 hb4;have KB:Hid (Below (w.heap.size+1+1) W3 w4):=M4.out.mono (by have h2:=S3.out;omega);clear ho4 hnd4 hrg4 hb4))
  all_goals
   go_split_ands;go_wp2_with fail
   go_meet
   case rel =>
    first
    | (have hrr:=HRR
       have mB:Mid w w4 d #[.int .i64 k0,.int .i64 n0,.string t0,.string m0,.slice p1 n1 c1,.slice p2 n2 c2] #[.string qm,.string qn,.int .i64 qa,.int .i64 qc] #[.int .i64 0,.int .i64 0,.string ⟨#[]⟩,.string ⟨#[]⟩,.slice none 0 0,.slice none 0 0] (ks.map (mapY (fT (ftN ⟨qm,qn,qa,qc⟩ near tv)) d)) fp W3.heap.size (.slice pu4 n1 cu4):=⟨B3.out.trans ((KV3.out.trans (M4.out.mono KV3.out.size)).mono B3.out.size),e3.out.next (KV3.out.trans (M4.out.mono KV3.out.size)),l3.out.next (KV3.out.trans (M4.out.mono KV3.out.size)),r3.out.next (KV3.out.trans (M4.out.mono KV3.out.size)),HRR.out,HO4.out,ND4.out.1,λa ha=>by have:=ND4.out.2 a ha;have:=S3.out;have:=SV3.out;omega,by have:=S3.out;omega⟩;have mC:=mB.turn (V':=((((((w4.setCell ⟨W3.heap.size,0,none⟩ (.int .i64 k0)).setCell ⟨W3.heap.size,1,none⟩ (.int .i64 n0)).setCell ⟨W3.heap.size,2,none⟩ (.string t0)).setCell ⟨W3.heap.size,3,none⟩ (.string m0)).setCell ⟨W3.heap.size,4,none⟩ (.slice pu4 n1 cu4)).setCell ⟨W3.heap.size,5,none⟩ (.slice none 0 0))) (R':=#[.int .i64 k0,.int .i64 n0,.string t0,.string m0,.slice pu4 n1 cu4,.slice none 0 0]) ((((((ZbH _).trans (ZbH _)).trans (ZbH _)).trans (ZbH _)).trans (ZbH _)).trans (ZbH _)) ((((((HRR.out.same rfl).same rfl).same rfl).same rfl).same rfl).same rfl)
       exact ⟨W3.heap.size,pu4,cu4,fp,rfl,mC⟩)
    | (have al:Below w4.heap.size w4 (w4.alloc (.cells #[.int .i64 k0,.int .i64 n0,.string t0,.string m0,.slice pu4 n1 cu4,.slice none 0 0] 76)):=(sqN _ _)
       have kk:Zj fp w4 (w4.alloc (.cells #[.int .i64 k0,.int .i64 n0,.string t0,.string m0,.slice pu4 n1 cu4,.slice none 0 0] 76)):=λa ha=>al.block a (ND4.out.2 a ha).2;have s4:=M4.out.size;have s2:=S3.out
       exact ⟨w4.heap.size,pu4,cu4,fp,rfl,⟨(B3.out.trans (M4.out.mono B3.out.size)).trans (al.mono (by omega)),(e3.out.next M4.out).next al,(l3.out.next M4.out).next al,(r3.out.next M4.out).next al,Blk.new,HO4.out.keep kk (λcs x f _ hs h=>h.keep (kk.sub hs)),ND4.out.1,λa ha=>by have:=ND4.out.2 a ha;rw [Zb];omega,by omega⟩⟩)
 case rest =>
  obtain ⟨ob,pu4,cu4,fp,rfl,HM⟩:=hcut;have hobl:=HM.out.obl;have u0':=HM.out.box.cell 0 _ rfl;have u2':=HM.out.box.cell 2 _ rfl;have u3':=HM.out.box.cell 3 _ rfl;have u4':=HM.out.box.cell 4 _ rfl;have v0':=HM.out.pl.cell 0 _ rfl;have v1':=HM.out.pl.cell 1 _ rfl;have v2':=HM.out.pl.cell 2 _ rfl;clear q0 q1 q2 q3 q4 q5 q6 q7 q8 q9
  go_upto_region 2 with fail
  go_cut [46] (λs46 wx=>s46=.bool (decide (k0=8) && (t0.toList == qn.toList && (n1:Int) == qa))/\wx=wc)
  case first =>
   by_cases hk8:k0=8
   . have hk8b:(k0 == 8)=true:=by simpa using hk8
     cases g1:(t0.toList == qn.toList) with
     | true =>
      cases g2:((n1:Int) == qa) with
      | true =>
       have HBB:Hid ((decide (k0=8) && (t0.toList == qn.toList && (n1:Int) == qa))=true):=(by show _=_;rw [decide_eq_true hk8,g1,g2];rfl);go_wp2_with fail
       go_meet
       case rel=>exact ⟨congrArg Value.bool HBB.out.symm,rfl⟩
      | false =>
       have HBB:Hid ((decide (k0=8) && (t0.toList == qn.toList && (n1:Int) == qa))=false):=(by show _=_;rw [decide_eq_true hk8,g1,g2];rfl);go_wp2_with fail
       go_meet
       case rel=>exact ⟨congrArg Value.bool HBB.out.symm,rfl⟩
     | false =>
      have HBB:Hid ((decide (k0=8) && (t0.toList == qn.toList && (n1:Int) == qa))=false):=(by show _=_;rw [decide_eq_true hk8,g1];rfl);go_wp2_with fail
      go_meet
      case rel=>exact ⟨congrArg Value.bool HBB.out.symm,rfl⟩
   . have hk8b:(k0 == 8)=false:=by simpa using hk8
     have HBB:Hid ((decide (k0=8) && (t0.toList == qn.toList && (n1:Int) == qa))=false):=(by show _=_;rw [decide_eq_false hk8];rfl);go_wp2_with fail
     go_meet
     case rel=>exact ⟨congrArg Value.bool HBB.out.symm,rfl⟩
  case rest =>
   obtain ⟨rfl,hwx⟩:=hcut;subst hwx;generalize hB:(decide (k0=8) && (t0.toList == qn.toList && (n1:Int) == qa))=B;have HBB:=hid hB
   have HCN:Hid (ZkS ⟨qm,qn,qa,qc⟩ near k0 t0 m0 n1=(B && (m0.toList == qm.toList || (m0.toList.isEmpty && near)))):=by
    show _=_;unfold ZkS;simp only;rw [<-Bool.and_assoc,hB]
   clear hB;have o2':=HM.out.out.cell 2 _ rfl;have o3':=HM.out.out.cell 3 _ rfl;have f2':=HM.out.out.frozen 2;have f3':=HM.out.out.frozen 3;have hne1:w.heap.size≠ob:=(by omega);have hne2:w.heap.size+1≠ob:=(by omega)
   go_upto_if 46 with fail
   go_cut [] (λwx=>Hid (Mid w wx d #[.int .i64 k0,.int .i64 n0,.string t0,.string m0,.slice p1 n1 c1,.slice p2 n2 c2] #[.string qm,.string qn,.int .i64 qa,.int .i64 qc] #[.int .i64 k0,.int .i64 n0,.string (ftN ⟨qm,qn,qa,qc⟩ near tv k0 t0 m0 n1),.string m0,.slice pu4 n1 cu4,.slice none 0 0] (ks.map (mapY (fT (ftN ⟨qm,qn,qa,qc⟩ near tv)) d)) fp ob (.slice pu4 n1 cu4)))
   case first =>
    cases B with
    | false =>
     have HT:Hid (ftN ⟨qm,qn,qa,qc⟩ near tv k0 t0 m0 n1=t0):=(by show _=_;unfold ftN;rw [HCN.out];rfl);go_wp2_with fail
     go_meet
     case rel=>rw [HT.out];exact HM
    | true =>
     cases g3:(m0.toList == qm.toList) with
     | true =>
      have HT:Hid (ftN ⟨qm,qn,qa,qc⟩ near tv k0 t0 m0 n1=tv):=by show _=_;unfold ftN;rw [HCN.out,g3];rfl
      have HQM:Hid (qm=m0):=by
       show _=_;by_cases e:m0=qm
       . exact e.symm
       . rw [ZfC e] at g3;cases g3
      go_wp2_with fail
      go_meet
      case rel =>
       rw [HT.out];have h2:=(HM.out.turn (ZbH (j:=3) (.string qm)) (HM.out.out.same (j:=3) (v:=.string qm) rfl)).turn (ZbH (j:=2) (.string tv)) ((HM.out.out.same (j:=3) (v:=.string qm) rfl).same (j:=2) (v:=.string tv) rfl);have e:=HQM.out;subst e;exact h2
     | false =>
      by_cases hmx:m0.toList = []
      . have hmb:(m0.toList == ([]:List UInt8))=true:=by rw [hmx];rfl
        have hmc:m0.toList.isEmpty=true:=by rw [hmx];rfl
        cases near with
        | true =>
         have HT:Hid (ftN ⟨qm,qn,qa,qc⟩ true tv k0 t0 m0 n1=tv):=(by show _=_;unfold ftN;rw [HCN.out,g3,hmc];rfl);clear hmx;go_wp2_with fail
         go_meet
         case rel =>
          rw [HT.out];exact HM.out.turn (ZbH (j:=2) (.string tv)) (HM.out.out.same (j:=2) (v:=.string tv) rfl)
        | false =>
         have HT:Hid (ftN ⟨qm,qn,qa,qc⟩ false tv k0 t0 m0 n1=t0):=(by show _=_;unfold ftN;rw [HCN.out,g3,hmc];rfl);clear hmx;go_wp2_with fail
         go_meet
         case rel=>rw [HT.out];exact HM
      . have hmb:(m0.toList == ([]:List UInt8))=false:=by simpa using hmx
        have hmc:m0.toList.isEmpty=false:=(by simpa using hmx);have HT:Hid (ftN ⟨qm,qn,qa,qc⟩ near tv k0 t0 m0 n1=t0):=(by show _=_;unfold ftN;rw [HCN.out,g3,hmc];rfl);clear hmx;go_wp2_with fail
        go_meet
        case rel=>rw [HT.out];exact HM
   case rest =>
    have HMX:=hcut;generalize htx:ftN ⟨qm,qn,qa,qc⟩ near tv k0 t0 m0 n1=tx at HMX;have HTY:=hid htx;clear htx hcut u0' u2' u3' u4' v0' v1' v2' o2' o3' f2' f3' HM HBB HCN hne1 hne2;go_wp2_with fail;obtain ⟨V0,hV0⟩:∃ V0,V0=wc:=⟨wc,rfl⟩;rw [<-hV0] at HMX ⊢;clear hV0;have hobl':ob<V0.heap.size:=HMX.out.out.lt
    go_loopw [12] (λiv wr=>∃ (i:Nat) (cv:Value),i<=n2/\iv=.int .i64 i/\Hid (OffB ob V0.heap.size V0 wr)/\Hid (Blk wr ob #[.int .i64 k0,.int .i64 n0,.string tx,.string m0,.slice pu4 n1 cu4,cv] 76)/\Hid (ZV 46 2 (λw=>OCl w (OEx w d)) wr V0.heap.size wr.heap.size cv ((cls.take i).map (Zao (fT (ftN ⟨qm,qn,qa,qc⟩ near tv)) d)))) (λiv _=>n2 - (intOf iv).toNat)
    case atStart=>exact ⟨0,.slice none 0 0,Nat.zero_le _,rfl,OffB.refl _ _ _,HMX.out.out,ZV.nil (sqR _)⟩
    case round =>
     obtain ⟨i,cv,hi,rfl,HO,HR,HG⟩:=hrel;have bx:=HO.out.blk HMX.out.box HMX.out.box.lt (by have:=HMX.out.obl;omega);have bp:=HO.out.blk HMX.out.pl HMX.out.pl.lt (by have:=HMX.out.obl;omega);have e5:=bx.cell 5 _ rfl;have p0:=bp.cell 0 _ rfl;have p1':=bp.cell 1 _ rfl;have p2':=bp.cell 2 _ rfl;have p3':=bp.cell 3 _ rfl;have hi0:=sqI i;have HBW:Hid (Below w.heap.size w wr):=HMX.out.bel.trans (HO.out.below HMX.out.bel.size (by have:=HMX.out.obl;omega));have hn2b:n2<=16777216:=(by have h1:=HW2.out;unfold wtS at h1;have h2:=HL2.out;omega);by_cases hlt2:i<n2
     . obtain ⟨c,hck⟩:∃ c,cls[i]?=some c:=⟨cls[i]'(by rw [HL2.out];exact hlt2),List.getElem?_eq_getElem _⟩
       obtain ⟨pz,cz,hz,-,-,hzx⟩:=HCS.out;obtain ⟨g,off,hpz,-,hgl,hat⟩:=hzx (by intro h;rw [h] at hck;simp at hck);simp only [Value.slice.injEq] at hz;obtain ⟨rfl,-,rfl⟩:=hz;subst hpz;obtain ⟨cs,hc2,hcs,hcl⟩:=hat i c hck;have HCLR:=hid hcl;obtain ⟨r1,m1,s1,r2',m2,s2,rfl⟩:=HCl.shapeR hcl;have a0:=hcs 0 (by omega);have a1:=hcs 1 (by omega);clear hcs hat hzx;rw [<-HBW.out.cell (p:=⟨g,_,none⟩) hgl] at a0 a1;simp at a0 a1;have hli:(i:Int)<(n2:Int):=(by omega)
       have HWX:Hid (wtCl (wtEx d) c<=16777216):=by
        show _<=_;have h1:=HW2.out;have h2:=Ze (wtCl (wtEx d)) cls i c hck;have h3:=Zf (wtCl (wtEx d)) cls (i+1);unfold wtS at h1;omega
       have HMS:Hid ((cls.take (i+1)).map (Zao (fT (ftN ⟨qm,qn,qa,qc⟩ near tv)) d)=(cls.take i).map (Zao (fT (ftN ⟨qm,qn,qa,qc⟩ near tv)) d) ++ [Zao (fT (ftN ⟨qm,qn,qa,qc⟩ near tv)) d c]):=ZaC _ hck;have hll:((cls.take i).map (Zao (fT (ftN ⟨qm,qn,qa,qc⟩ near tv)) d)).length<=100000000:=(by rw [List.length_map,List.length_take];omega);generalize (cls.take i).map (Zao (fT (ftN ⟨qm,qn,qa,qc⟩ near tv)) d)=acc at *;have xo5:=HR.out.cell 5 _ rfl;have zo5:=HR.out.frozen 5;have hgw:g<wr.heap.size:=Nat.lt_of_lt_of_le hgl HBW.out.size;have how:ob<wr.heap.size:=HR.out.lt;clear hcl hc2 bx bp
       go_upto_region 13 with fail
       have CEL:Hid (∀ w',Below wr.heap.size wr w'->(λw'=>w'.cell? ⟨w.heap.size,5,none⟩=some (.slice (some ⟨g,off,none⟩) n2 c2)/\w'.cell? ⟨g,off+i * 2,none⟩=some (.slice r1 m1 s1)/\w'.cell? ⟨g,off+i * 2+1,none⟩=some (.slice r2' m2 s2)/\w'.cell? ⟨w.heap.size+1,0,none⟩=some (.string qm)/\w'.cell? ⟨w.heap.size+1,1,none⟩=some (.string qn)/\w'.cell? ⟨w.heap.size+1,2,none⟩=some (.int .i64 qa)/\w'.cell? ⟨w.heap.size+1,3,none⟩=some (.int .i64 qc)) w'):=λw' hb=>⟨Zd hb e5,Zd hb a0,Zd hb a1,Zd hb p0,Zd hb p1',Zd hb p2',Zd hb p3'⟩;have hv0:w.heap.size<V0.heap.size:=HMX.out.box.lt;have hv1:w.heap.size+1<V0.heap.size:=HMX.out.pl.lt;have hv2:g<V0.heap.size:=Nat.lt_of_lt_of_le hgl HMX.out.bel.size;have hn0:w.heap.size≠ob:=(by have:=HMX.out.obl;omega);have hn1':w.heap.size+1≠ob:=(by have:=HMX.out.obl;omega);have hn2':g≠ob:=(by have:=HMX.out.obl;omega);have xd5:wr.drew.cell? ⟨ob,5,none⟩=some cv:=xo5;have PU:Hid (Calls Tryz.prog 144 #[.slice r1 m1 s1] wr.drew (ResO wr.drew λw' u fp=>Zg w' 76 6 (OEx w' d) u (c.1.map (mapX (fT ftU) d)) fp)):=CpU.exps d wr.drew _ c.1 (clL HCLR.out HBW.out.drew).1 (clW HWX.out).1;have PB:Hid (∀ w1,Below wr.heap.size wr w1->Calls Tryz.prog 84 #[.slice r2' m2 s2,.agg #[.string qm,.string qn,.int .i64 qa,.int .i64 qc],.bool near,.string qm,.string tv] w1 (ResO w1 λw' u fp=>Zg w' 76 6 (OEx w' d) u (c.2.map (mapY (fT (ftN ⟨qm,qn,qa,qc⟩ near tv)) d)) fp)):=λw1 hb=>hE w1 _ c.2 (clL HCLR.out (HBW.out.trans (hb.mono HBW.out.size))).2 (clW HWX.out).2;have LU:Hid ((c.1.map (mapX (fT ftU) d)).length=m1):=(List.length_map ..).trans (clN HCLR.out).1;have LB:Hid ((c.2.map (mapY (fT (ftN ⟨qm,qn,qa,qc⟩ near tv)) d)).length=m2):=(List.length_map ..).trans (clN HCLR.out).2;have ZO:Hid (∀ x1 x2 z1 z2 fq1 fq2 w1 w2,Hid (Zg w1 76 6 (OEx w1 d) (.slice x1 m1 z1) (c.1.map (mapX (fT ftU) d)) fq1/\fq1.Nodup/\∀ a ∈ fq1,wr.heap.size<=a/\a<w1.heap.size)->Hid (Zg w2 76 6 (OEx w2 d) (.slice x2 m2 z2) (c.2.map (mapY (fT (ftN ⟨qm,qn,qa,qc⟩ near tv)) d)) fq2/\fq2.Nodup/\(∀ a ∈ fq2,w1.heap.size<=a/\a<w2.heap.size)/\Below w1.heap.size w1 w2)->Below wr.heap.size wr w1->OCl w2 (OEx w2 d) [.slice x1 m1 z1,.slice x2 m2 z2] (Zao (fT (ftN ⟨qm,qn,qa,qc⟩ near tv)) d c) (fq1 ++ fq2)/\(fq1 ++ fq2).Nodup/\∀ a ∈ fq1 ++ fq2,wr.heap.size<=a/\a<w2.heap.size):=λx1 x2 z1 z2 fq1 fq2 w1 w2 h1 h2 hb=>clO h1.out h2.out hb.size
       have CE6:Hid (∀ wa wb,Below wr.heap.size wr wa->Below V0.heap.size wa wb->(λw'=>w'.cell? ⟨w.heap.size,5,none⟩=some (.slice (some ⟨g,off,none⟩) n2 c2)/\w'.cell? ⟨g,off+i * 2,none⟩=some (.slice r1 m1 s1)/\w'.cell? ⟨g,off+i * 2+1,none⟩=some (.slice r2' m2 s2)/\w'.cell? ⟨w.heap.size+1,0,none⟩=some (.string qm)/\w'.cell? ⟨w.heap.size+1,1,none⟩=some (.string qn)/\w'.cell? ⟨w.heap.size+1,2,none⟩=some (.int .i64 qa)/\w'.cell? ⟨w.heap.size+1,3,none⟩=some (.int .i64 qc)) wb):=λwa wb h1 h2=>by obtain ⟨c0,c1,c2,c3,c4,c5,c6⟩:=CEL.out wa h1;exact ⟨(h2.cell (p:=⟨w.heap.size,5,none⟩) hv0).trans c0,(h2.cell (p:=⟨g,_,none⟩) hv2).trans c1,(h2.cell (p:=⟨g,_,none⟩) hv2).trans c2,(h2.cell (p:=⟨w.heap.size+1,0,none⟩) hv1).trans c3,(h2.cell (p:=⟨w.heap.size+1,1,none⟩) hv1).trans c4,(h2.cell (p:=⟨w.heap.size+1,2,none⟩) hv1).trans c5,(h2.cell (p:=⟨w.heap.size+1,3,none⟩) hv1).trans c6⟩
       have CE7:Hid (∀ wb:World,∀ v,(λw'=>w'.cell? ⟨w.heap.size,5,none⟩=some (.slice (some ⟨g,off,none⟩) n2 c2)/\w'.cell? ⟨g,off+i * 2,none⟩=some (.slice r1 m1 s1)/\w'.cell? ⟨g,off+i * 2+1,none⟩=some (.slice r2' m2 s2)/\w'.cell? ⟨w.heap.size+1,0,none⟩=some (.string qm)/\w'.cell? ⟨w.heap.size+1,1,none⟩=some (.string qn)/\w'.cell? ⟨w.heap.size+1,2,none⟩=some (.int .i64 qa)/\w'.cell? ⟨w.heap.size+1,3,none⟩=some (.int .i64 qc)) wb->(λw'=>w'.cell? ⟨w.heap.size,5,none⟩=some (.slice (some ⟨g,off,none⟩) n2 c2)/\w'.cell? ⟨g,off+i * 2,none⟩=some (.slice r1 m1 s1)/\w'.cell? ⟨g,off+i * 2+1,none⟩=some (.slice r2' m2 s2)/\w'.cell? ⟨w.heap.size+1,0,none⟩=some (.string qm)/\w'.cell? ⟨w.heap.size+1,1,none⟩=some (.string qn)/\w'.cell? ⟨w.heap.size+1,2,none⟩=some (.int .i64 qa)/\w'.cell? ⟨w.heap.size+1,3,none⟩=some (.int .i64 qc)) (wb.setCell ⟨ob,5,none⟩ v)):=λwb v ⟨c0,c1,c2,c3,c4,c5,c6⟩=>⟨(cellS (p:=⟨w.heap.size,5,none⟩) hn0).trans c0,(cellS (p:=⟨g,_,none⟩) hn2').trans c1,(cellS (p:=⟨g,_,none⟩) hn2').trans c2,(cellS (p:=⟨w.heap.size+1,0,none⟩) hn1').trans c3,(cellS (p:=⟨w.heap.size+1,1,none⟩) hn1').trans c4,(cellS (p:=⟨w.heap.size+1,2,none⟩) hn1').trans c5,(cellS (p:=⟨w.heap.size+1,3,none⟩) hn1').trans c6⟩
       have FINX:Hid (∀ (wb w6':World) (v6:Value),Below wr.heap.size wr wb->Below V0.heap.size wb w6'->ZV 46 2 (λw=>OCl w (OEx w d)) w6' V0.heap.size w6'.heap.size v6 (acc ++ [Zao (fT (ftN ⟨qm,qn,qa,qc⟩ near tv)) d c])->Hid (OffB ob V0.heap.size V0 (w6'.setCell ⟨ob,5,none⟩ v6))/\Hid (Blk (w6'.setCell ⟨ob,5,none⟩ v6) ob #[.int .i64 k0,.int .i64 n0,.string tx,.string m0,.slice pu4 n1 cu4,v6] 76)/\Hid (ZV 46 2 (λw=>OCl w (OEx w d)) (w6'.setCell ⟨ob,5,none⟩ v6) V0.heap.size (w6'.setCell ⟨ob,5,none⟩ v6).heap.size v6 ((cls.take (i+1)).map (Zao (fT (ftN ⟨qm,qn,qa,qc⟩ near tv)) d)))):=λwb w6 v6 kb b6 g6=>by
        have s7:(w6.setCell ⟨ob,5,none⟩ v6).heap.size=w6.heap.size:=(by simp [World.setCell]);refine ⟨CpV.offB_set (HO.out.trans ((OffB.of_below (kb.mono HO.out.size)).trans (OffB.of_below b6))) _,?_,?_⟩
        . have h1:Blk w6 ob #[.int .i64 k0,.int .i64 n0,.string tx,.string m0,.slice pu4 n1 cu4,cv] 76:=(b6.block ob hobl').trans (HR.out.next kb)
          exact h1.same rfl
        . show ZV _ _ _ _ _ _ _ _
          rw [HMS.out,s7];exact g6.off (ZbW d) (ZbH _) hobl'
       refine wp_region_noPanic ?_;refine wp_region_held_drew (S:=(λw'=>w'.cell? ⟨w.heap.size,5,none⟩=some (.slice (some ⟨g,off,none⟩) n2 c2)/\w'.cell? ⟨g,off+i * 2,none⟩=some (.slice r1 m1 s1)/\w'.cell? ⟨g,off+i * 2+1,none⟩=some (.slice r2' m2 s2)/\w'.cell? ⟨w.heap.size+1,0,none⟩=some (.string qm)/\w'.cell? ⟨w.heap.size+1,1,none⟩=some (.string qn)/\w'.cell? ⟨w.heap.size+1,2,none⟩=some (.int .i64 qa)/\w'.cell? ⟨w.heap.size+1,3,none⟩=some (.int .i64 qc))) (by kernel_rfl) (CEL.out _ (Below.refl _ _).drew) (λhHeld=>?_);refine tkH 0 ?_
       try simp only [sqP]
       refine tkH 2 ?_
       try simp only [sqP]
       refine tkH 3 ?_
       try simp only [sqP]
       refine tkH 4 ?_
       try simp only [sqP]
       refine tkH 5 ?_
       try simp only [sqP]
       refine tkH 6 ?_
       try simp only [sqP]
       refine tkH 7 ?_
       try simp only [sqP]
       refine tkH 9 ?_
       try simp only [sqP]
       refine tkH 10 ?_
       try simp only [sqP]
       refine tkH 11 ?_
       try simp only [sqP]
       refine tkH 12 ?_
       try simp only [sqP]
       refine tkH 13 ?_
       try simp only [sqP]
       refine tkH 14 ?_
       try simp only [sqP]
       refine tkH 15 ?_
       try simp only [sqP]
       refine tkH 16 ?_
       try simp only [sqP]
       refine tkH 17 ?_
       try simp only [sqP]
       refine tkH 18 ?_
       try simp only [sqP]
       refine twoH 1 8 (λK hK=>?_) (λK hK=>?_)
       . skip
         go_simp
         refine hK.out _ _ (CEL.out _ (Below.refl _ _).drew) (λhHeld=>?_);clear hK K
         try simp only [sqP]
         refine oneH 8 (λK hK=>?_)
         go_simp
         go_at_call 144
         refine (PU.out).mono ?_;rintro e w1 ⟨v1,fq1,rfl,ho1,hnd1,hrg1,hb1⟩;obtain ⟨x1,z1,hv1,-⟩:=ho1.shape;rw [LU.out] at hv1;subst hv1;have K1:Hid (Below wr.heap.size wr w1):=Z5 hb1;have U1:Hid (Zg w1 76 6 (OEx w1 d) (.slice x1 m1 z1) (c.1.map (mapX (fT ftU) d)) fq1/\fq1.Nodup/\∀ a ∈ fq1,wr.heap.size<=a/\a<w1.heap.size):=⟨ho1,hnd1,hrg1⟩;have k5:=Zd K1.out xo5;clear ho1 hnd1 hrg1 hb1;refine hK.out _ _ (CEL.out _ K1.out) (λhHeld=>?_);clear hK K
         try simp only [sqP]
         refine oneH 19 (λK hK=>?_)
         go_simp
         go_at_call 84
         refine (PB.out w1 K1.out).mono ?_;rintro e w2 ⟨v2,fq2,rfl,ho2,hnd2,hrg2,hb2⟩;obtain ⟨x2,z2,hv2,-⟩:=ho2.shape;rw [LB.out] at hv2;subst hv2;have K2:Hid (Below wr.heap.size wr w2):=K1.out.trans (hb2.mono K1.out.size);have U2:Hid (Zg w2 76 6 (OEx w2 d) (.slice x2 m2 z2) (c.2.map (mapY (fT (ftN ⟨qm,qn,qa,qc⟩ near tv)) d)) fq2/\fq2.Nodup/\(∀ a ∈ fq2,w1.heap.size<=a/\a<w2.heap.size)/\Below w1.heap.size w1 w2):=⟨ho2,hnd2,hrg2,hb2⟩;have l5:=Zd K2.out xo5;have lf:=ZaG K2.out xo5 zo5;have KB:Hid (Below wr.heap.size wr (w2.alloc (.cells #[.slice x1 m1 z1,.slice x2 m2 z2] 46))):=K2.out.alloc K2.out.size _;have j5:=Zd KB.out xo5;clear ho2 hnd2 hrg2 hb2;refine hK.out _ _ (CEL.out _ K2.out) (λhHeld=>?_);clear hK K
         try simp only [sqP]
         refine tkH 20 ?_
         try simp only [sqP]
         refine oneH 21 (λK hK=>?_)
         go_simp
         refine hK.out _ _ (CEL.out _ KB.out) (λhHeld=>?_);clear hK K
         try simp only [sqP]
         refine oneH 22 (λK hK=>?_);refine ZbV (ZbW d) 57 46 2 48 _ (by rfl) _ _ (by rfl) Tryz.underlying57 Zjo rfl (by decide) (by decide) V0.heap.size wr.heap.size cv acc (by rfl) [.slice x1 m1 z1,.slice x2 m2 z2] _ (by rfl) (by rfl) (Zao (fT (ftN ⟨qm,qn,qa,qc⟩ near tv)) d c) (fq1 ++ fq2) (HG.out.next (ZbW d) K2.out) (ZO.out x1 x2 z1 z2 fq1 fq2 w1 w2 U1 U2 K1.out).1 (ZO.out x1 x2 z1 z2 fq1 fq2 w1 w2 U1 U2 K1.out).2.1 (ZO.out x1 x2 z1 z2 fq1 fq2 w1 w2 U1 U2 K1.out).2.2 rfl oneC hll ?_;intro g6 cap6 w6 hg6 hb6;have G6:=hid hg6;have B6:=hid hb6;have n5:w6.cell? ⟨ob,5,none⟩=some cv:=(hb6.cell (p:=⟨ob,5,none⟩) hobl').trans j5;have nf5:w6.frozen? ⟨ob,5,none⟩=false:=(World.frozen?_of_block (hb6.block ob hobl')).trans (ZaG KB.out xo5 zo5);have C6:=CE6.out _ w6 KB.out hb6;clear hg6 hb6;refine hK.out _ _ (C6) (λhHeld=>?_);clear hK K
         try simp only [sqP]
         refine tkH 23 ?_
         try simp only [sqP]
         refine oneH 24 (λK hK=>?_)
         go_simp
         refine hK.out _ _ (CE7.out w6 _ C6) (λhHeld=>?_);clear hK K
         try simp only [sqP]
         refine wpAnyH_done (by kernel_rfl) ?_ _;refine NoPanic.normal ?_;obtain ⟨O7,R7,G7⟩:=FINX.out _ w6 (.slice (some ⟨g6,0,none⟩) (acc.length+1) cap6) KB.out B6.out G6.out;generalize w6.setCell ⟨ob,5,none⟩ (.slice (some ⟨g6,0,none⟩) (acc.length+1) cap6)=W7 at O7 R7 G7 ⊢;clear n5 nf5 k5 l5 lf j5 xo5 zo5 a0 a1 e5 hHeld C6 p0 p1' p2' p3' xd5;go_wp2_with fail;exact ⟨⟨i+1,_,by omega,by go_num,O7.out,R7.out,G7.out⟩,by simp [intOf];omega⟩
       . skip
         go_simp
         go_at_call 144
         refine (PU.out).mono ?_;rintro e w1 ⟨v1,fq1,rfl,ho1,hnd1,hrg1,hb1⟩;obtain ⟨x1,z1,hv1,-⟩:=ho1.shape;rw [LU.out] at hv1;subst hv1;have K1:Hid (Below wr.heap.size wr w1):=Z5 hb1;have U1:Hid (Zg w1 76 6 (OEx w1 d) (.slice x1 m1 z1) (c.1.map (mapX (fT ftU) d)) fq1/\fq1.Nodup/\∀ a ∈ fq1,wr.heap.size<=a/\a<w1.heap.size):=⟨ho1,hnd1,hrg1⟩;have k5:=Zd K1.out xo5;clear ho1 hnd1 hrg1 hb1;refine hK.out _ _ (CEL.out _ K1.out) (λhHeld=>?_);clear hK K
         try simp only [sqP]
         refine twoH 1 19 (λK hK=>?_) (λK hK=>?_)
         . skip
           go_simp
           refine hK.out _ _ (CEL.out _ K1.out) (λhHeld=>?_);clear hK K
           try simp only [sqP]
           refine oneH 19 (λK hK=>?_)
           go_simp
           go_at_call 84
           refine (PB.out w1 K1.out).mono ?_;rintro e w2 ⟨v2,fq2,rfl,ho2,hnd2,hrg2,hb2⟩;obtain ⟨x2,z2,hv2,-⟩:=ho2.shape;rw [LB.out] at hv2;subst hv2;have K2:Hid (Below wr.heap.size wr w2):=K1.out.trans (hb2.mono K1.out.size);have U2:Hid (Zg w2 76 6 (OEx w2 d) (.slice x2 m2 z2) (c.2.map (mapY (fT (ftN ⟨qm,qn,qa,qc⟩ near tv)) d)) fq2/\fq2.Nodup/\(∀ a ∈ fq2,w1.heap.size<=a/\a<w2.heap.size)/\Below w1.heap.size w1 w2):=⟨ho2,hnd2,hrg2,hb2⟩;have l5:=Zd K2.out xo5;have lf:=ZaG K2.out xo5 zo5;have KB:Hid (Below wr.heap.size wr (w2.alloc (.cells #[.slice x1 m1 z1,.slice x2 m2 z2] 46))):=K2.out.alloc K2.out.size _;have j5:=Zd KB.out xo5;clear ho2 hnd2 hrg2 hb2;refine hK.out _ _ (CEL.out _ K2.out) (λhHeld=>?_);clear hK K
           try simp only [sqP]
           refine tkH 20 ?_
           try simp only [sqP]
           refine oneH 21 (λK hK=>?_)
           go_simp
           refine hK.out _ _ (CEL.out _ KB.out) (λhHeld=>?_);clear hK K
           try simp only [sqP]
           refine oneH 22 (λK hK=>?_);refine ZbV (ZbW d) 57 46 2 48 _ (by rfl) _ _ (by rfl) Tryz.underlying57 Zjo rfl (by decide) (by decide) V0.heap.size wr.heap.size cv acc (by rfl) [.slice x1 m1 z1,.slice x2 m2 z2] _ (by rfl) (by rfl) (Zao (fT (ftN ⟨qm,qn,qa,qc⟩ near tv)) d c) (fq1 ++ fq2) (HG.out.next (ZbW d) K2.out) (ZO.out x1 x2 z1 z2 fq1 fq2 w1 w2 U1 U2 K1.out).1 (ZO.out x1 x2 z1 z2 fq1 fq2 w1 w2 U1 U2 K1.out).2.1 (ZO.out x1 x2 z1 z2 fq1 fq2 w1 w2 U1 U2 K1.out).2.2 rfl oneC hll ?_;intro g6 cap6 w6 hg6 hb6;have G6:=hid hg6;have B6:=hid hb6;have n5:w6.cell? ⟨ob,5,none⟩=some cv:=(hb6.cell (p:=⟨ob,5,none⟩) hobl').trans j5;have nf5:w6.frozen? ⟨ob,5,none⟩=false:=(World.frozen?_of_block (hb6.block ob hobl')).trans (ZaG KB.out xo5 zo5);have C6:=CE6.out _ w6 KB.out hb6;clear hg6 hb6;refine hK.out _ _ (C6) (λhHeld=>?_);clear hK K
           try simp only [sqP]
           refine tkH 23 ?_
           try simp only [sqP]
           refine oneH 24 (λK hK=>?_)
           go_simp
           refine hK.out _ _ (CE7.out w6 _ C6) (λhHeld=>?_);clear hK K
           try simp only [sqP]
           refine wpAnyH_done (by kernel_rfl) ?_ _;refine NoPanic.normal ?_;obtain ⟨O7,R7,G7⟩:=FINX.out _ w6 (.slice (some ⟨g6,0,none⟩) (acc.length+1) cap6) KB.out B6.out G6.out;generalize w6.setCell ⟨ob,5,none⟩ (.slice (some ⟨g6,0,none⟩) (acc.length+1) cap6)=W7 at O7 R7 G7 ⊢;clear n5 nf5 k5 l5 lf j5 xo5 zo5 a0 a1 e5 hHeld C6 p0 p1' p2' p3' xd5;go_wp2_with fail;exact ⟨⟨i+1,_,by omega,by go_num,O7.out,R7.out,G7.out⟩,by simp [intOf];omega⟩
         . skip
           go_simp
           go_at_call 84
           refine (PB.out w1 K1.out).mono ?_;rintro e w2 ⟨v2,fq2,rfl,ho2,hnd2,hrg2,hb2⟩;obtain ⟨x2,z2,hv2,-⟩:=ho2.shape;rw [LB.out] at hv2;subst hv2;have K2:Hid (Below wr.heap.size wr w2):=K1.out.trans (hb2.mono K1.out.size);have U2:Hid (Zg w2 76 6 (OEx w2 d) (.slice x2 m2 z2) (c.2.map (mapY (fT (ftN ⟨qm,qn,qa,qc⟩ near tv)) d)) fq2/\fq2.Nodup/\(∀ a ∈ fq2,w1.heap.size<=a/\a<w2.heap.size)/\Below w1.heap.size w1 w2):=⟨ho2,hnd2,hrg2,hb2⟩;have l5:=Zd K2.out xo5;have lf:=ZaG K2.out xo5 zo5;have KB:Hid (Below wr.heap.size wr (w2.alloc (.cells #[.slice x1 m1 z1,.slice x2 m2 z2] 46))):=K2.out.alloc K2.out.size _;have j5:=Zd KB.out xo5;clear ho2 hnd2 hrg2 hb2;refine hK.out _ _ (CEL.out _ K2.out) (λhHeld=>?_);clear hK K
           try simp only [sqP]
           refine tkH 20 ?_
           try simp only [sqP]
           refine twoH 1 21 (λK hK=>?_) (λK hK=>?_)
           . skip
             go_simp
             refine hK.out _ _ (CEL.out _ K2.out) (λhHeld=>?_);clear hK K
             try simp only [sqP]
             refine oneH 21 (λK hK=>?_)
             go_simp
             refine hK.out _ _ (CEL.out _ KB.out) (λhHeld=>?_);clear hK K
             try simp only [sqP]
             refine oneH 22 (λK hK=>?_);refine ZbV (ZbW d) 57 46 2 48 _ (by rfl) _ _ (by rfl) Tryz.underlying57 Zjo rfl (by decide) (by decide) V0.heap.size wr.heap.size cv acc (by rfl) [.slice x1 m1 z1,.slice x2 m2 z2] _ (by rfl) (by rfl) (Zao (fT (ftN ⟨qm,qn,qa,qc⟩ near tv)) d c) (fq1 ++ fq2) (HG.out.next (ZbW d) K2.out) (ZO.out x1 x2 z1 z2 fq1 fq2 w1 w2 U1 U2 K1.out).1 (ZO.out x1 x2 z1 z2 fq1 fq2 w1 w2 U1 U2 K1.out).2.1 (ZO.out x1 x2 z1 z2 fq1 fq2 w1 w2 U1 U2 K1.out).2.2 rfl oneC hll ?_;intro g6 cap6 w6 hg6 hb6;have G6:=hid hg6;have B6:=hid hb6;have n5:w6.cell? ⟨ob,5,none⟩=some cv:=(hb6.cell (p:=⟨ob,5,none⟩) hobl').trans j5;have nf5:w6.frozen? ⟨ob,5,none⟩=false:=(World.frozen?_of_block (hb6.block ob hobl')).trans (ZaG KB.out xo5 zo5);have C6:=CE6.out _ w6 KB.out hb6;clear hg6 hb6;refine hK.out _ _ (C6) (λhHeld=>?_);clear hK K
             try simp only [sqP]
             refine tkH 23 ?_
             try simp only [sqP]
             refine oneH 24 (λK hK=>?_)
             go_simp
             refine hK.out _ _ (CE7.out w6 _ C6) (λhHeld=>?_);clear hK K
             try simp only [sqP]
             refine wpAnyH_done (by kernel_rfl) ?_ _;refine NoPanic.normal ?_;obtain ⟨O7,R7,G7⟩:=FINX.out _ w6 (.slice (some ⟨g6,0,none⟩) (acc.length+1) cap6) KB.out B6.out G6.out;generalize w6.setCell ⟨ob,5,none⟩ (.slice (some ⟨g6,0,none⟩) (acc.length+1) cap6)=W7 at O7 R7 G7 ⊢;clear n5 nf5 k5 l5 lf j5 xo5 zo5 a0 a1 e5 hHeld C6 p0 p1' p2' p3' xd5;go_wp2_with fail;exact ⟨⟨i+1,_,by omega,by go_num,O7.out,R7.out,G7.out⟩,by simp [intOf];omega⟩
           . skip
             go_simp
             refine hK.out _ _ (CEL.out _ KB.out) (λhHeld=>?_);clear hK K
             try simp only [sqP]
             refine oneH 1 (λK hK=>?_)
             go_simp
             refine hK.out _ _ (CEL.out _ KB.out) (λhHeld=>?_);clear hK K
             try simp only [sqP]
             refine oneH 22 (λK hK=>?_);refine ZbV (ZbW d) 57 46 2 48 _ (by rfl) _ _ (by rfl) Tryz.underlying57 Zjo rfl (by decide) (by decide) V0.heap.size wr.heap.size cv acc (by rfl) [.slice x1 m1 z1,.slice x2 m2 z2] _ (by rfl) (by rfl) (Zao (fT (ftN ⟨qm,qn,qa,qc⟩ near tv)) d c) (fq1 ++ fq2) (HG.out.next (ZbW d) K2.out) (ZO.out x1 x2 z1 z2 fq1 fq2 w1 w2 U1 U2 K1.out).1 (ZO.out x1 x2 z1 z2 fq1 fq2 w1 w2 U1 U2 K1.out).2.1 (ZO.out x1 x2 z1 z2 fq1 fq2 w1 w2 U1 U2 K1.out).2.2 rfl oneC hll ?_;intro g6 cap6 w6 hg6 hb6;have G6:=hid hg6;have B6:=hid hb6;have n5:w6.cell? ⟨ob,5,none⟩=some cv:=(hb6.cell (p:=⟨ob,5,none⟩) hobl').trans j5;have nf5:w6.frozen? ⟨ob,5,none⟩=false:=(World.frozen?_of_block (hb6.block ob hobl')).trans (ZaG KB.out xo5 zo5);have C6:=CE6.out _ w6 KB.out hb6;clear hg6 hb6;refine hK.out _ _ (C6) (λhHeld=>?_);clear hK K
             try simp only [sqP]
             refine tkH 23 ?_
             try simp only [sqP]
             refine oneH 24 (λK hK=>?_)
             go_simp
             refine hK.out _ _ (CE7.out w6 _ C6) (λhHeld=>?_);clear hK K
             try simp only [sqP]
             refine wpAnyH_done (by kernel_rfl) ?_ _;refine NoPanic.normal ?_;obtain ⟨O7,R7,G7⟩:=FINX.out _ w6 (.slice (some ⟨g6,0,none⟩) (acc.length+1) cap6) KB.out B6.out G6.out;generalize w6.setCell ⟨ob,5,none⟩ (.slice (some ⟨g6,0,none⟩) (acc.length+1) cap6)=W7 at O7 R7 G7 ⊢;clear n5 nf5 k5 l5 lf j5 xo5 zo5 a0 a1 e5 hHeld C6 p0 p1' p2' p3' xd5;go_wp2_with fail;exact ⟨⟨i+1,_,by omega,by go_num,O7.out,R7.out,G7.out⟩,by simp [intOf];omega⟩
     . obtain rfl:i=n2:=by omega
       obtain ⟨fq,r1,r2'',r3,-,-⟩:=HG.out.done;rw [sqT HL2.out] at r1;have hsh:=HG.out.shape;rw [List.length_map,List.length_take,HL2.out,Nat.min_self] at hsh;obtain ⟨pc,cc,hcv,-⟩:=hsh;subst hcv;have HQ:Hid (Zg wr 46 2 (OCl wr (OEx wr d)) (.slice pc i cc) (cls.map (Zao (fT (ftN ⟨qm,qn,qa,qc⟩ near tv)) d)) fq/\fq.Nodup/\∀ a ∈ fq,V0.heap.size<=a/\a<wr.heap.size):=⟨r1,r2'',r3⟩;have rs:Hid (Blk wr (w.heap.size+1+1) #[.int .i64 0,.int .i64 0,.string ⟨#[]⟩,.string ⟨#[]⟩,.slice none 0 0,.slice none 0 0] 76):=HO.out.blk HMX.out.res HMX.out.res.lt (by have:=HMX.out.obl;omega);obtain ⟨oo0,oo1,oo2,oo3,oo4,oo5⟩:=sqB6 HR.out;have xx0:=rs.out.cell 0 _ rfl;have ff0:=rs.out.frozen 0;have xx1:=rs.out.cell 1 _ rfl;have ff1:=rs.out.frozen 1;have xx2:=rs.out.cell 2 _ rfl;have ff2:=rs.out.frozen 2;have xx3:=rs.out.cell 3 _ rfl;have ff3:=rs.out.frozen 3;have xx4:=rs.out.cell 4 _ rfl;have ff4:=rs.out.frozen 4;have xx5:=rs.out.cell 5 _ rfl;have ff5:=rs.out.frozen 5;have hwl:w.heap.size+1+1≠ob:=(by have:=HMX.out.obl;omega);clear r1 r2'' r3 bx bp p0 p1' p2' p3';go_wp2_with fail;obtain ⟨W8,hW8⟩:∃ W8,W8=(((((wr.setCell ⟨w.heap.size+1+1,0,none⟩ (.int .i64 k0)).setCell ⟨w.heap.size+1+1,1,none⟩ (.int .i64 n0)).setCell ⟨w.heap.size+1+1,2,none⟩ (.string tx)).setCell ⟨w.heap.size+1+1,3,none⟩ (.string m0)).setCell ⟨w.heap.size+1+1,4,none⟩ (.slice pu4 n1 cu4)).setCell ⟨w.heap.size+1+1,5,none⟩ (.slice pc i cc):=⟨_,rfl⟩;have bz:Blk W8 (w.heap.size+1+1) #[.int .i64 k0,.int .i64 n0,.string tx,.string m0,.slice pu4 n1 cu4,.slice pc i cc] 76:=(by rw [hW8];exact (((((rs.out.same rfl).same rfl).same rfl).same rfl).same rfl).same rfl);obtain ⟨j0,j1,j2,j3,j4,j5⟩:=sqB6 bz;have kk:Zj fp V0 wr:=λa ha=>HO.out.block a (HMX.out.rg a ha).2.1 (HMX.out.rg a ha).2.2;have otx:okS tx:=(by rw [<-HTY.out];exact Zmw HTO.out HOK.out.2.2.1);have fin:=CpV.exp_made2 (w:=w) (wr:=wr) (W7:=W8) (N:=w.heap.size+3) (B:=V0.heap.size) (b:=w.heap.size+1+1) (k0:=k0) (n0:=n0) (tx:=tx) (m0:=m0) ⟨HOK.out.1,HOK.out.2.1,otx,HOK.out.2.2.2⟩ (by omega) HBW.out (HMX.out.kids.keep kk (λcs x f _ hs h=>h.keep (kk.sub hs))) HMX.out.nd (λa ha=>⟨(HMX.out.rg a ha).1,(HMX.out.rg a ha).2.1⟩) HQ.out.1 HQ.out.2.1 HQ.out.2.2 (by have:=HMX.out.obl;omega) HO.out.size (by omega) (λa ha=>by rw [hW8,Below.heap_setCell _ _ _ _ ha,Below.heap_setCell _ _ _ _ ha,Below.heap_setCell _ _ _ _ ha,Below.heap_setCell _ _ _ _ ha,Below.heap_setCell _ _ _ _ ha,Below.heap_setCell _ _ _ _ ha]) (by rw [hW8];exact ((((((Below.refl 0 wr).setCell (Nat.zero_le _) _).setCell (Nat.zero_le _) _).setCell (Nat.zero_le _) _).setCell (Nat.zero_le _) _).setCell (Nat.zero_le _) _).setCell (Nat.zero_le _) _);have em:=mapY_mk (ft:=ftN ⟨qm,qn,qa,qc⟩ near tv) (d:=d) (k0:=k0) (n0:=n0) (t0:=t0) (m0:=m0) (cls:=cls) HL1.out;rw [HTY.out] at em;rw [<-em] at fin;rw [hW8] at fin j0 j1 j2 j3 j4 j5;exact bodyPost_ret (v:=.agg #[.int .i64 k0,.int .i64 n0,.string tx,.string m0,.slice pu4 n1 cu4,.slice pc i cc]) (by simp [results,Tryz.results126,go_sem,j0,j1,j2,j3,j4,j5]) rfl fin
theorem all {q:Pl} {near:Bool} {tv:ByteArray} (hto:okS tv):∀ d,ExpS q near tv d
 | 0=>λw cs x h _=>h.elim
 | d+1=>exp_of hto (exps_of (all hto d))
end CpC
section
open Go.Proofs.Tryz
theorem Za7.fun_at {w wr:World} {d:Nat} {nv ev:Value} {pf:Option Addr} {nf cf:Nat} {m:Md} {fp:List Nat} {P:Array Value} {C:Cl->Cl} {j i:Nat} {f:Fn'} (h:Za7 w wr d [nv,ev,.slice pf nf cf] (parM C m j i) fp P) (hj:m.funs[j]?=some f) :
 ∃ gf pc cc,pf=some ⟨gf,0,none⟩/\wr.cell? ⟨gf,j * 3+2,none⟩=some (.slice pc f.clauses.length cc):=by
 obtain ⟨-,-,-,-,⟨fpc,⟨ev',fv,fa,fb,he,rfl,-,-,hfv⟩,hnd,-⟩,-⟩:=h;rw [List.nodup_append] at hnd;simp only [List.cons.injEq,and_true] at he;obtain ⟨-,rfl,rfl⟩:=he;obtain ⟨gf,cf',cs2,f2,hv2,hgf,hs2,hgff,hnd2,hl2,hcs2,⟨cv,rfl,-,-,hcv⟩,-⟩:=hfv.through hnd.2.1 (Zjr hj);simp only [Value.slice.injEq] at hv2;obtain ⟨pc,cc,rfl,-⟩:=hcv.shape;have e2:=hcs2 2 (by omega);simp only [List.getElem?_cons_succ,List.getElem?_cons_zero] at e2;have lc:(parF C f i).clauses.length=f.clauses.length:=(by show (f.clauses.mapIdx _).length=_;rw [List.length_mapIdx]);rw [lc] at e2;exact ⟨gf,pc,cc,hv2.1,e2⟩
theorem ZgE (d:Nat) (w:World) (cs:List Value) (m:Md) (q:Pl) (tv:ByteArray) (fp:List Nat) (h:OMd w d cs m fp) (hnd:fp.Nodup) (hw:wtMd d m<=16777216) (hto:okS tv) :
 Calls prog 45 #[.agg cs.toArray,.agg #[.string q.mod,.string q.name,.int .i64 q.arity,.int .i64 q.clause],.string q.mod,.string tv] w λe w'=>e=.returned (.agg cs.toArray)/\Hid (Off fp w w'/\∃ fp',OMd w' d cs (allM (Zao (fT (ftN q (m.name.toList == q.mod.toList) tv)) d) m) fp'/\fp'.Nodup/\∀ a ∈ fp',a ∈ fp\/w.heap.size<=a):=by
 obtain ⟨qm,qn,qa,qc⟩:=q;simp only;have H:=hid h;have HND:Hid fp.Nodup:=hnd;have CL:Hid (CpC.ExpsS ⟨qm,qn,qa,qc⟩ (m.name.toList == qm.toList) tv d):=CpC.exps_of (CpC.all hto d);have HW:=hid hw;obtain ⟨ev,fv,fa,fb,rfl,-,-,hev,hfv⟩:=h;obtain ⟨pe,ce,rfl,-⟩:=hev.shape;obtain ⟨pf,cf,rfl,-⟩:=hfv.shape;obtain ⟨ne,hne⟩:∃ ne,ne=m.exports.length:=⟨_,rfl⟩;obtain ⟨nf,hnf⟩:∃ nf,nf=m.funs.length:=⟨_,rfl⟩;rw [<-hne,<-hnf] at H ⊢;have HNF:=hid hnf;have hnfb:nf<=16777216:=(by rw [hnf];unfold wtMd wtS at hw;omega);obtain ⟨W3,hW3⟩:∃ W3,W3=((w.alloc (.cells #[.string m.name,.slice pe ne ce,.slice pf nf cf] 63)).alloc (.cells #[.string qm,.string qn,.int .i64 qa,.int .i64 qc] 31)).alloc (.cells #[.string ⟨#[]⟩,.slice none 0 0,.slice none 0 0] 63):=⟨_,rfl⟩;have HW3:=hid hW3
 have ST:Hid (Za7 w W3 d [.string m.name,.slice pe ne ce,.slice pf nf cf] (parM (Zao (fT (ftN ⟨qm,qn,qa,qc⟩ (m.name.toList == qm.toList) tv)) d) m 0 0) fp #[.string qm,.string qn,.int .i64 qa,.int .i64 qc]):=by
  have B3:Bz w W3:=(by rw [hW3];exact (((sqN _ _)).alloc (by simp) _).alloc (by simp only [Zb];omega) _);refine ⟨⟨B3.os,B3.tape,B3.output,B3.size,λa ha _=>B3.block a ha⟩,by rw [hW3];exact Blk.new.alloc.alloc,?_,?_,⟨fp,by rw [Zjp];exact H.out.keep (λa ha=>B3.block a (H.out.lt a ha)),HND.out,λa ha=>.inl ha⟩,H.out.lt⟩
  . have:=Blk.new (w:=w.alloc (.cells #[.string m.name,.slice pe ne ce,.slice pf nf cf] 63)) (cs:=#[.string qm,.string qn,.int .i64 qa,.int .i64 qc]) (t:=31)
    rw [Zb] at this;rw [hW3];exact this.alloc
  . have:=Blk.new (w:=(w.alloc (.cells #[.string m.name,.slice pe ne ce,.slice pf nf cf] 63)).alloc (.cells #[.string qm,.string qn,.int .i64 qa,.int .i64 qc] 31)) (cs:=#[.string ⟨#[]⟩,.slice none 0 0,.slice none 0 0]) (t:=63)
    rw [Zb,Zb] at this;rw [hW3];exact this
 clear hW3 hnd hw hto hev hfv hne hnf;go_enter func45,ntmps45;go_wp2_with (rw [<-HW3.out])
 go_loopw [9] (λiv wr=>∃ (j:Nat),j<=nf/\iv=.int .i64 j/\Hid (Za7 w wr d [.string m.name,.slice pe ne ce,.slice pf nf cf] (parM (Zao (fT (ftN ⟨qm,qn,qa,qc⟩ (m.name.toList == qm.toList) tv)) d) m j 0) fp #[.string qm,.string qn,.int .i64 qa,.int .i64 qc])) (λiv _=>nf - (intOf iv).toNat)
 case atStart=>exact ⟨0,Nat.zero_le _,rfl,ST.out⟩
 case round =>
  obtain ⟨j,hj,rfl,HS⟩:=hrel;have x2:=HS.out.box.cell 2 (.slice pf nf cf) rfl;have hj0:=sqI j;by_cases hlt:j<nf
  . obtain ⟨f,hf⟩:∃ f,m.funs[j]?=some f:=⟨m.funs[j]'(by rw [<-HNF.out];exact hlt),List.getElem?_eq_getElem _⟩
    have HF:=hid hf;obtain ⟨nc,hnc⟩:∃ nc,nc=f.clauses.length:=⟨_,rfl⟩;have HNC:=hid hnc
    have HWF:Hid (wtS (wtCl (wtEx d)) f.clauses<=16777216):=by
     show _<=_;have h1:=HW.out;have h2:=Zdb (wtFn d) m.funs j f hf;have h3:wtFn d f=f.name.size+wtS (wtCl (wtEx d)) f.clauses:=rfl;unfold wtMd at h1;omega
    have hncb:nc<=16777216:=(by have h1:=HWF.out;unfold wtS at h1;omega);have hji:(j:Int)<(nf:Int):=(by omega);clear hf hnc;go_wp2_with fail
    go_loopw [10] (λkv wr=>∃ (k:Nat),k<=nc/\kv=.int .i64 k/\Hid (Za7 w wr d [.string m.name,.slice pe ne ce,.slice pf nf cf] (parM (Zao (fT (ftN ⟨qm,qn,qa,qc⟩ (m.name.toList == qm.toList) tv)) d) m j k) fp #[.string qm,.string qn,.int .i64 qa,.int .i64 qc])) (λkv _=>nc - (intOf kv).toNat)
    case atStart=>exact ⟨0,Nat.zero_le _,rfl,HS.out⟩
    case round =>
     obtain ⟨k,hk,rfl,HK⟩:=hrel;have y0:=HK.out.box.cell 0 (.string m.name) rfl;have y2:=HK.out.box.cell 2 (.slice pf nf cf) rfl;obtain ⟨p0,p1,p2,p3⟩:=sqB4 HK.out.pl;have hk0:=sqI k;clear x2;by_cases hlk:k<nc
     . obtain ⟨c,hc⟩:∃ c,f.clauses[k]?=some c:=⟨f.clauses[k]'(by rw [<-HNC.out];exact hlk),List.getElem?_eq_getElem _⟩
       obtain ⟨nv,ev,gf,cf',gc,cc,pv,bv,e0,e1,e2,e3,e4,e5,e6,e7,e8,e9,e10,e11⟩:=HK.out.body HF.out hc;simp only [List.cons.injEq,and_true,Value.slice.injEq] at e0;obtain ⟨rfl,rfl,rfl,-,rfl⟩:=e0;obtain ⟨pp,np,cp,pb,nb,cb,hpb⟩:=HCl.shapeR e10;simp only [List.cons.injEq,and_true] at hpb;obtain ⟨rfl,rfl⟩:=hpb;rw [<-HNC.out] at e1;have HCLR:=hid e10
       have HSTEP:Hid (∀ (w':World) (v':Value) (body:List Ex) (fq:List Nat),Zao (fT (ftN ⟨qm,qn,qa,qc⟩ (m.name.toList == qm.toList) tv)) d c=(c.1,body)->Bz wr w'->Zg w' 76 6 (OEx w' d) v' body fq->fq.Nodup->(∀ a ∈ fq,wr.heap.size<=a) ->
        Za7 w (w'.setCell ⟨gc,k * 2+1,none⟩ v') d [.string m.name,.slice pe ne ce,.slice (some ⟨gf,0,none⟩) nf cf] (parM (Zao (fT (ftN ⟨qm,qn,qa,qc⟩ (m.name.toList == qm.toList) tv)) d) m j (k+1)) fp #[.string qm,.string qn,.int .i64 qa,.int .i64 qc]):=e11
       have HWB:Hid (wtS (wtEx d) c.2<=16777216):=by
        show _<=_;have h1:=HWF.out;have h2:=Zdb (wtCl (wtEx d)) f.clauses k c hc;have h3:wtCl (wtEx d) c=wtS (wtEx d) c.1+wtS (wtEx d) c.2:=rfl;omega
       have LB:Hid ((c.2.map (mapY (fT (ftN ⟨qm,qn,qa,qc⟩ (m.name.toList == qm.toList) tv)) d)).length=nb):=(List.length_map ..).trans (CpC.clN HCLR.out).2;have PB:Hid (Calls prog 84 #[.slice pb nb cb,.agg #[.string qm,.string qn,.int .i64 qa,.int .i64 qc],.bool (m.name.toList == qm.toList),.string qm,.string tv] wr.drew (ResO wr.drew λw' u fp=>Zg w' 76 6 (OEx w' d) u (c.2.map (mapY (fT (ftN ⟨qm,qn,qa,qc⟩ (m.name.toList == qm.toList) tv)) d)) fp)):=CL.out wr.drew _ c.2 (CpC.clL HCLR.out (Below.refl _ _).drew).2 HWB.out;have hki:(k:Int)<(nc:Int):=(by omega);have xb:wr.drew.cell? ⟨gc,k * 2+1,none⟩=some (.slice pb nb cb):=e2;have CE:Hid (∀ w',Bz wr w'->w'.cell? ⟨w.heap.size,0,none⟩=some (.string m.name)/\w'.cell? ⟨w.heap.size,2,none⟩=some (.slice (some ⟨gf,0,none⟩) nf cf)/\w'.cell? ⟨gf,j * 3+2,none⟩=some (.slice (some ⟨gc,0,none⟩) nc cc)/\w'.cell? ⟨w.heap.size+1,0,none⟩=some (.string qm)/\w'.cell? ⟨w.heap.size+1,1,none⟩=some (.string qn)/\w'.cell? ⟨w.heap.size+1,2,none⟩=some (.int .i64 qa)/\w'.cell? ⟨w.heap.size+1,3,none⟩=some (.int .i64 qc)):=λw' hb=>⟨Zd hb y0,Zd hb y2,Zd hb e1,Zd hb p0,Zd hb p1,Zd hb p2,Zd hb p3⟩
       have CS:Hid (∀ w',Bz wr w'->∀ v,(w'.setCell ⟨gc,k * 2+1,none⟩ v).cell? ⟨w.heap.size,0,none⟩=some (.string m.name)/\(w'.setCell ⟨gc,k * 2+1,none⟩ v).cell? ⟨w.heap.size,2,none⟩=some (.slice (some ⟨gf,0,none⟩) nf cf)/\(w'.setCell ⟨gc,k * 2+1,none⟩ v).cell? ⟨gf,j * 3+2,none⟩=some (.slice (some ⟨gc,0,none⟩) nc cc)/\(w'.setCell ⟨gc,k * 2+1,none⟩ v).cell? ⟨w.heap.size+1,0,none⟩=some (.string qm)/\(w'.setCell ⟨gc,k * 2+1,none⟩ v).cell? ⟨w.heap.size+1,1,none⟩=some (.string qn)/\(w'.setCell ⟨gc,k * 2+1,none⟩ v).cell? ⟨w.heap.size+1,2,none⟩=some (.int .i64 qa)/\(w'.setCell ⟨gc,k * 2+1,none⟩ v).cell? ⟨w.heap.size+1,3,none⟩=some (.int .i64 qc)):=λw' hb v=>by
        obtain ⟨c0,c1,c2,c3,c4,c5,c6⟩:=CE.out w' hb;exact ⟨(CpC.cellS (p:=⟨w.heap.size,0,none⟩) (Ne.symm e7)).trans c0,(CpC.cellS (p:=⟨w.heap.size,2,none⟩) (Ne.symm e7)).trans c1,(CpC.cellS (p:=⟨gf,_,none⟩) e4).trans c2,(CpC.cellS (p:=⟨w.heap.size+1,0,none⟩) (Ne.symm e8)).trans c3,(CpC.cellS (p:=⟨w.heap.size+1,1,none⟩) (Ne.symm e8)).trans c4,(CpC.cellS (p:=⟨w.heap.size+1,2,none⟩) (Ne.symm e8)).trans c5,(CpC.cellS (p:=⟨w.heap.size+1,3,none⟩) (Ne.symm e8)).trans c6⟩
       clear hc e10 e11 e4 e5 e6 e7 e8 e9
       go_upto_region 7 with fail
       refine wp_region_noPanic ?_;refine wp_region_held_drew (S:=(λw'=>w'.cell? ⟨w.heap.size,0,none⟩=some (.string m.name)/\w'.cell? ⟨w.heap.size,2,none⟩=some (.slice (some ⟨gf,0,none⟩) nf cf)/\w'.cell? ⟨gf,j * 3+2,none⟩=some (.slice (some ⟨gc,0,none⟩) nc cc)/\w'.cell? ⟨w.heap.size+1,0,none⟩=some (.string qm)/\w'.cell? ⟨w.heap.size+1,1,none⟩=some (.string qn)/\w'.cell? ⟨w.heap.size+1,2,none⟩=some (.int .i64 qa)/\w'.cell? ⟨w.heap.size+1,3,none⟩=some (.int .i64 qc))) (by kernel_rfl) (CE.out _ (Below.refl _ _).drew) (λhHeld=>?_);refine tkH 0 ?_
       try simp only [sqP]
       refine tkH 1 ?_
       try simp only [sqP]
       refine tkH 2 ?_
       try simp only [sqP]
       refine tkH 3 ?_
       try simp only [sqP]
       refine tkH 4 ?_
       try simp only [sqP]
       refine tkH 5 ?_
       try simp only [sqP]
       refine tkH 6 ?_
       try simp only [sqP]
       refine tkH 7 ?_
       try simp only [sqP]
       refine tkH 8 ?_
       try simp only [sqP]
       refine tkH 9 ?_
       try simp only [sqP]
       refine tkH 10 ?_
       try simp only [sqP]
       refine tkH 11 ?_
       try simp only [sqP]
       refine tkH 12 ?_
       try simp only [sqP]
       refine tkH 13 ?_
       try simp only [sqP]
       refine tkH 14 ?_
       try simp only [sqP]
       refine tkH 15 ?_
       try simp only [sqP]
       refine tkH 17 ?_
       try simp only [sqP]
       refine tkH 18 ?_
       try simp only [sqP]
       refine tkH 19 ?_
       try simp only [sqP]
       refine tkH 20 ?_
       try simp only [sqP]
       refine tkH 21 ?_
       try simp only [sqP]
       refine tkH 22 ?_
       try simp only [sqP]
       refine tkH 23 ?_
       try simp only [sqP]
       refine tkH 24 ?_
       try simp only [sqP]
       refine oneH 16 (λK hK=>?_)
       go_simp
       refine hK.out _ _ (CE.out _ (Below.refl _ _).drew) (λhHeld=>?_);clear hK K
       try simp only [sqP]
       refine oneH 25 (λK hK=>?_)
       go_simp
       go_at_call 84
       refine PB.out.mono ?_;rintro e w4 ⟨u4,fq,rfl,ho4,hnd4,hrg4,hb4⟩;obtain ⟨pu4,cu4,hu4,-⟩:=ho4.shape;rw [LB.out] at hu4;subst hu4;have K4:Hid (Bz wr w4):=Z5 hb4;have U4:Hid (Zg w4 76 6 (OEx w4 d) (.slice pu4 nb cu4) (c.2.map (mapY (fT (ftN ⟨qm,qn,qa,qc⟩ (m.name.toList == qm.toList) tv)) d)) fq/\fq.Nodup/\∀ a ∈ fq,wr.heap.size<=a):=⟨ho4,hnd4,λa ha=>(hrg4 a ha).1⟩;have z2:=Zd K4.out e2;have z3:=ZaG K4.out e2 e3;clear ho4 hnd4 hrg4 hb4;refine hK.out _ _ (CE.out _ K4.out) (λhHeld=>?_);clear hK K
       try simp only [sqP]
       refine tkH 26 ?_
       try simp only [sqP]
       refine tkH 27 ?_
       try simp only [sqP]
       refine oneH 28 (λK hK=>?_)
       go_simp
       refine hK.out _ _ (CS.out _ K4.out _) (λhHeld=>?_);clear hK K
       try simp only [sqP]
       refine wpAnyH_done (by kernel_rfl) ?_ _;refine NoPanic.normal ?_;have HN:Hid (Za7 w (w4.setCell ⟨gc,k * 2+1,none⟩ (.slice pu4 nb cu4)) d [.string m.name,.slice pe ne ce,.slice (some ⟨gf,0,none⟩) nf cf] (parM (Zao (fT (ftN ⟨qm,qn,qa,qc⟩ (m.name.toList == qm.toList) tv)) d) m j (k+1)) fp #[.string qm,.string qn,.int .i64 qa,.int .i64 qc]):=HSTEP.out w4 _ _ fq rfl K4.out U4.out.1 U4.out.2.1 U4.out.2.2;revert HN;generalize w4.setCell ⟨gc,k * 2+1,none⟩ (.slice pu4 nb cu4)=W5;intro HN;clear z2 z3 hHeld xb e1 e2 e3 y0 y2 p0 p1 p2 p3;go_wp2_with fail;exact ⟨⟨k+1,by omega,by go_num,HN.out⟩,by simp [intOf];omega⟩
     . obtain rfl:k=nc:=by omega
       obtain ⟨gf,pc,cc,rfl,e1⟩:=HK.out.fun_at HF.out;rw [<-HNC.out] at e1
       have HN:Hid (Za7 w wr d [.string m.name,.slice pe ne ce,.slice (some ⟨gf,0,none⟩) nf cf] (parM (Zao (fT (ftN ⟨qm,qn,qa,qc⟩ (m.name.toList == qm.toList) tv)) d) m (j+1) 0) fp #[.string qm,.string qn,.int .i64 qa,.int .i64 qc]):=by
        show Za7 _ _ _ _ _ _ _;rw [<-Zjq HF.out (Nat.le_of_eq HNC.out.symm)];exact HK.out
       go_wp2_with fail;exact ⟨⟨j+1,by omega,by go_num,HN.out⟩,by simp [intOf];omega⟩
  . obtain rfl:j=nf:=by omega
    have x0:=HS.out.box.cell 0 (.string m.name) rfl;have x1:=HS.out.box.cell 1 (.slice pe ne ce) rfl;obtain ⟨r0,r1,r2⟩:=sqB3 HS.out.res;obtain ⟨g0,g1,g2⟩:=sqF3 HS.out.res;go_wp2_with fail;obtain ⟨W8,hW8⟩:∃ W8,W8=((wr.setCell ⟨w.heap.size+1+1,0,none⟩ (.string m.name)).setCell ⟨w.heap.size+1+1,1,none⟩ (.slice pe ne ce)).setCell ⟨w.heap.size+1+1,2,none⟩ (.slice pf j cf):=⟨_,rfl⟩;have bz:Blk W8 (w.heap.size+1+1) #[.string m.name,.slice pe ne ce,.slice pf j cf] 63:=(by rw [hW8];exact ((HS.out.res.same rfl).same rfl).same rfl);obtain ⟨j0,j1,j2⟩:=sqB3 bz
    have bl:∀ a,a≠w.heap.size+1+1->W8.heap[a]?=wr.heap[a]?:=λa ha=>by rw [hW8,Below.heap_setCell _ _ _ _ ha,Below.heap_setCell _ _ _ _ ha,Below.heap_setCell _ _ _ _ ha]
    have h0:Below 0 wr W8:=by rw [hW8];exact (((Below.refl 0 wr).setCell (Nat.zero_le _) _).setCell (Nat.zero_le _) _).setCell (Nat.zero_le _) _
    have fin:Off fp w W8/\∃ fp',OMd W8 d [.string m.name,.slice pe ne ce,.slice pf j cf] (allM (Zao (fT (ftN ⟨qm,qn,qa,qc⟩ (m.name.toList == qm.toList) tv)) d) m) fp'/\fp'.Nodup/\∀ a ∈ fp',a ∈ fp\/w.heap.size<=a:=by
     obtain ⟨ho,-,-,-,⟨fpc,hown,hn,hrg⟩,hlt⟩:=HS.out;rw [ZkU (Nat.le_of_eq HNF.out.symm)] at hown;refine ⟨⟨h0.os.trans ho.os,h0.tape.trans ho.tape,h0.output.trans ho.output,Nat.le_trans ho.size h0.size,λa ha hn=>(bl a (by omega)).trans (ho.block a ha hn)⟩,fpc,hown.keep (λa ha=>bl a ?_),hn,λa ha=>?_⟩
     . rcases hrg a ha with h | h
       . have:=hlt a h;omega
       . omega
     . rcases hrg a ha with h | h
       . exact .inl h
       . right;omega
    rw [hW8] at fin j0 j1 j2;exact bodyPost_ret (v:=.agg #[.string m.name,.slice pe ne ce,.slice pf j cf]) (by simp [results,results45,go_sem,j0,j1,j2]) rfl ⟨rfl,fin⟩
end
end Go.Proofs.YtdhlonogmnkemaaGreatDoor
