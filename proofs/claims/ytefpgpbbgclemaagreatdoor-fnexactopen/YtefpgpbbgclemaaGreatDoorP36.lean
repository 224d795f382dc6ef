/-
  CheckImplC CheckImplD CheckImplE CheckImplF CheckImplG
-/
import Derived.Test.YtefpgpbbgclemaaGreatDoorP35
set_option maxHeartbeats 16000000
set_option linter.unusedVariables false
set_option maxRecDepth 100000
namespace Go.Proofs.YtefpgpbbgclemaaGreatDoor
open Go.ChangeShapes Go.WideShapes Go.ChangeAt Go.RowKit
structure CbI (d b0:Nat) (pv:Value) (mc fc:Array Value) (ms:List Md) (m:Md) (w:World) (v:Value) (s:List Pb):Prop where
  p:Blk w b0 #[pv] 66
  mb:Blk w (b0+1) mc 47
  f:Blk w (b0+1+1) fc 91
  l:Blk w (b0+1+1+1+1) #[v] 59
  own:OwnP w (b0+1+1+1) v s
  rows:Rows w (fun g=>g<b0) 3 (HMd w (fun g=>g<b0) d) pv ms
  mod:HMd w (fun g=>g<b0) d mc.toList m
def MvB (b0:Nat) (v:Value) (g:Nat):Prop:=g=b0+1+1+1+1∨v.ownBlock=some g
theorem CbI.next {d b0:Nat} {pv:Value} {mc fc:Array Value} {ms:List Md} {m:Md} {w w':World} {v:Value} {s:List Pb} (h:CbI d b0 pv mc fc ms m w v s) (hb:Below w.heap.size w w'):CbI d b0 pv mc fc ms m w' v s :=
  ⟨h.p.next hb,h.mb.next hb,h.f.next hb,h.l.next hb,h.own.next hb,h.rows.mono (SameOn.of_below hb) (fun _ h=>h) (fun _ _ _ h=>h.mono (SameOn.of_below hb) (fun _ h=>h)),h.mod.mono (SameOn.of_below hb) (fun _ h=>h)⟩
def stC (ms:List Md) (m:Md) (fs:ByteArray) (fn:Int) (s:List Pb) (x:Ex):List Pb:=if wrongB ms m x && !(s.any (samePb ⟨m.name,fs,fn,codeOf x⟩)) then s ++ [⟨m.name,fs,fn,codeOf x⟩] else s
theorem viaDraw {w V:World} {o:Obj} (h:Below (w.alloc o).drew.heap.size (w.alloc o).drew V):Below w.heap.size w V∧Below (w.alloc o).heap.size (w.alloc o) V:=by
  have k:Below (w.alloc o).heap.size (w.alloc o) V:=⟨h.os,h.tape,h.output,h.size,h.block⟩
  exact ⟨((Below.refl _ _).alloc (Nat.le_refl _) _).trans (k.mono (by rw [alloc_hs];omega)),k⟩
theorem pbSet {w:World} {b:Nat} {a0 a1 a2 a3 c0 c1 c2 c3:Value} {t:TypeId} (h:Blk w b #[a0,a1,a2,a3] t):Blk ((((w.setCell ⟨b,0,none⟩ c0).setCell ⟨b,1,none⟩ c1).setCell ⟨b,2,none⟩ c2).setCell ⟨b,3,none⟩ c3) b #[c0,c1,c2,c3] t :=
  (((h.same rfl).same rfl).same rfl).same rfl
theorem pbSetB {w v:World} {N b:Nat} {c0 c1 c2 c3:Value} (h:Below N v w) (hb:N≤b):Below N v ((((w.setCell ⟨b,0,none⟩ c0).setCell ⟨b,1,none⟩ c1).setCell ⟨b,2,none⟩ c2).setCell ⟨b,3,none⟩ c3) :=
  (((h.setCell hb _).setCell hb _).setCell hb _).setCell hb _
theorem okS_codeOf (x:Ex):okS (codeOf x):=by unfold codeOf;split <;> (unfold okS;decide)
theorem cb_any (d dx b0:Nat) (pv:Value) (pe:Option Addr) (ne ce:Nat) (pf:Option Addr) (nf cf:Nat) (fs:ByteArray) (fn:Int) (pc:Option Addr) (nc cc:Nat) (ms:List Md) (m:Md) (w:World) (v:Value) (s:List Pb) (cs:List Value) (x:Ex)
    (h:CbI d b0 pv #[.string m.name,.slice pe ne ce,.slice pf nf cf] #[.string fs,.int .i64 fn,.slice pc nc cc] ms m w v s) (hx:HEx w All dx cs x) (hok:okS m.name∧okS fs∧okI fn) (hl:s.length+1≤1048576) :
    Calls Tryz.prog 93 #[.agg cs.toArray,.pointer (some ⟨b0,0,none⟩),.pointer (some ⟨b0+1,0,none⟩),.pointer (some ⟨b0+1+1,0,none⟩),.pointer (some ⟨b0+1+1+1+1,0,none⟩)] w fun e w'=>e=.returned (.tuple #[])∧∃ v',CbI d b0 pv #[.string m.name,.slice pe ne ce,.slice pf nf cf] #[.string fs,.int .i64 fn,.slice pc nc cc] ms m w' v' (stC ms m fs fn s x)∧Mv (MvB b0 v) (MvB b0 v') w w':=by
  cases dx with
  | zero=>exact hx.elim
  | succ dx =>
  have HXX:Hid (∀ w',Below w.heap.size w w'→HEx w' All (dx+1) cs x):=fun w' hw=>hx.mono (SameOn.of_below hw) (fun _ h=>h)
  have HI:Hid (CbI d b0 pv #[.string m.name,.slice pe ne ce,.slice pf nf cf] #[.string fs,.int .i64 fn,.slice pc nc cc] ms m w v s):=h
  have HST:Hid (stC ms m fs fn s x=if wrongB ms m x && !(s.any (samePb ⟨m.name,fs,fn,codeOf x⟩)) then s ++ [⟨m.name,fs,fn,codeOf x⟩] else s):=rfl
  have HPB:Hid (HPb [.string m.name,.string fs,.int .i64 fn,.string (codeOf x)] ⟨m.name,fs,fn,codeOf x⟩):=⟨rfl,hok.1,hok.2.1,hok.2.2,okS_codeOf x⟩
  have CC:Hid (∀ w',Below w.heap.size w w'→Calls Tryz.prog 94 #[.agg #[pv],.agg #[.string m.name,.slice pe ne ce,.slice pf nf cf],.agg cs.toArray] w' fun e w''=>e=.returned (.tuple #[.string (codeOf x),.bool (wrongB ms m x)])∧Below w'.heap.size w' w''):=fun w' hw=>by
    have h1:=h.next hw
    exact callProblem_any d (dx+1) w' pv ms _ m cs x (h1.rows.mono ⟨Nat.le_refl _,fun _ _ _=>rfl⟩ (fun _ _=>trivial) (fun _ _ _ h=>h.mono ⟨Nat.le_refl _,fun _ _ _=>rfl⟩ (fun _ _=>trivial))) (h1.mod.mono ⟨Nat.le_refl _,fun _ _ _=>rfl⟩ (fun _ _=>trivial)) (HXX.out w' hw)
  obtain ⟨kx,nx,tx,mx,ks,cl⟩:=x
  obtain ⟨kv,cv,rfl,-,-,-,-,⟨p1,q1,rfl,-⟩,⟨p2,q2,rfl,-⟩⟩:=hx
  simp only [Ex.kind,Ex.n,Ex.text,Ex.mod,Ex.kids,Ex.clauses] at *
  generalize hX:Ex.mk kx nx tx mx ks cl=X at *
  generalize codeOf X=CO at *
  generalize wrongB ms m X=WB at *
  generalize ks.length=nk at *
  generalize cl.length=nd at *
  obtain ⟨W1,hW1⟩:∃ W1,W1=w.alloc (.cells #[.int .i64 kx,.int .i64 nx,.string tx,.string mx,.slice p1 nk q1,.slice p2 nd q2] 79):=⟨_,rfl⟩
  have B1:Hid (Below w.heap.size w W1):=by show Below _ _ _;rw [hW1];exact (Below.refl _ _).alloc (Nat.le_refl _) _
  have bE:Hid (Blk W1 w.heap.size #[.int .i64 kx,.int .i64 nx,.string tx,.string mx,.slice p1 nk q1,.slice p2 nd q2] 79):=by show Blk _ _ _ _;rw [hW1];exact Blk.new
  have I1:Hid (CbI d b0 pv #[.string m.name,.slice pe ne ce,.slice pf nf cf] #[.string fs,.int .i64 fn,.slice pc nc cc] ms m W1 v s):=h.next B1.out
  have HW1:Hid (W1=w.alloc (.cells #[.int .i64 kx,.int .i64 nx,.string tx,.string mx,.slice p1 nk q1,.slice p2 nd q2] 79)):=hW1
  have y0:=I1.out.p.cell 0 _ rfl
  have y1:=I1.out.mb.cell 0 _ rfl
  have y2:=I1.out.mb.cell 1 _ rfl
  have y3:=I1.out.mb.cell 2 _ rfl
  rw [hW1] at y0 y1 y2 y3
  clear h hX hW1 hok
  go_enter Tryz.func93,Tryz.ntmps93
  go_wp2_with fail
  rw [← HW1.out]
  clear y0 y1 y2 y3
  refine (CC.out _ B1.out).mono ?_
  rintro e w2 ⟨rfl,hb⟩
  have B2:Hid (Below w.heap.size w w2):=B1.out.trans (hb.mono B1.out.size)
  have I2:Hid (CbI d b0 pv #[.string m.name,.slice pe ne ce,.slice pf nf cf] #[.string fs,.int .i64 fn,.slice pc nc cc] ms m w2 v s):=I1.out.next hb
  clear hb
  have y1:=I2.out.mb.cell 0 _ rfl
  have y2:=I2.out.mb.cell 1 _ rfl
  have y3:=I2.out.mb.cell 2 _ rfl
  have z1:=I2.out.f.cell 0 _ rfl
  have z2:=I2.out.f.cell 1 _ rfl
  have z3:=I2.out.f.cell 2 _ rfl
  obtain ⟨TM,hTM⟩:∃ TM:Nat→Array Value,TM=fun bx=>#[.agg #[.int .i64 kx,.int .i64 nx,.string tx,.string mx,.slice p1 nk q1,.slice p2 nd q2],.pointer (some ⟨b0,0,none⟩),.pointer (some ⟨b0+1,0,none⟩),.pointer (some ⟨b0+1+1,0,none⟩),.pointer (some ⟨b0+1+1+1+1,0,none⟩),.pointer (some ⟨w.heap.size,0,none⟩),.string CO,.bool WB,.pointer (some ⟨bx,0,none⟩),.tuple #[.string CO,.bool WB],.agg #[pv],.agg #[.string m.name,.slice pe ne ce,.slice pf nf cf],.agg #[.int .i64 kx,.int .i64 nx,.string tx,.string mx,.slice p1 nk q1,.slice p2 nd q2],.tuple #[.string CO,.bool WB],.string CO,.bool WB,.agg #[.string m.name,.slice pe ne ce,.slice pf nf cf],.agg #[.string fs,.int .i64 fn,.slice pc nc cc],.agg #[.string fs,.int .i64 fn],.string CO,.agg #[.string m.name,.string fs,.int .i64 fn,.string CO],undef,undef,undef,undef,undef,undef,undef,undef,undef,undef,undef]:=⟨_,rfl⟩
  have HTM:Hid (TM=fun bx=>#[.agg #[.int .i64 kx,.int .i64 nx,.string tx,.string mx,.slice p1 nk q1,.slice p2 nd q2],.pointer (some ⟨b0,0,none⟩),.pointer (some ⟨b0+1,0,none⟩),.pointer (some ⟨b0+1+1,0,none⟩),.pointer (some ⟨b0+1+1+1+1,0,none⟩),.pointer (some ⟨w.heap.size,0,none⟩),.string CO,.bool WB,.pointer (some ⟨bx,0,none⟩),.tuple #[.string CO,.bool WB],.agg #[pv],.agg #[.string m.name,.slice pe ne ce,.slice pf nf cf],.agg #[.int .i64 kx,.int .i64 nx,.string tx,.string mx,.slice p1 nk q1,.slice p2 nd q2],.tuple #[.string CO,.bool WB],.string CO,.bool WB,.agg #[.string m.name,.slice pe ne ce,.slice pf nf cf],.agg #[.string fs,.int .i64 fn,.slice pc nc cc],.agg #[.string fs,.int .i64 fn],.string CO,.agg #[.string m.name,.string fs,.int .i64 fn,.string CO],undef,undef,undef,undef,undef,undef,undef,undef,undef,undef,undef]):=hTM
  clear hTM
  have IA:Hid (CbI d b0 pv #[.string m.name,.slice pe ne ce,.slice pf nf cf] #[.string fs,.int .i64 fn,.slice pc nc cc] ms m (w2.alloc (.cells #[.string ⟨#[]⟩,.string ⟨#[]⟩,.int .i64 0,.string ⟨#[]⟩] 102)) v s):=I2.out.next ((Below.refl _ _).alloc (Nat.le_refl _) _)
  have ya1:=IA.out.mb.cell 0 _ rfl
  have ya2:=IA.out.mb.cell 1 _ rfl
  have ya3:=IA.out.mb.cell 2 _ rfl
  have za1:=IA.out.f.cell 0 _ rfl
  have za2:=IA.out.f.cell 1 _ rfl
  have za3:=IA.out.f.cell 2 _ rfl
  go_wp2_with fail
  refine Code.wp_mono (Q:=Exit.then (fun a' w'=>Hid (∃ bx,Blk w' bx #[.string m.name,.string fs,.int .i64 fn,.string CO] 102∧Below w2.heap.size w2 w'∧a'=⟨TM bx,[]⟩)) (fun _ _ _=>False)) ?rest ?reg
  case reg =>
   go_region_law
     (first
       | (go_simp;go_at_call 61;refine (refOf_any _ _ _ _ _ _).mono ?_;rintro e w5 ⟨rfl,hb5⟩;have mark5:True:=trivial;(first | (have h1:Below (w2.alloc (.cells #[.string ⟨#[]⟩,.string ⟨#[]⟩,.int .i64 0,.string ⟨#[]⟩] 102)).drew.heap.size (w2.alloc (.cells #[.string ⟨#[]⟩,.string ⟨#[]⟩,.int .i64 0,.string ⟨#[]⟩] 102)).drew w5:=(by with_reducible exact hb5);have K5:Hid (Below w2.heap.size w2 w5):=(viaDraw h1).1;have BX5:Hid (Blk w5 w2.heap.size #[.string ⟨#[]⟩,.string ⟨#[]⟩,.int .i64 0,.string ⟨#[]⟩] 102):=Blk.next Blk.new (viaDraw h1).2;clear h1) | (have h1:Below w2.drew.heap.size w2.drew w5:=(by with_reducible exact hb5);have K5:Hid (Below w2.heap.size w2 w5):=⟨h1.os,h1.tape,h1.output,h1.size,h1.block⟩;clear h1));have m1:=cell_next K5.out y1;have m2:=cell_next K5.out y2;have m3:=cell_next K5.out y3;have ma1:(w5.alloc (.cells #[.string ⟨#[]⟩,.string ⟨#[]⟩,.int .i64 0,.string ⟨#[]⟩] 102)).cell? ⟨b0+1,0,none⟩=_:=cell_next ((Below.refl _ _).alloc (Nat.le_refl _) _) m1;have ma2:(w5.alloc (.cells #[.string ⟨#[]⟩,.string ⟨#[]⟩,.int .i64 0,.string ⟨#[]⟩] 102)).cell? ⟨b0+1,1,none⟩=_:=cell_next ((Below.refl _ _).alloc (Nat.le_refl _) _) m2;have ma3:(w5.alloc (.cells #[.string ⟨#[]⟩,.string ⟨#[]⟩,.int .i64 0,.string ⟨#[]⟩] 102)).cell? ⟨b0+1,2,none⟩=_:=cell_next ((Below.refl _ _).alloc (Nat.le_refl _) _) m3;clear hb5;dsimp only)
       | (go_simp;go_at_call 62;have _:=mark5;refine (problemOf_any _ m.name pe pf ne ce nf cf fs fn CO).mono ?_;rintro e w6 ⟨rfl,hb6⟩;(first | (have h1:Below w5.heap.size w5 w6:=(by with_reducible exact hb6);have K6:Hid (Below w2.heap.size w2 w6):=K5.out.trans (h1.mono K5.out.size);(first | (have BX6:Hid (Blk w6 w2.heap.size #[.string ⟨#[]⟩,.string ⟨#[]⟩,.int .i64 0,.string ⟨#[]⟩] 102):=BX5.out.next h1) | skip);clear h1) | (have h1:Below (w5.alloc (.cells #[.string ⟨#[]⟩,.string ⟨#[]⟩,.int .i64 0,.string ⟨#[]⟩] 102)).heap.size (w5.alloc (.cells #[.string ⟨#[]⟩,.string ⟨#[]⟩,.int .i64 0,.string ⟨#[]⟩] 102)) w6:=(by with_reducible exact hb6);have K6:Hid (Below w2.heap.size w2 w6):=(K5.out.alloc K5.out.size _).trans (h1.mono (by rw [alloc_hs];have:=K5.out.size;omega));have BX6:Hid (Blk w6 w5.heap.size #[.string ⟨#[]⟩,.string ⟨#[]⟩,.int .i64 0,.string ⟨#[]⟩] 102):=Blk.next Blk.new h1;clear h1));(try (have x0:=BX6.out.cell 0 _ rfl;have g0:=BX6.out.frozen 0;have x1:=BX6.out.cell 1 _ rfl;have g1:=BX6.out.frozen 1;have x2:=BX6.out.cell 2 _ rfl;have g2:=BX6.out.frozen 2;have x3:=BX6.out.cell 3 _ rfl;have g3:=BX6.out.frozen 3));clear hb6;dsimp only))
   all_goals
     first
       | (refine ⟨w6.heap.size,by with_reducible exact Blk.new,K6.out.alloc K6.out.size _,?_⟩;rw [HTM.out])
       | (refine ⟨w5.heap.size,by with_reducible exact pbSet BX6.out,by with_reducible exact pbSetB K6.out K5.out.size,?_⟩;rw [HTM.out])
       | (refine ⟨w2.heap.size,by with_reducible exact pbSet BX6.out,by with_reducible exact pbSetB K6.out (Nat.le_refl _),?_⟩;rw [HTM.out])
  case rest =>
    rintro e a' V hp
    cases e with
    | normal =>
     obtain ⟨bx,hbF,hKF,rfl⟩:=hp.out
     have bF:Hid (Blk V bx #[.string m.name,.string fs,.int .i64 fn,.string CO] 102):=hbF
     have KF:Hid (Below w2.heap.size w2 V):=hKF
     clear hp hbF hKF y1 y2 y3 z1 z2 z3 ya1 ya2 ya3 za1 za2 za3
     rw [HTM.out]
     dsimp only
     have B3:Hid (Below w.heap.size w V):=B2.out.trans (KF.out.mono B2.out.size)
     have I3:Hid (CbI d b0 pv #[.string m.name,.slice pe ne ce,.slice pf nf cf] #[.string fs,.int .i64 fn,.slice pc nc cc] ms m V v s):=I2.out.next KF.out
     have l0:=I3.out.l.cell 0 _ rfl
     have f0:=bF.out.cell 0 _ rfl
     have f1:=bF.out.cell 1 _ rfl
     have f2:=bF.out.cell 2 _ rfl
     have f3:=bF.out.cell 3 _ rfl
     cases hWB:WB with
     | false =>
       have HS2:Hid (stC ms m fs fn s X=s):=by show _=_;rw [HST.out,hWB];rfl
       go_wp2_with fail
       go_end0
       exact ⟨rfl,v,by rw [HS2.out];exact I3.out,Mv.of_below B3.out⟩
     | true =>
       go_wp2_with fail
       refine (containsP_any _ _ s ⟨m.name,fs,fn,CO⟩ I3.out.own.rows).mono ?_
       rintro e w7 ⟨rfl,hb⟩
       have B7:Hid (Below w.heap.size w w7):=B3.out.trans (hb.mono B3.out.size)
       have I7:Hid (CbI d b0 pv #[.string m.name,.slice pe ne ce,.slice pf nf cf] #[.string fs,.int .i64 fn,.slice pc nc cc] ms m w7 v s):=I3.out.next hb
       have bF7:Hid (Blk w7 bx #[.string m.name,.string fs,.int .i64 fn,.string CO] 102):=bF.out.next hb
       clear l0 f0 f1 f2 f3 hb
       cases hSP:s.any (samePb ⟨m.name,fs,fn,CO⟩) with
       | true =>
         have HS2:Hid (stC ms m fs fn s X=s):=by show _=_;rw [HST.out,hWB,hSP];rfl
         go_wp2_with fail
         go_end0
         exact ⟨rfl,v,by rw [HS2.out];exact I7.out,Mv.of_below B7.out⟩
       | false =>
         have HS2:Hid (stC ms m fs fn s X=s ++ [⟨m.name,fs,fn,CO⟩]):=by show _=_;rw [HST.out,hWB,hSP];rfl
         have l0:=I7.out.l.cell 0 _ rfl
         have f0:=bF7.out.cell 0 _ rfl
         have f1:=bF7.out.cell 1 _ rfl
         have f2:=bF7.out.cell 2 _ rfl
         have f3:=bF7.out.cell 3 _ rfl
         have F9:Hid (∀ w9,ApartE 102 w7 w9→Blk w9 (b0+1+1+1+1) #[v] 59):=fun w9 hap=>hap.blk I7.out.l (by decide)
         go_wp2_with (at_builtin;refine wpList_append_lies rfl _ _ 59 rfl _ 56 Tryz.underlying59 info_pb rfl (by decide) I7.out.own #[.string m.name,.string fs,.int .i64 fn,.string CO] ⟨m.name,fs,fn,CO⟩ HPB.out rfl (pb_oneCell _ _ HPB.out) rfl rfl hl (by decide) ?_;intro g9 q9 w9 ho9 hb9 hap9 hg9 hk9;have c9:w9.cell? ⟨b0+1+1+1+1,0,none⟩=some v:=(F9.out w9 hap9).cell 0 _ rfl;have z9:w9.frozen? ⟨b0+1+1+1+1,0,none⟩=false:=(F9.out w9 hap9).frozen 0)
         have hl9:Blk w9 (b0+1+1+1+1) #[v] 59:=F9.out w9 hap9
         have hsz7:b0+1+1+1≤w7.heap.size:=I7.out.own.2
         have hbz:Below (b0+1+1+1) w7 (w9.setCell ⟨b0+1+1+1+1,0,none⟩ (.slice (some ⟨g9,0,none⟩) (s.length+1) q9)):=hb9.setCell (by show _≤b0+1+1+1+1;omega) _
         have hsm:SameOn (fun g=>g<b0) w7 (w9.setCell ⟨b0+1+1+1+1,0,none⟩ (.slice (some ⟨g9,0,none⟩) (s.length+1) q9)):=⟨hbz.size,fun g hg _=>hbz.block g (by omega)⟩
         have HIZ:CbI d b0 pv #[.string m.name,.slice pe ne ce,.slice pf nf cf] #[.string fs,.int .i64 fn,.slice pc nc cc] ms m (w9.setCell ⟨b0+1+1+1+1,0,none⟩ (.slice (some ⟨g9,0,none⟩) (s.length+1) q9)) (.slice (some ⟨g9,0,none⟩) (s.length+1) q9) (s ++ [⟨m.name,fs,fn,CO⟩]) :=
           ⟨(hap9.blk I7.out.p (by decide)).other (by show b0≠b0+1+1+1+1;omega),(hap9.blk I7.out.mb (by decide)).other (by show b0+1≠b0+1+1+1+1;omega),(hap9.blk I7.out.f (by decide)).other (by show b0+1+1≠b0+1+1+1+1;omega),hl9.same rfl,ho9.setCell hl9 (by decide),I7.out.rows.mono hsm (fun _ h=>h) (fun _ _ _ h=>h.mono hsm (fun _ h=>h)),I7.out.mod.mono hsm (fun _ h=>h)⟩
         have HMZ:Mv (MvB b0 v) (MvB b0 (.slice (some ⟨g9,0,none⟩) (s.length+1) q9)) w (w9.setCell ⟨b0+1+1+1+1,0,none⟩ (.slice (some ⟨g9,0,none⟩) (s.length+1) q9)):=by
           have hs7:=B7.out.size
           refine ⟨hbz.os.trans B7.out.os,hbz.tape.trans B7.out.tape,hbz.output.trans B7.out.output,Nat.le_trans hs7 hbz.size,fun g hg hm=>?_,fun g hg=>?_⟩
           · refine (Below.heap_setCell _ _ _ _ (fun e1=>hm (Or.inl e1))).trans ((hk9 g (by omega) (fun e1=>hm (Or.inr e1.symm))).trans (B7.out.block g hg))
           · rcases hg with hg | hg
             · exact Or.inl (Or.inl hg)
             · simp [Value.ownBlock] at hg
               subst hg
               rcases hg9 with h9 | h9
               · exact Or.inl (Or.inr h9)
               · exact Or.inr (by omega)
         go_end0
         exact ⟨rfl,_,by rw [HS2.out];exact HIZ,HMZ⟩
    | _=>exact hp.elim
section
section
variable (d b0 tb:Nat) (pv:Value) (pe:Option Addr) (ne ce:Nat) (pf:Option Addr) (nf cf:Nat) (fs:ByteArray) (fn:Int) (pc:Option Addr) (nc cc:Nat) (ms:List Md) (m:Md)
def CallI (w:World) (M:Nat→Prop) (s:List Pb):Prop :=
  ∃ v,M=MvB b0 v∧CbI d b0 pv #[.string m.name,.slice pe ne ce,.slice pf nf cf] #[.string fs,.int .i64 fn,.slice pc nc cc] ms m w v s∧Blk w tb #[(.func (.func 93) #[] #[.pointer (some ⟨b0,0,none⟩),.pointer (some ⟨b0+1,0,none⟩),.pointer (some ⟨b0+1+1,0,none⟩),.pointer (some ⟨b0+1+1+1+1,0,none⟩)])] 147∧b0+1+1+1+1<tb
def stK (s:List Pb) (x:Ex):List Pb:=if x.kind=8 then stC ms m fs fn s x else s
theorem tells_call (hok:okS m.name∧okS fs∧okI fn) (w:World) (s:List Pb) (dx:Nat) (cs:List Value) (x:Ex) (v:Value) (h:CbI d b0 pv #[.string m.name,.slice pe ne ce,.slice pf nf cf] #[.string fs,.int .i64 fn,.slice pc nc cc] ms m w v s) (hb:Blk w tb #[(.func (.func 93) #[] #[.pointer (some ⟨b0,0,none⟩),.pointer (some ⟨b0+1,0,none⟩),.pointer (some ⟨b0+1+1,0,none⟩),.pointer (some ⟨b0+1+1+1+1,0,none⟩)])] 147) (hlt:b0+1+1+1+1<tb) (hx:HEx w (fun g=>g<b0) dx cs x) (hl:s.length+1≤1048576) :
    Calls Tryz.prog 127 #[.agg cs.toArray,.pointer (some ⟨tb,0,none⟩)] w fun e w'=>e=.returned (.tuple #[])∧∃ M',CallI d b0 tb pv pe ne ce pf nf cf fs fn pc nc cc ms m w' M' (stK fs fn ms m s x)∧Mv (MvB b0 v) M' w w':=by
  have hxA:HEx w All dx cs x:=hx.mono ⟨Nat.le_refl _,fun _ _ _=>rfl⟩ (fun _ _=>trivial)
  cases dx with
  | zero=>exact hx.elim
  | succ dx =>
  have HXX:Hid (∀ w',Below w.heap.size w w'→HEx w' All (dx+1) cs x):=fun w' hw=>hxA.mono (SameOn.of_below hw) (fun _ h=>h)
  obtain ⟨kx,nx,tx,mx,ks,cl⟩:=x
  obtain ⟨kv,cv,rfl,-,-,-,-,⟨p1,q1,rfl,-⟩,⟨p2,q2,rfl,-⟩⟩:=hxA
  have HSa:Hid (kx=8→stK fs fn ms m s (.mk kx nx tx mx ks cl)=stC ms m fs fn s (.mk kx nx tx mx ks cl)):=fun h=>if_pos h
  have HSb:Hid (¬ kx=8→stK fs fn ms m s (.mk kx nx tx mx ks cl)=s):=fun h=>if_neg h
  simp only [Ex.kind,Ex.n,Ex.text,Ex.mod,Ex.kids,Ex.clauses] at *
  clear hx
  have hl':s.length+1≤1048576:=hl
  clear hl
  generalize hX:Ex.mk kx nx tx mx ks cl=X at *
  generalize ks.length=nk at *
  generalize cl.length=nd at *
  obtain ⟨W1,hW1⟩:∃ W1,W1=w.alloc (.cells #[.int .i64 kx,.int .i64 nx,.string tx,.string mx,.slice p1 nk q1,.slice p2 nd q2] 79):=⟨_,rfl⟩
  have B1:Hid (Below w.heap.size w W1):=by show Below _ _ _;rw [hW1];exact (Below.refl _ _).alloc (Nat.le_refl _) _
  have I1:Hid (CbI d b0 pv #[.string m.name,.slice pe ne ce,.slice pf nf cf] #[.string fs,.int .i64 fn,.slice pc nc cc] ms m W1 v s):=h.next B1.out
  have T1:Hid (Blk W1 tb #[(.func (.func 93) #[] #[.pointer (some ⟨b0,0,none⟩),.pointer (some ⟨b0+1,0,none⟩),.pointer (some ⟨b0+1+1,0,none⟩),.pointer (some ⟨b0+1+1+1+1,0,none⟩)])] 147):=hb.next B1.out
  have HW1:Hid (W1=w.alloc (.cells #[.int .i64 kx,.int .i64 nx,.string tx,.string mx,.slice p1 nk q1,.slice p2 nd q2] 79)):=hW1
  have HOK:Hid (okS m.name∧okS fs∧okI fn):=hok
  have HLT:Hid (b0+1+1+1+1<tb):=hlt
  have t0:W1.cell? ⟨tb,0,none⟩=some (.func (.func 93) #[] #[.pointer (some ⟨b0,0,none⟩),.pointer (some ⟨b0+1,0,none⟩),.pointer (some ⟨b0+1+1,0,none⟩),.pointer (some ⟨b0+1+1+1+1,0,none⟩)]):=T1.out.cell 0 _ rfl
  have HOW:Hid (∀ g,v.ownBlock=some g→w.heap[tb]?≠w.heap[g]?):=fun g hg e=>by
    obtain ⟨⟨cells,g1,g2⟩,g3⟩:=h.own
    rcases g1.2 with ⟨rfl,_⟩ | ⟨g2',cap2,cur2,rfl,_,hh2,_⟩
    · simp [Value.ownBlock] at hg
    · simp [Value.ownBlock] at hg
      subst hg
      rw [hh2,show w.heap[tb]?=_ from hb] at e
      simp at e
  have HNT:Hid (¬ MvB b0 v tb):=fun e=>by
    rcases e with e | e
    · omega
    · exact HOW.out tb e rfl
  have HHB:Hid (Blk w tb #[(.func (.func 93) #[] #[.pointer (some ⟨b0,0,none⟩),.pointer (some ⟨b0+1,0,none⟩),.pointer (some ⟨b0+1+1,0,none⟩),.pointer (some ⟨b0+1+1+1+1,0,none⟩)])] 147):=hb
  rw [hW1] at t0
  clear h hb hX hW1
  by_cases hk:kx=8
  · subst hk
    have hkb:((8:Int) == 8)=true:=by simp
    have HS2:Hid (stK fs fn ms m s X=stC ms m fs fn s X):=HSa.out rfl
    go_enter Tryz.func127,Tryz.ntmps127
    go_wp2_with fail
    rw [← HW1.out]
    refine (cb_any d (dx+1) b0 pv pe ne ce pf nf cf fs fn pc nc cc ms m W1 v s _ X I1.out (HXX.out _ B1.out) HOK.out hl').mono ?_
    rintro e w2 ⟨rfl,v2,i2,m2⟩
    have HR:Hid (∃ M',CallI d b0 tb pv pe ne ce pf nf cf fs fn pc nc cc ms m w2 M' (stK fs fn ms m s X)∧Mv (MvB b0 v) M' w w2):=⟨_,⟨v2,rfl,by rw [HS2.out];exact i2,m2.blk T1.out HNT.out,HLT.out⟩,(Mv.of_below B1.out).trans m2⟩
    clear i2 m2 t0
    go_wp2_with fail
    go_end0
    exact ⟨rfl,HR.out⟩
  · have hkb:(kx == 8)=false:=by simpa using hk
    have HS2:Hid (stK fs fn ms m s X=s):=HSb.out hk
    clear t0
    go_enter Tryz.func127,Tryz.ntmps127
    go_wp2_with fail
    rw [← HW1.out]
    go_end0
    exact ⟨rfl,_,⟨v,rfl,by rw [HS2.out];exact I1.out,T1.out,HLT.out⟩,Mv.of_below B1.out⟩
theorem tells (hok:okS m.name∧okS fs∧okI fn):Tells 127 tb (CallI d b0 tb pv pe ne ce pf nf cf fs fn pc nc cc ms m) (fun s _=>s.length+1≤1048576) (stK fs fn ms m) (fun g=>g<b0) where
  off:=by
    rintro w M s ⟨v,rfl,h,hb,hlt⟩
    refine ⟨fun g hg e=>?_,fun g e=>?_,fun g hg=>?_⟩
    · have hg':g<b0:=hg
      rcases e with e | e
      · omega
      · obtain ⟨⟨cells,g1,g2⟩,g3⟩:=h.own
        have:=(owns_own_lt g1 e).1
        omega
    · rcases e with e | e
      · have:=h.l.lt;omega
      · obtain ⟨⟨cells,g1,g2⟩,g3⟩:=h.own
        exact (owns_own_lt g1 e).2
    · have hg':g<b0:=hg
      have:=h.p.lt
      omega
  next:=by
    rintro w w' M s ⟨v,rfl,h,hb,hlt⟩ hbel
    exact ⟨v,rfl,h.next hbel,hb.next hbel,hlt⟩
  call:=by
    rintro w M s dx cs x ⟨v,rfl,h,hb,hlt⟩ hx hl
    exact tells_call d b0 tb pv pe ne ce pf nf cf fs fn pc nc cc ms m hok w s dx cs x v h hb hlt hx hl
end
end
section
section
variable (d b0:Nat) (pv:Value) (pe:Option Addr) (ne ce:Nat) (pf:Option Addr) (nf cf:Nat) (fs:ByteArray) (fn:Int) (pc:Option Addr) (nc cc:Nat) (ms:List Md) (m:Md)
theorem eachCall_any (hok:okS m.name∧okS fs∧okI fn) (w:World) (s:List Pb) (v:Value) (cl:List Cl) (h:CbI d b0 pv #[.string m.name,.slice pe ne ce,.slice pf nf cf] #[.string fs,.int .i64 fn,.slice pc nc cc] ms m w v s) (hr:Rows w (fun g=>g<b0) 2 (HCl w (fun g=>g<b0) (HEx w (fun g=>g<b0) d)) (.slice pc nc cc) cl)
    (hR:Runs (fun (s:List Pb) _=>s.length+1≤1048576) (stK fs fn ms m) s (cl.flatMap fun c=>c.2.flatMap (preX d))) :
    Calls Tryz.prog 92 #[.agg #[.string fs,.int .i64 fn,.slice pc nc cc],(.func (.func 93) #[] #[.pointer (some ⟨b0,0,none⟩),.pointer (some ⟨b0+1,0,none⟩),.pointer (some ⟨b0+1+1,0,none⟩),.pointer (some ⟨b0+1+1+1+1,0,none⟩)])] w fun e w'=>e=.returned (.tuple #[])∧∃ v',CbI d b0 pv #[.string m.name,.slice pe ne ce,.slice pf nf cf] #[.string fs,.int .i64 fn,.slice pc nc cc] ms m w' v' ((cl.flatMap fun c=>c.2.flatMap (preX d)).foldl (stK fs fn ms m) s)∧Mv (MvB b0 v) (MvB b0 v') w w':=by
  obtain ⟨W2,hW2⟩:∃ W2,W2=((w.alloc (.cells #[.string fs,.int .i64 fn,.slice pc nc cc] 91)).alloc (.cells #[(.func (.func 93) #[] #[.pointer (some ⟨b0,0,none⟩),.pointer (some ⟨b0+1,0,none⟩),.pointer (some ⟨b0+1+1,0,none⟩),.pointer (some ⟨b0+1+1+1+1,0,none⟩)])] 147)):=⟨_,rfl⟩
  have B2:Hid (Below w.heap.size w W2):=by show Below _ _ _;rw [hW2];exact ((Below.refl _ _).alloc (Nat.le_refl _) _).alloc (by simp only [alloc_hs];omega) _
  have TT:=tells d b0 (w.heap.size+1) pv pe ne ce pf nf cf fs fn pc nc cc ms m hok
  have HT:Hid (Tells 127 (w.heap.size+1) (CallI d b0 (w.heap.size+1) pv pe ne ce pf nf cf fs fn pc nc cc ms m) (fun s _=>s.length+1≤1048576) (stK fs fn ms m) (fun g=>g<b0)):=TT
  have bT:Blk W2 (w.heap.size+1) #[(.func (.func 93) #[] #[.pointer (some ⟨b0,0,none⟩),.pointer (some ⟨b0+1,0,none⟩),.pointer (some ⟨b0+1+1,0,none⟩),.pointer (some ⟨b0+1+1+1+1,0,none⟩)])] 147:=by
    rw [hW2]
    have:=Blk.new (w:=w.alloc (.cells #[.string fs,.int .i64 fn,.slice pc nc cc] 91)) (cs:=#[(.func (.func 93) #[] #[.pointer (some ⟨b0,0,none⟩),.pointer (some ⟨b0+1,0,none⟩),.pointer (some ⟨b0+1+1,0,none⟩),.pointer (some ⟨b0+1+1+1+1,0,none⟩)])]) (t:=147)
    rw [alloc_hs] at this
    exact this
  have I2:Hid (CallI d b0 (w.heap.size+1) pv pe ne ce pf nf cf fs fn pc nc cc ms m W2 (MvB b0 v) s):=⟨v,rfl,h.next B2.out,bT,by have:=h.l.lt;omega⟩
  have HOF:Hid (∀ g,g<b0→¬ MvB b0 v g):=(TT.off _ _ _ I2.out).1
  obtain ⟨p,cap,hv,hcl,hcm,hx⟩:=hr
  simp only [Value.slice.injEq] at hv
  obtain ⟨rfl,hnc,rfl⟩:=hv
  have hnb:nc≤9223372036854775807:=by unfold maxLen at hcm;omega
  have HN:Hid (cl.length=nc):=hnc.symm
  have HX:Hid (cl≠[]→∃ g off,pc=some ⟨g,off,none⟩∧g<b0∧g<w.heap.size∧∀ i x,cl[i]?=some x→∃ cs,cs.length=2∧(∀ j,j<2→w.cell? ⟨g,off+i * 2+j,none⟩=cs[j]?)∧HCl w (fun g=>g<b0) (HEx w (fun g=>g<b0) d) cs x):=hx
  have HR:Hid (Runs (fun (s:List Pb) _=>s.length+1≤1048576) (stK fs fn ms m) s (cl.flatMap fun c=>c.2.flatMap (preX d))):=hR
  have HW2:Hid (W2=((w.alloc (.cells #[.string fs,.int .i64 fn,.slice pc nc cc] 91)).alloc (.cells #[(.func (.func 93) #[] #[.pointer (some ⟨b0,0,none⟩),.pointer (some ⟨b0+1,0,none⟩),.pointer (some ⟨b0+1+1,0,none⟩),.pointer (some ⟨b0+1+1+1+1,0,none⟩)])] 147))):=hW2
  clear hx hR hW2 bT TT h hnc hcl
  go_enter Tryz.func92,Tryz.ntmps92
  go_wp2_with fail
  rw [← HW2.out]
  go_loopw [9] (fun iv wr=>∃ k:Nat,k≤nc∧iv=.int .i64 k∧Hid (∃ M',CallI d b0 (w.heap.size+1) pv pe ne ce pf nf cf fs fn pc nc cc ms m wr M' (((cl.take k).flatMap fun c=>c.2.flatMap (preX d)).foldl (stK fs fn ms m) s)∧Mv (MvB b0 v) M' w wr)) (fun iv _=>nc - (intOf iv).toNat)
  case atStart=>exact ⟨0,Nat.zero_le _,rfl,⟨_,by simpa using I2.out,Mv.of_below B2.out⟩⟩
  case round =>
    obtain ⟨k,hk,rfl,HVk⟩:=hrel
    obtain ⟨Mk,ik,mk⟩:=HVk.out
    have IK:Hid (CallI d b0 (w.heap.size+1) pv pe ne ce pf nf cf fs fn pc nc cc ms m wr Mk (((cl.take k).flatMap fun c=>c.2.flatMap (preX d)).foldl (stK fs fn ms m) s)):=ik
    have MK:Hid (Mv (MvB b0 v) Mk w wr):=mk
    clear HVk ik mk
    by_cases hlt:k<nc
    · obtain ⟨c,hck⟩:∃ c,cl[k]?=some c:=⟨cl[k]'(by rw [HN.out];exact hlt),List.getElem?_eq_getElem _⟩
      obtain ⟨g,off,rfl,hgm,hgl,hat⟩:=HX.out (by intro h;rw [h] at hck;simp at hck)
      obtain ⟨cs,hcsl,hcs,pv',bv,rfl,rp,rb⟩:=hat k c hck
      have SK:Hid (SameOn (fun g=>g<b0) w wr):=MK.out.sameOn HOF.out
      have RB:Hid (Rows wr (fun g=>g<b0) 6 (HEx wr (fun g=>g<b0) d) bv c.2):=Rows.mono rb SK.out (fun _ h=>h) (fun _ _ _ h=>h.mono SK.out (fun _ h=>h))
      obtain ⟨pp,capp,rfl,-⟩:=rp
      obtain ⟨pb,capb,rfl,-⟩:=rb
      have hge:wr.heap[g]?=w.heap[g]?:=SK.out.2 g hgm hgl
      have a0:=(World.cell?_of_block (a:=⟨g,off+k * 2+0,none⟩) hge).trans (hcs 0 (by omega))
      have a1:=(World.cell?_of_block (a:=⟨g,off+k * 2+1,none⟩) hge).trans (hcs 1 (by omega))
      simp at a0 a1
      obtain ⟨hr1,hj1⟩:=Runs.take k c HR.out hck
      generalize ((cl.take k).flatMap fun c=>c.2.flatMap (preX d)).foldl (stK fs fn ms m) s=sk at *
      have HR1:Hid (Runs (fun (s:List Pb) _=>s.length+1≤1048576) (stK fs fn ms m) sk (c.2.flatMap (preX d))):=hr1
      have HJ1:Hid (((cl.take (k+1)).flatMap fun c=>c.2.flatMap (preX d)).foldl (stK fs fn ms m) s=(c.2.flatMap (preX d)).foldl (stK fs fn ms m) sk):=hj1
      have hki:(k:Int)<(nc:Int):=by omega
      have hk0:(0:Int)≤(k:Int):=by omega
      have HBC:Hid (Below wr.heap.size wr (wr.alloc (.cells #[.slice pp c.1.length capp,.slice pb c.2.length capb] 127))):=(Below.refl _ _).alloc (Nat.le_refl _) _
      clear hat hcs hcsl hge hr1 hj1
      go_wp2_with fail
      refine (eachOfC_all HT.out d _ Mk sk _ c.2 (Rows.mono RB.out (SameOn.of_below HBC.out) (fun _ h=>h) (fun _ _ _ h=>h.mono (SameOn.of_below HBC.out) (fun _ h=>h))) (HT.out.next _ _ _ _ IK.out HBC.out) HR1.out).mono ?_
      rintro e w3 ⟨rfl,M3,i3,m3⟩
      have HI4:Hid (∃ M',CallI d b0 (w.heap.size+1) pv pe ne ce pf nf cf fs fn (some ⟨g,off,none⟩) nc cc ms m w3 M' (((cl.take (k+1)).flatMap fun c=>c.2.flatMap (preX d)).foldl (stK fs fn ms m) s)∧Mv (MvB b0 v) M' w w3):=⟨M3,by rw [HJ1.out];exact i3,(MK.out.trans (Mv.of_below HBC.out)).trans m3⟩
      clear i3 m3 a0 a1
      go_wp2_with fail
      exact ⟨⟨k+1,by omega,by go_num,HI4⟩,by simp [intOf];omega⟩
    · have HS:Hid (∃ v',CbI d b0 pv #[.string m.name,.slice pe ne ce,.slice pf nf cf] #[.string fs,.int .i64 fn,.slice pc nc cc] ms m wr v' ((cl.flatMap fun c=>c.2.flatMap (preX d)).foldl (stK fs fn ms m) s)∧Mv (MvB b0 v) (MvB b0 v') w wr):=by
        have h1:=IK.out
        rw [show cl.take k=cl from List.take_of_length_le (by rw [HN.out];omega)] at h1
        obtain ⟨v',rfl,h2,-,-⟩:=h1
        exact ⟨v',h2,MK.out⟩
      go_wp2_with fail
      go_end0
      exact ⟨rfl,HS.out⟩
end
end
theorem fn_tight {w:World} {S:Nat→Prop} {d:Nat} {cs:List Value} {f:Fn'} (h:HFn w S d cs f):HFn w (fun g=>g<w.heap.size) d cs f:=by
  obtain ⟨cv,rfl,h1,h2,hc⟩:=h
  refine ⟨cv,rfl,h1,h2,hc.tight (fun _ _ h=>?_)⟩
  obtain ⟨p,b,rfl,g1,g2⟩:=h
  exact ⟨p,b,rfl,g1.tight (fun _ _ h=>h.tight),g2.tight (fun _ _ h=>h.tight)⟩
theorem md_tight {w:World} {S:Nat→Prop} {d:Nat} {cs:List Value} {m:Md} (h:HMd w S d cs m):HMd w (fun g=>g<w.heap.size) d cs m:=by
  obtain ⟨ev,fv,rfl,h1,he,hf⟩:=h
  exact ⟨ev,fv,rfl,h1,he.tight (fun _ _ h=>h),hf.tight (fun _ _ h=>fn_tight h)⟩
theorem callProblems_any (d:Nat) (w:World) (pv:Value) (ms:List Md) (mc:List Value) (m:Md) (cs:List Value) (f:Fn') (h:Rows w All 3 (HMd w All d) pv ms) (hm:HMd w All d mc m) (hf:HFn w All d cs f)
    (hR:Runs (fun (s:List Pb) _=>s.length+1≤1048576) (stK f.name f.arity ms m) [] (f.clauses.flatMap fun c=>c.2.flatMap (preX d))) :
    Calls Tryz.prog 63 #[.agg #[pv],.agg mc.toArray,.agg cs.toArray] w fun e w'=>∃ u,e=.returned u∧OwnP w' w.heap.size u ((f.clauses.flatMap fun c=>c.2.flatMap (preX d)).foldl (stK f.name f.arity ms m) [])∧Below w.heap.size w w':=by
  have hmT:HMd w (fun g=>g<w.heap.size) d mc m:=md_tight hm
  have hrT:Rows w (fun g=>g<w.heap.size) 3 (HMd w (fun g=>g<w.heap.size) d) pv ms:=Rows.tight h (fun _ _ h=>md_tight h)
  have hfT:HFn w (fun g=>g<w.heap.size) d cs f:=fn_tight hf
  obtain ⟨p,cap,rfl,-⟩:=id h
  obtain ⟨ev,fv,rfl,hms,⟨pe,ce,rfl,-⟩,⟨pf,cf,rfl,-⟩⟩:=id hm
  obtain ⟨cv,rfl,hfs,hfn,hcl⟩:=hfT
  obtain ⟨pc,cc,rfl,-⟩:=id hcl
  generalize ms.length=n at *
  generalize m.exports.length=ne at *
  generalize m.funs.length=nf at *
  generalize f.clauses=cl at *
  generalize cl.length=nc at *
  generalize f.name=fs at *
  generalize f.arity=fn at *
  obtain ⟨W5,hW5⟩:∃ W5,W5=(((((w.alloc (.cells #[.slice p n cap] 66)).alloc (.cells #[.string m.name,.slice pe ne ce,.slice pf nf cf] 47)).alloc (.cells #[.string fs,.int .i64 fn,.slice pc nc cc] 91)).alloc (.cells #[] 102)).alloc (.cells #[(.slice (some ⟨w.heap.size+1+1+1,0,none⟩) 0 0)] 59)):=⟨_,rfl⟩
  have B5:Hid (Below w.heap.size w W5):=by
    show Below _ _ _
    rw [hW5]
    exact (((((Below.refl _ _).alloc (Nat.le_refl _) _).alloc (by simp only [alloc_hs];omega) _).alloc (by simp only [alloc_hs];omega) _).alloc (by simp only [alloc_hs];omega) _).alloc (by simp only [alloc_hs];omega) _
  have hsm:SameOn (fun g=>g<w.heap.size) w W5:=SameOn.of_low B5.out
  have b2:=Blk.new (w:=(w.alloc (.cells #[.slice p n cap] 66))) (cs:=#[.string m.name,.slice pe ne ce,.slice pf nf cf]) (t:=47)
  have b3:=Blk.new (w:=((w.alloc (.cells #[.slice p n cap] 66)).alloc (.cells #[.string m.name,.slice pe ne ce,.slice pf nf cf] 47))) (cs:=#[.string fs,.int .i64 fn,.slice pc nc cc]) (t:=91)
  have b5:=Blk.new (w:=((((w.alloc (.cells #[.slice p n cap] 66)).alloc (.cells #[.string m.name,.slice pe ne ce,.slice pf nf cf] 47)).alloc (.cells #[.string fs,.int .i64 fn,.slice pc nc cc] 91)).alloc (.cells #[] 102))) (cs:=#[(.slice (some ⟨w.heap.size+1+1+1,0,none⟩) 0 0)]) (t:=59)
  have o4:=(OwnG.fresh (w:=(((w.alloc (.cells #[.slice p n cap] 66)).alloc (.cells #[.string m.name,.slice pe ne ce,.slice pf nf cf] 47)).alloc (.cells #[.string fs,.int .i64 fn,.slice pc nc cc] 91))) (e:=102) (c:=4) (R:=HPb)).next ((Below.refl _ _).alloc (Nat.le_refl _) (.cells #[(.slice (some ⟨w.heap.size+1+1+1,0,none⟩) 0 0)] 59))
  simp only [alloc_hs] at b2 b3 b5 o4
  have HI:Hid (CbI d w.heap.size (.slice p n cap) #[.string m.name,.slice pe ne ce,.slice pf nf cf] #[.string fs,.int .i64 fn,.slice pc nc cc] ms m W5 (.slice (some ⟨w.heap.size+1+1+1,0,none⟩) 0 0) []):=by
    refine ⟨?_,?_,?_,?_,?_,hrT.mono hsm (fun _ h=>h) (fun _ _ _ h=>h.mono hsm (fun _ h=>h)),hmT.mono hsm (fun _ h=>h)⟩
    · rw [hW5];exact Blk.new.alloc.alloc.alloc.alloc
    · rw [hW5];exact b2.alloc.alloc.alloc
    · rw [hW5];exact b3.alloc.alloc
    · rw [hW5];exact b5
    · rw [hW5];exact o4
  have HCL:Hid (Rows W5 (fun g=>g<w.heap.size) 2 (HCl W5 (fun g=>g<w.heap.size) (HEx W5 (fun g=>g<w.heap.size) d)) (.slice pc nc cc) cl):=hcl.mono hsm (fun _ h=>h) (fun _ _ _ h=>h.mono hsm (fun _ h=>h) (fun _ _=>HEx.mono hsm (fun _ h=>h)))
  have HOK:Hid (okS m.name∧okS fs∧okI fn):=⟨hms,hfs,hfn⟩
  have HR:Hid (Runs (fun (s:List Pb) _=>s.length+1≤1048576) (stK fs fn ms m) [] (cl.flatMap fun c=>c.2.flatMap (preX d))):=hR
  have HW5:Hid (W5=(((((w.alloc (.cells #[.slice p n cap] 66)).alloc (.cells #[.string m.name,.slice pe ne ce,.slice pf nf cf] 47)).alloc (.cells #[.string fs,.int .i64 fn,.slice pc nc cc] 91)).alloc (.cells #[] 102)).alloc (.cells #[(.slice (some ⟨w.heap.size+1+1+1,0,none⟩) 0 0)] 59))):=hW5
  clear hR hcl hrT hmT h hm hf hsm b2 b3 b5 o4 hW5 hms hfs hfn
  go_enter Tryz.func63,Tryz.ntmps63
  go_wp2_with fail
  rw [← HW5.out]
  refine (eachCall_any d w.heap.size (.slice p n cap) pe ne ce pf nf cf fs fn pc nc cc ms m HOK.out W5 [] (.slice (some ⟨w.heap.size+1+1+1,0,none⟩) 0 0) cl HI.out HCL.out HR.out).mono ?_
  rintro e w6 ⟨rfl,v6,i6,m6⟩
  have B6:Hid (Below w.heap.size w w6):=B5.out.trans (m6.below (fun g hg=>by
    rcases hg with hg | hg
    · omega
    · simp [Value.ownBlock] at hg;omega) B5.out.size)
  have O6:Hid (OwnP w6 w.heap.size v6 ((cl.flatMap fun c=>c.2.flatMap (preX d)).foldl (stK fs fn ms m) [])):=i6.own.base (by omega)
  have l6:=i6.l.cell 0 _ rfl
  clear i6 m6
  go_wp2_with fail
  go_ret
  exact ⟨_,rfl,O6.out,B6.out⟩
theorem exportProblems_any (d:Nat) (w:World) (cs:List Value) (m:Md) (h:HMd w All d cs m) (hw:m.exports.length≤1048576) :
    Calls Tryz.prog 58 #[.agg cs.toArray] w fun e w'=>∃ u,e=.returned u∧OwnP w' w.heap.size u (m.exports.flatMap (exportP m))∧Below w.heap.size w w':=by
  have HMM:Hid (∀ w',Below w.heap.size w w'→HMd w' All d cs m):=fun w' hw=>h.mono (SameOn.of_below hw) (fun _ h=>h)
  obtain ⟨ev,fv,rfl,hms,he,hf⟩:=h
  have HFS:Hid (∀ w',Below w.heap.size w w'→Rows w' All 3 (HFn w' All d) fv m.funs):=fun w' hw=>hf.mono (SameOn.of_below hw) (fun _ h=>h) (fun _ _ _ h=>h.mono (SameOn.of_below hw) (fun _ h=>h))
  obtain ⟨pf,cf,rfl,-⟩:=hf
  obtain ⟨pe,ce,rfl,hce,hcme,hxe⟩:=he
  have HXE:Hid (m.exports≠[]→∃ g off,pe=some ⟨g,off,none⟩∧All g∧g<w.heap.size∧∀ i x,m.exports[i]?=some x→∃ cs,cs.length=2∧(∀ j,j<2→w.cell? ⟨g,off+i * 2+j,none⟩=cs[j]?)∧HRf cs x):=hxe
  have HLL:Hid ((m.exports.flatMap (exportP m)).length≤1048576):=by
    have h1:=flat_lenG (exportP m) (fun _=>1) m.exports (fun r _=>by
      unfold exportP
      split
      · exact Nat.zero_le _
      · exact Nat.le_refl _)
    have h3:∀ l:List Rf,(l.map fun _=>1).sum=l.length:=fun l=>by
      induction l with
      | nil=>rfl
      | cons y l ih=>simp only [List.map_cons,List.sum_cons,List.length_cons,ih];omega
    rw [h3] at h1
    exact Nat.le_trans h1 hw
  have hne:m.exports.length≤9223372036854775807:=by omega
  have HMSN:Hid (okS m.name):=hms
  generalize hn1:m.exports.length=ne at *
  have HN1:Hid (m.exports.length=ne):=hn1
  generalize m.funs.length=nf at *
  obtain ⟨W1,hW1⟩:∃ W1,W1=w.alloc (.cells #[.string m.name,.slice pe ne ce,.slice pf nf cf] 47):=⟨_,rfl⟩
  have b1:Blk W1 w.heap.size #[.string m.name,.slice pe ne ce,.slice pf nf cf] 47:=by rw [hW1];exact Blk.new
  have hs1:W1.heap.size=w.heap.size+1:=by rw [hW1,alloc_hs]
  have hb1:Below w.heap.size w W1:=by rw [hW1];exact (Below.refl _ _).alloc (Nat.le_refl _) _
  have hal:Below W1.heap.size W1 (W1.alloc (.cells #[] 102)):=(Below.refl _ _).alloc (Nat.le_refl _) _
  have B2:Hid (Below w.heap.size w (W1.alloc (.cells #[] 102))):=hb1.trans (hal.mono hb1.size)
  have b2:Hid (Blk (W1.alloc (.cells #[] 102)) w.heap.size #[.string m.name,.slice pe ne ce,.slice pf nf cf] 47):=b1.next hal
  have O2:Hid (OwnP (W1.alloc (.cells #[] 102)) w.heap.size (.slice (some ⟨w.heap.size+1,0,none⟩) 0 0) []):=by
    have:=(OwnG.fresh (w:=W1) (e:=102) (c:=4) (R:=HPb)).base (B':=w.heap.size) (by omega)
    rw [hs1] at this
    exact this
  have HW1:Hid (W1=w.alloc (.cells #[.string m.name,.slice pe ne ce,.slice pf nf cf] 47)):=hW1
  clear hxe hn1 b1 hb1 hal hs1 hms hce hcme hw hW1
  go_enter Tryz.func58,Tryz.ntmps58
  go_wp2_with fail
  rw [← HW1.out]
  go_loopw [3,10] (fun ov iv wx=>∃ k:Nat,k≤ne∧iv=.int .i64 k∧Hid (OwnP wx w.heap.size ov ((m.exports.take k).flatMap (exportP m)))∧Hid (Below w.heap.size w wx)∧Hid (Blk wx w.heap.size #[.string m.name,.slice pe ne ce,.slice pf nf cf] 47)) (fun _ iv _=>ne - (intOf iv).toNat)
  case atStart=>exact ⟨0,Nat.zero_le _,rfl,by show OwnP _ _ _ _;simpa using O2.out,B2,b2⟩
  case round =>
    obtain ⟨k,hk,rfl,ho,hb,bb⟩:=hrel
    clear O2 B2 b2
    by_cases hlk:k<ne
    · obtain ⟨r,hrk⟩:∃ r,m.exports[k]?=some r:=⟨m.exports[k]'(by rw [HN1.out];exact hlk),List.getElem?_eq_getElem _⟩
      obtain ⟨g6,o6,rfl,-,hgl6,hat6⟩:=HXE.out (by intro h;rw [h] at hrk;simp at hrk)
      obtain ⟨cs6,hcsl6,hcs6,rfl,hrs,hri⟩:=hat6 k r hrk
      have a0:=hcs6 0 (by omega)
      have a1:=hcs6 1 (by omega)
      rw [← hb.out.cell (p:=⟨g6,_,none⟩) hgl6] at a0 a1
      simp at a0 a1
      have hki6:(k:Int)<(ne:Int):=by omega
      have hk06:(0:Int)≤(k:Int):=by omega
      obtain ⟨HJ,HL⟩:=flat_takeG (exportP m) m.exports k r hrk
      have HJ6:Hid ((m.exports.take (k+1)).flatMap (exportP m)=(m.exports.take k).flatMap (exportP m) ++ exportP m r):=HJ
      have HL6:Hid (((m.exports.take k).flatMap (exportP m)).length+(exportP m r).length≤1048576):=Nat.le_trans HL HLL.out
      have HEP:Hid (exportP m r=if hasF m r.name r.arity then [] else [⟨m.name,r.name,r.arity,cExport⟩]):=rfl
      have HHF:Hid (hasF m r.name r.arity=m.funs.any (sameR ⟨r.name,r.arity⟩)):=rfl
      obtain ⟨rs,rn⟩:=r
      simp only at *
      have HPB:Hid (HPb [.string m.name,.string rs,.int .i64 rn,.string ⟨#[101,120,112,111,114,116]⟩] ⟨m.name,rs,rn,cExport⟩):=⟨rfl,HMSN.out,hrs,hri,okS_export⟩
      obtain ⟨W6,hW6⟩:∃ W6,W6=wr.alloc (.cells #[.string rs,.int .i64 rn] 89):=⟨_,rfl⟩
      obtain ⟨br,hbr⟩:∃ br,br=wr.heap.size:=⟨_,rfl⟩
      have hbl:Below wr.heap.size wr W6:=by rw [hW6];exact (Below.refl _ _).alloc (Nat.le_refl _) _
      have br6:Hid (Blk W6 br #[.string rs,.int .i64 rn] 89):=by show Blk _ _ _ _;rw [hW6,hbr];exact Blk.new
      have bm6:Hid (Blk W6 w.heap.size #[.string m.name,.slice (some ⟨g6,o6,none⟩) ne ce,.slice pf nf cf] 47):=bb.out.next hbl
      have HB6:Hid (Below w.heap.size w W6):=hb.out.trans (hbl.mono hb.out.size)
      have HO6:Hid (OwnP W6 w.heap.size u3 ((m.exports.take k).flatMap (exportP m))):=ho.out.next hbl
      have HW6:Hid (W6=wr.alloc (.cells #[.string rs,.int .i64 rn] 89)):=hW6
      have HBR:Hid (wr.heap.size=br):=hbr.symm
      have y2:=bm6.out.cell 2 _ rfl
      rw [hW6] at y2
      generalize hJ0:(m.exports.take k).flatMap (exportP m)=J at *
      clear hcs6 hcsl6 hat6 HJ HL hW6 hbr hbl hJ0 hrk hrs hri ho hb bb
      go_wp2_with fail
      rw [← HW6.out]
      clear y2 a0 a1
      refine (hasFun_any d _ _ m.funs ⟨rs,rn⟩ (HFS.out _ HB6.out)).mono ?_
      rintro e w7 ⟨rfl,hb7⟩
      rw [← HHF.out]
      have br7:Hid (Blk w7 br #[.string rs,.int .i64 rn] 89):=br6.out.next hb7
      have bm7:Hid (Blk w7 w.heap.size #[.string m.name,.slice (some ⟨g6,o6,none⟩) ne ce,.slice pf nf cf] 47):=bm6.out.next hb7
      have HB7:Hid (Below w.heap.size w w7):=HB6.out.trans (hb7.mono HB6.out.size)
      have HO7:Hid (OwnP w7 w.heap.size u3 J):=HO6.out.next hb7
      clear hb7
      rw [HBR.out]
      have y0:=bm7.out.cell 0 _ rfl
      have y1:=bm7.out.cell 1 _ rfl
      have y2:=bm7.out.cell 2 _ rfl
      have r0:=br7.out.cell 0 _ rfl
      have r1:=br7.out.cell 1 _ rfl
      cases hF:hasF m rs rn with
      | true =>
        have HO9:Hid (OwnP w7 w.heap.size u3 ((m.exports.take (k+1)).flatMap (exportP m))):=by show OwnP _ _ _ _;rw [HJ6.out,HEP.out,hF];simpa using HO7.out
        go_wp2_with fail
        exact ⟨⟨k+1,by omega,by go_num,HO9,HB7,bm7⟩,by simp [intOf];omega⟩
      | false =>
        have HE2:Hid (exportP m ⟨rs,rn⟩ = [⟨m.name,rs,rn,cExport⟩]):=by show _=_;rw [HEP.out,hF];rfl
        go_wp2_with fail
        refine (problemOf_any _ m.name (some ⟨g6,o6,none⟩) pf ne ce nf cf rs rn ⟨#[101,120,112,111,114,116]⟩).mono ?_
        rintro e w8 ⟨rfl,hb8⟩
        have bm8:Hid (Blk w8 w.heap.size #[.string m.name,.slice (some ⟨g6,o6,none⟩) ne ce,.slice pf nf cf] 47):=bm7.out.next hb8
        have HB8:Hid (Below w.heap.size w w8):=HB7.out.trans (hb8.mono HB7.out.size)
        have HO8:Hid (OwnP w8 w.heap.size u3 J):=HO7.out.next hb8
        clear hb8 y0 y1 y2 r0 r1
        go_wp2_with (at_builtin;refine wpList_append_one rfl _ _ 59 rfl _ 56 Tryz.underlying59 info_pb rfl (by decide) HO8.out #[.string m.name,.string rs,.int .i64 rn,.string ⟨#[101,120,112,111,114,116]⟩] ⟨m.name,rs,rn,cExport⟩ HPB.out rfl (pb_oneCell _ _ HPB.out) rfl rfl (by have:=HL6.out;rw [HE2.out] at this;exact this) (by decide) ?_;intro v9 w9 ho9 hb9 hap9)
        have HO9:Hid (OwnP w9 w.heap.size v9 ((m.exports.take (k+1)).flatMap (exportP m))):=by show OwnP _ _ _ _;rw [HJ6.out,HE2.out];exact ho9
        have HB9:Hid (Below w.heap.size w w9):=HB8.out.trans hb9
        have b9:Hid (Blk w9 w.heap.size #[.string m.name,.slice (some ⟨g6,o6,none⟩) ne ce,.slice pf nf cf] 47):=hap9.blk bm8.out (by decide)
        clear ho9 hb9 hap9
        go_wp2_with fail
        exact ⟨⟨k+1,by omega,by go_num,HO9,HB9,b9⟩,by simp [intOf];omega⟩
    · have HR:Hid (OwnP wr w.heap.size u3 (m.exports.flatMap (exportP m))):=by
        have:=ho.out
        rwa [show m.exports.take k=m.exports from List.take_of_length_le (by rw [HN1.out];omega)] at this
      clear ho
      go_wp2_with fail
      go_ret
      exact ⟨_,rfl,HR.out,hb.out⟩
end Go.Proofs.YtefpgpbbgclemaaGreatDoor
