/-
  NameSpecE NameSpecF NameSpecJ
-/
import Derived.Deep.RegionLaw
import Derived.Deep.RegionHeldLaw
import Derived.Deep.AppendLies
import Derived.Test.YtbdhpganbbandaaGreatDoorP17
set_option maxHeartbeats 16000000
set_option linter.unusedVariables false
set_option maxRecDepth 100000
namespace Go.Proofs.YtbdhpganbbandaaGreatDoor
open Go.ChangeShapes Go.WideShapes Go.ChangeAt Go.RowKit
theorem step_append_own {P:Program} (w:World) {ops:Array Oper} {o:Oper} {a:Act} {K:Act->World->Prop} {Q:Exit->Act->World->Prop} {E:Prop} (hgd:o.guard=none) (s x:Operand) (t:TypeId)
 (ho:o.op=.call { callee:=.builtin .append,args:=#[s,x],argTypes:=#[t,t] })
 (base:Nat) (e:TypeId) (i:TypeInfo) (z:Value) (size bytes:Nat) (ht:P.underlying t=some (.slice e)) (hi:P.info? e=some i) (hz:i.zero=some z)
 (hsize:i.size=size) (hby:i.bytes=bytes) (hzs:z.cells.size=size) (hsz:0<size)
 (v:Value) (n:Nat) (xs:List Value) (hs:a.eval s=v) (hown:w.ownsRow base e size v n xs)
 (ad:Addr) (m c:Nat) (news:List Value) (hx:a.eval x=.slice (some ad) m c) (hl:news.length=m * size) (hnews:∀ j u,news[j]?=some u->w.cell? (ad.add j)=some u) (h1:∀ u ∈ news,u.oneCell'=true)
 (h63:n+m<=maxLen) (hbytes:(n+m) * bytes<=140737488355328) (hbase:base<=w.heap.size)
 (h:∀ v' w',w'.ownsRow base e size v' (n+m) (xs ++ news)->w.grownBy w' v.ownBlock->(v'=.slice none 0 0 ↔ v=.slice none 0 0/\m=0)->K (a.put o.dst v') w') :
 if Region.wanted o (yielded ops a.tmps)=true then Oper.wp P o a w K Q else E:=by
 have hw:Region.wanted o (yielded ops a.tmps)=true:=(by simp [Region.wanted,hgd]);rw [if_pos hw];exact wp_append_own w s x t ho base e i z size bytes ht hi hz hsize hby hzs hsz v n xs hs hown ad m c news hx hl hnews h1 h63 hbytes hbase h
def ltS (a b:ByteArray):Bool:=Op.bytesLess a.toList b.toList
def insS:List ByteArray->ByteArray->List ByteArray
 | [],s=>[s]
 | x :: xs,s=>if ltS x s then x :: insS xs s else if x.toList=s.toList then x :: xs else s :: x :: xs
def sortS (l:List ByteArray):List ByteArray:=l.foldl insS []
theorem insS_at:∀ (l:List ByteArray) (s:ByteArray) (k:Nat),k<=l.length->(∀ j x,j<k->l[j]?=some x->ltS x s=true)->(∀ x,l[k]?=some x->ltS x s=false) ->
 insS l s=(match l[k]? with | some x=>if x.toList=s.toList then l else l.take k ++ s :: l.drop k | none=>l.take k ++ s :: l.drop k)
 | [],s,k,hk,h1,h2=>by
  obtain rfl:k=0:=by simpa using hk
  rfl
 | x :: xs,s,0,hk,h1,h2=>by
  have h:=h2 x rfl;simp only [insS,h,Bool.false_eq_true,if_false,List.getElem?_cons_zero]
  split <;> rfl
 | x :: xs,s,k+1,hk,h1,h2=>by
  have h:=h1 0 x (by omega) rfl;have ih:=insS_at xs s k (by simpa using hk) (λj y hj hy=>h1 (j+1) y (by omega) (by simpa using hy)) (λy hy=>h2 y (by simpa using hy));simp only [insS,h,if_true,List.getElem?_cons_succ];rw [ih]
  cases hk:xs[k]? with
  | none=>rfl
  | some y =>
   simp only
   split <;> rfl
theorem insS_length (l:List ByteArray) (s:ByteArray):(insS l s).length<=l.length+1:=by
 induction l with
 | nil=>simp [insS]
 | cons x xs ih =>
  unfold insS
  split
  . simp only [List.length_cons];omega
  . split <;> simp
theorem insS_mem (l:List ByteArray) (s:ByteArray):∀ y ∈ insS l s,y=s\/y ∈ l:=by
 induction l with
 | nil=>intro y hy;simp [insS] at hy;exact .inl hy
 | cons x xs ih =>
  intro y hy;unfold insS at hy
  split at hy
  . rcases List.mem_cons.1 hy with rfl | hy
    . exact .inr (by simp)
    . rcases ih y hy with h | h
      . exact .inl h
      . exact .inr (by simp [h])
  . split at hy
    . exact .inr hy
    . rcases List.mem_cons.1 hy with rfl | hy
      . exact .inl rfl
      . exact .inr hy
theorem sortS_snoc (l:List ByteArray) (k:Nat) (s:ByteArray) (h:l[k]?=some s):sortS (l.take (k+1))=insS (sortS (l.take k)) s:=by
 unfold sortS;rw [List.take_add_one,h];simp
theorem sortS_len (l:List ByteArray):∀ k,(sortS (l.take k)).length<=k:=by
 intro k
 induction k with
 | zero=>simp [sortS]
 | succ k ih =>
  cases h:l[k]? with
  | none =>
   rw [List.take_of_length_le (by have:=List.getElem?_eq_none_iff.1 h;omega)] at *;omega
  | some s=>rw [sortS_snoc l k s h];have:=insS_length (sortS (l.take k)) s;omega
theorem sortS_mem (l:List ByteArray):∀ k,∀ y ∈ sortS (l.take k),y ∈ l:=by
 intro k
 induction k with
 | zero=>intro y hy;simp [sortS] at hy
 | succ k ih =>
  intro y hy
  cases h:l[k]? with
  | none =>
   refine ih y ?_
   rwa [List.take_of_length_le (by have:=List.getElem?_eq_none_iff.1 h;omega),<-List.take_of_length_le (l:=l) (i:=k) (by have:=List.getElem?_eq_none_iff.1 h;omega)] at hy
  | some s =>
   rw [sortS_snoc l k s h] at hy
   rcases insS_mem _ _ y hy with rfl | hy
   . exact List.mem_of_getElem? h
   . exact ih y hy
section
open Go.Proofs.Tryz
theorem OwnS.form {w:World} {B:Nat} {v:Value} {l:List ByteArray} (h:OwnS w B v l) (hn:v≠.slice none 0 0):∃ g cap,v=.slice (some ⟨g,0,none⟩) l.length cap/\l.length<=cap/\cap<=maxLen/\B<=g/\g<w.heap.size:=by
 rcases h.1.2 with ⟨hv,_⟩ | ⟨g,cap,cur,hv,hB,hg,h1,h2,_⟩
 . exact absurd hv hn
 . exact ⟨g,cap,hv,h1,h2,hB,(Array.getElem?_eq_some_iff.1 hg).1⟩
theorem OwnS.cellS {w:World} {B g n cap:Nat} {l:List ByteArray} (h:OwnS w B (.slice (some ⟨g,0,none⟩) n cap) l) (hn:l.length=n) (k:Nat) (x:ByteArray) (hk:l[k]?=some x):w.cell? ⟨g,k,none⟩=some (.string x):=by
 subst hn;exact (h.1.cellAt k (by have:=(List.getElem?_eq_some_iff.1 hk).1;omega)).trans (by simp [strs,hk])
theorem lit0_owns {W:World} {B b:Nat} (h:W.heap[b]?=some (.cells #[] 9)) (hB:B<=b):W.ownsRow B 9 1 (.slice (some ⟨b,0,none⟩) 0 0) 0 [] :=
 ⟨rfl,.inr ⟨b,0,#[],rfl,hB,h,Nat.le_refl _,Nat.zero_le _,rfl,rfl⟩⟩
theorem lit_at1 (W:World) (o o':Obj):((W.alloc o).alloc o').drew.heap[W.heap.size+1]?=some o':=by
 show ((W.heap.push o).push o')[W.heap.size+1]?=some o';have:(W.heap.push o).size=W.heap.size+1:=(by simp);rw [<-this,Array.getElem?_push_size]
theorem lit1_at (W:World) (s:ByteArray) (o:Obj) (b:Nat) (hb:b=W.heap.size+1):((W.alloc o).alloc (.cells #[.string s] 9)).drew.cell? ⟨b,0,none⟩=some (.string s):=by
 subst hb;exact Blk.cell (cs:=#[.string s]) (t:=9) (lit_at1 W o _) 0 _ rfl
theorem lit1_old (W:World) (s:ByteArray) (o:Obj):((W.alloc (.cells #[.string s] 9)).alloc o).drew.cell? ⟨W.heap.size,0,none⟩=some (.string s) :=
 Blk.cell (cs:=#[.string s]) (t:=9) ((Blk.new (w:=W)).alloc (o:=o)) 0 _ rfl
theorem one_at {W:World} {b:Nat} {s:ByteArray} (h:W.cell? ⟨b,0,none⟩=some (.string s)):∀ j u,(strs [s])[j]?=some u->W.cell? ((⟨b,0,none⟩:Addr).add j)=some u:=by
 intro j u hj
 match j,hj with
 | 0,hj=>simp [strs] at hj;subst hj;exact h
theorem news_of {W W0:World} {B g n cap:Nat} {J:List ByteArray} (h:OwnS W0 B (.slice (some ⟨g,0,none⟩) n cap) J) (hn:J.length=n) (he:W.heap[g]?=W0.heap[g]?) (a:Nat):∀ j u,(strs (J.take a))[j]?=some u->W.cell? ((⟨g,0,none⟩:Addr).add j)=some u:=by
 intro j u hj
 have ea:(⟨g,0,none⟩:Addr).add j=⟨g,j,none⟩:=by cases j <;> simp [Addr.add]
 rw [ea,sqK he];simp only [strs,List.map_take,List.getElem?_take] at hj
 split at hj
 . rw [List.getElem?_map,Option.map_eq_some_iff] at hj
   obtain ⟨x,hx,rfl⟩:=hj;exact h.cellS hn j x hx
 . cases hj
theorem news_from {W W0:World} {B g n cap:Nat} {J:List ByteArray} (h:OwnS W0 B (.slice (some ⟨g,0,none⟩) n cap) J) (hn:J.length=n) (he:W.heap[g]?=W0.heap[g]?) (a oa:Nat) (ho:a<J.length->oa=a):∀ j u,(strs (J.drop a))[j]?=some u->W.cell? ((⟨g,oa,none⟩:Addr).add j)=some u:=by
 intro j u hj;simp only [strs,List.map_drop,List.getElem?_drop,List.getElem?_map,Option.map_eq_some_iff] at hj;obtain ⟨x,hx,rfl⟩:=hj;have hlt:=(List.getElem?_eq_some_iff.1 hx).1;obtain rfl:=ho (by omega)
 have ea:(⟨g,oa,none⟩:Addr).add j=⟨g,oa+j,none⟩:=by cases j <;> simp [Addr.add]
 rw [ea,sqK he];exact h.cellS hn (oa+j) x hx
theorem own_nextS {w w':World} {B c n:Nat} {e:TypeId} {v:Value} {xs:List Value} (h:w.ownsRow B e c v n xs) (hb:Bz w w'):w'.ownsRow B e c v n xs:=by
 refine ⟨h.1,?_⟩
 rcases h.2 with hn | ⟨g,cap,cur,hv,hB,hg,hr⟩
 . exact .inl hn
 . exact .inr ⟨g,cap,cur,hv,hB,(hb.block g (Array.getElem?_eq_some_iff.1 hg).1).trans hg,hr⟩
theorem below_own {N:Nat} {a b c:World} {v:Value} {e:TypeId} {k n:Nat} {xs:List Value} (h:Below N a b) (hN:N<=a.heap.size) (ho:b.ownsRow N e k v n xs) (hg:b.grownBy c v.ownBlock):Below N a c:=by
 refine ⟨hg.os.trans h.os,hg.tape.trans h.tape,hg.output.trans h.output,Nat.le_trans h.size hg.size,λj hj=>?_⟩;refine (hg.block j (Nat.lt_of_lt_of_le hj (Nat.le_trans hN h.size)) (λe=>?_)).trans (h.block j hj)
 rcases ho.2 with hn | ⟨g',cap',cur,hv',hB,hg',_⟩
 . rw [hn.1] at e;cases e
 . rw [hv'] at e
   simp [Value.ownBlock] at e;omega
theorem sorted_any (w:World) (v:Value) (xs:List ByteArray) (h:StrR w v xs) (hl:xs.length<=33554432) :
 Calls prog 45 #[v] w λe w'=>∃ u,e=.returned u/\OwnS w' w.heap.size u (sortS xs)/\Bz w w':=by
 obtain ⟨i0,hi,hz0,hz1,hz2⟩:=info_parts info_str;obtain ⟨p,cap,rfl,hcl,hcm,hx⟩:=h
 have HX:Hid (∀ k x,xs[k]?=some x->∃ g off,p=some ⟨g,off,none⟩/\g<w.heap.size/\w.cell? ⟨g,off+k,none⟩=some (.string x)):=λk x hk=>by
  obtain ⟨g,off,e,_,hg,hat⟩:=hx (by intro e;rw [e] at hk;simp at hk);obtain ⟨cs,_,hcs,rfl,_⟩:=hat k x hk;have:=hcs 0 (by decide);simp only [Nat.mul_one,Nat.add_zero,List.getElem?_cons_zero] at this;exact ⟨g,off,e,hg,this⟩
 clear hx;have O0:Hid (OwnS (w.alloc (.cells #[] 9)) w.heap.size (.slice (some ⟨w.heap.size,0,none⟩) 0 0) []):=OwnS.fresh;have B0:Hid (Bz w (w.alloc (.cells #[] 9))):=(sqN _ _);generalize hn:xs.length=n at *;have HN:=hid hn;clear hn;go_enter func45,ntmps45;go_wp2_with fail
 go_loopw [3,4] (λov iv wr=>∃ k:Nat,k<=n/\iv=.int .i64 k/\Hid (OwnS wr w.heap.size ov (sortS (xs.take k))/\ov≠.slice none 0 0)/\Hid (Bz w wr)) (λ_ iv _=>n - (intOf iv).toNat)
 case atStart=>exact ⟨0,Nat.zero_le _,rfl,⟨O0.out,by simp⟩,B0.out⟩
 case round =>
  clear O0 B0;obtain ⟨k,hk,rfl,ho,HB⟩:=hrel;obtain ⟨g3,c3,hu3,hc3,hc3',hB3,hg3⟩:=OwnS.form ho.out.1 ho.out.2;subst hu3;by_cases hlt:k<n
  . obtain ⟨s,hsk⟩:=sqA (l:=xs) (k:=k) HN.out hlt
    obtain ⟨gx,ox,rfl,hgx,cx⟩:=HX.out k s hsk;have hjl:=sortS_len xs k;have HJ:Hid (sortS (xs.take (k+1))=insS (sortS (xs.take k)) s):=sortS_snoc xs k s hsk;generalize hJ:sortS (xs.take k)=J at *;have HO:Hid (OwnS wr w.heap.size (.slice (some ⟨g3,0,none⟩) J.length c3) J):=ho.out.1;have HCX:=hid cx;generalize hm:J.length=m at *;have HM:=hid hm;clear ho cx hJ hm;go_wp2_with fail
    go_loopw [5] (λav wq=>∃ (a q:Nat),a<=m/\av=.int .i64 a/\wq=wr.drewN q/\Hid (∀ j x,j<a->J[j]?=some x->ltS x s=true)) (λav _=>m - (intOf av).toNat)
    case atStart=>exact ⟨0,0,Nat.zero_le _,rfl,rfl,λj x hj=>by omega⟩
    case round =>
     obtain ⟨a,q,ha,rfl,rfl,HA⟩:=hrel;have cx:wr.cell? ⟨gx,ox+k,none⟩=some (.string s):=(HB.out.cell (p:=⟨gx,_,none⟩) hgx).trans HCX.out;by_cases hlm:a<m
     . obtain ⟨y,hya⟩:∃ y,J[a]?=some y:=⟨J[a]'(by rw [HM.out];exact hlm),List.getElem?_eq_getElem _⟩
       have cy:wr.cell? ⟨g3,a,none⟩=some (.string y):=HO.out.cellS HM.out a y hya
       cases hys:Op.bytesLess y.toList s.toList with
       | true =>
        go_wp2_with fail
        go_quiet (fail)
        go_wp2_with fail;refine ⟨⟨a+1,q+nq,by omega,by go_num,rfl,λj x hj hx=>?_⟩,by simp [intOf];omega⟩;by_cases hja:j<a
        . exact HA.out j x hja hx
        . obtain rfl:j=a:=by omega
          obtain rfl:y=x:=Option.some.inj (hya.symm.trans hx);exact hys
       | false =>
        go_wp2_with fail
        go_quiet (fail)
        go_wp2_with fail;have cxA:((wr.drewN q).drewN nq).cell? ⟨gx,ox+k,none⟩=some (.string s):=cx;have cyA:((wr.drewN q).drewN nq).cell? ⟨g3,a,none⟩=some (.string y):=cy;have HOA:Hid (OwnS ((wr.drewN q).drewN nq) w.heap.size (.slice (some ⟨g3,0,none⟩) m c3) J):=HO.out;have HBA:Hid (Bz w ((wr.drewN q).drewN nq)):=below_drewN (below_drewN HB.out q) nq;clear cx cy HO HB hg3;generalize (wr.drewN q).drewN nq=wA at cxA cyA HOA HBA ⊢;have hne:((a:Int) == (m:Int))=false:=(by simp;omega);have hne2:(a == m)=false:=(by simp;omega)
        have HIN:Hid (insS J s=if y.toList=s.toList then J else J.take a ++ s :: J.drop a):=by
         have:=insS_at J s a (by rw [HM.out];exact ha) HA.out (λx hx=>by obtain rfl:y=x:=Option.some.inj (hya.symm.trans hx);exact hys);rw [hya] at this;exact this
        cases hyq:(y.toList == s.toList) with
        | true =>
         have HIJ:Hid (sortS (xs.take (k+1))=J):=by
          show _=_;rw [HJ.out,HIN.out,if_pos (beq_iff_eq.1 hyq)]
         go_quiet (fail)
         go_wp2_with fail;exact ⟨⟨k+1,by omega,by go_num,⟨by rw [HIJ.out];exact HOA.out,by simp⟩,below_drewN HBA.out nq⟩,by simp [intOf];omega⟩
        | false =>
         go_quiet (fail)
         go_wp2_with fail;have hac:a<=c3:=(by omega);have LT:Hid ((strs (J.take a)).length=a * 1):=(by show _=_;rw [strs_length,List.length_take,HM.out];omega);have LD:Hid ((strs (J.drop a)).length=(m - a) * 1):=(by show _=_;rw [strs_length,List.length_drop,HM.out];omega);have HOW:Hid (OwnS (wA.drewN nq) w.heap.size (.slice (some ⟨g3,0,none⟩) m c3) J):=HOA.out;have HBW:Hid (Bz w (wA.drewN nq)):=below_drewN HBA.out nq;have cxW:(wA.drewN nq).cell? ⟨gx,ox+k,none⟩=some (.string s):=cxA;clear cxA cyA HOA HBA;generalize wA.drewN nq=W0 at HOW HBW cxW ⊢;have hg3W:g3<W0.heap.size:=(HOW.out.off rfl).2;have hgxW:gx<W0.heap.size:=Nat.lt_of_lt_of_le hgx HBW.out.size;obtain ⟨oa,hoe,hoa⟩:∃ oa,oa=a/\(a<J.length->oa=a):=⟨_,rfl,(λ_=>rfl)⟩
         go_region_held_law (λw'=>w'.cell? ⟨gx,ox+k,none⟩=some (.string s))
          (first | assumption | go_keep | (go_split_ands;exact cell_next ((sqN _ _)) (by assumption)))
          (first
           | (refine step_append_own (W0.alloc (.cells #[] 9)).drew (by rfl) _ _ _ (by rfl) W0.heap.size 9 i0 (.string ⟨#[]⟩) 1 16 underlying49 hi hz0 hz1 hz2 rfl (by decide) (.slice (some ⟨W0.heap.size,0,none⟩) 0 0) 0 [] (by rfl) (lit0_owns (W:=(W0.alloc (.cells #[] 9)).drew) (b:=W0.heap.size) (Blk.new (w:=W0)) (by simp)) ⟨g3,0,none⟩ a c3 (strs (J.take a)) (by rfl) LT.out (news_of HOW.out HM.out (((Below.refl W0.heap.size W0).alloc (sqR _) (.cells #[] 9)).drew.block g3 hg3W) a) (strs_oneCell _) (by unfold maxLen;omega) (by omega) ((Below.refl W0.heap.size W0).alloc (sqR _) (.cells #[] 9)).drew.size ?_;intro v1 w1 hown1 hgr1 hv1;have O1:=hid hown1;have K1:Hid (Bz W0 w1):=below_own ((Below.refl W0.heap.size W0).alloc (sqR _) (.cells #[] 9)).drew (sqR _) (lit0_owns (W:=(W0.alloc (.cells #[] 9)).drew) (b:=W0.heap.size) (Blk.new (w:=W0)) (by simp)) hgr1;have cx1:=cell_next K1.out cxW)
           | (refine step_append_own ((W0.alloc (.cells #[] 9)).alloc (.cells #[.string s] 9)).drew (by rfl) _ _ _ (by rfl) W0.heap.size 9 i0 (.string ⟨#[]⟩) 1 16 underlying49 hi hz0 hz1 hz2 rfl (by decide) (.slice (some ⟨W0.heap.size,0,none⟩) 0 0) 0 [] (by rfl) (lit0_owns (W:=((W0.alloc (.cells #[] 9)).alloc (.cells #[.string s] 9)).drew) (b:=W0.heap.size) ((Blk.new (w:=W0)).alloc) (by simp)) ⟨g3,0,none⟩ a c3 (strs (J.take a)) (by rfl) LT.out (news_of HOW.out HM.out ((((Below.refl W0.heap.size W0).alloc (sqR _) (.cells #[] 9)).alloc (by simp) (.cells #[.string s] 9)).drew.block g3 hg3W) a) (strs_oneCell _) (by unfold maxLen;omega) (by omega) (((Below.refl W0.heap.size W0).alloc (sqR _) (.cells #[] 9)).alloc (by simp) (.cells #[.string s] 9)).drew.size ?_;intro v1 w1 hown1 hgr1 hv1;have O1:=hid hown1;have K1:Hid (Bz W0 w1):=below_own (((Below.refl W0.heap.size W0).alloc (sqR _) (.cells #[] 9)).alloc (by simp) (.cells #[.string s] 9)).drew (sqR _) (lit0_owns (W:=((W0.alloc (.cells #[] 9)).alloc (.cells #[.string s] 9)).drew) (b:=W0.heap.size) ((Blk.new (w:=W0)).alloc) (by simp)) hgr1;have cx1:=cell_next K1.out cxW;have N1:Hid (w1.cell? ⟨W0.heap.size+1,0,none⟩=some (.string s)):=(sqK (hgr1.block (W0.heap.size+1) (by simp) (by simp [Value.ownBlock]))).trans (lit1_at W0 s _ _ rfl))
           | (refine step_append_own ((W0.alloc (.cells #[.string s] 9)).alloc (.cells #[] 9)).drew (by rfl) _ _ _ (by rfl) W0.heap.size 9 i0 (.string ⟨#[]⟩) 1 16 underlying49 hi hz0 hz1 hz2 rfl (by decide) (.slice (some ⟨(W0.heap.size+1),0,none⟩) 0 0) 0 [] (by rfl) (lit0_owns (W:=((W0.alloc (.cells #[.string s] 9)).alloc (.cells #[] 9)).drew) (b:=(W0.heap.size+1)) (lit_at1 W0 _ _) (by simp)) ⟨g3,0,none⟩ a c3 (strs (J.take a)) (by rfl) LT.out (news_of HOW.out HM.out ((((Below.refl W0.heap.size W0).alloc (sqR _) (.cells #[.string s] 9)).alloc (by simp) (.cells #[] 9)).drew.block g3 hg3W) a) (strs_oneCell _) (by unfold maxLen;omega) (by omega) (((Below.refl W0.heap.size W0).alloc (sqR _) (.cells #[.string s] 9)).alloc (by simp) (.cells #[] 9)).drew.size ?_;intro v1 w1 hown1 hgr1 hv1;have O1:=hid hown1;have K1:Hid (Bz W0 w1):=below_own (((Below.refl W0.heap.size W0).alloc (sqR _) (.cells #[.string s] 9)).alloc (by simp) (.cells #[] 9)).drew (sqR _) (lit0_owns (W:=((W0.alloc (.cells #[.string s] 9)).alloc (.cells #[] 9)).drew) (b:=(W0.heap.size+1)) (lit_at1 W0 _ _) (by simp)) hgr1;have cx1:=cell_next K1.out cxW;have N1:Hid (w1.cell? ⟨W0.heap.size,0,none⟩=some (.string s)):=(sqK (hgr1.block W0.heap.size (by simp;omega) (by simp [Value.ownBlock]))).trans (lit1_old W0 s _))
           | (refine step_append_own (w1.alloc (.cells #[.string s] 9)) (by rfl) _ _ _ (by rfl) W0.heap.size 9 i0 (.string ⟨#[]⟩) 1 16 underlying49 hi hz0 hz1 hz2 rfl (by decide) v1 (0+a) ([] ++ strs (J.take a)) (by rfl) (own_nextS O1.out ((Below.refl _ _).alloc (sqR _) (.cells #[.string s] 9))) ⟨w1.heap.size,0,none⟩ 1 1 (strs [s]) (by rfl) (by rfl) (one_str w1 s _ rfl) (strs_oneCell _) (by unfold maxLen;omega) (by omega) (K1.out.alloc K1.out.size (.cells #[.string s] 9)).size ?_;intro v2 w2 hown2 hgr2 hv2;have K2:Hid (Bz W0 w2):=below_own (K1.out.alloc K1.out.size (.cells #[.string s] 9)) (sqR _) (own_nextS O1.out ((Below.refl _ _).alloc (sqR _) (.cells #[.string s] 9))) hgr2;have O2:=hid hown2;have cx2:=cell_next K2.out cxW)
           | (refine step_append_own w1 (by rfl) _ _ _ (by rfl) W0.heap.size 9 i0 (.string ⟨#[]⟩) 1 16 underlying49 hi hz0 hz1 hz2 rfl (by decide) v1 (0+a) ([] ++ strs (J.take a)) (by rfl) O1.out ⟨(W0.heap.size+1),0,none⟩ 1 1 (strs [s]) (by rfl) (by rfl) (one_at N1.out) (strs_oneCell _) (by unfold maxLen;omega) (by omega) K1.out.size ?_;intro v2 w2 hown2 hgr2 hv2;have K2:Hid (Bz W0 w2):=below_own K1.out (sqR _) O1.out hgr2;have O2:=hid hown2;have cx2:=cell_next K2.out cxW)
           | (refine step_append_own w1 (by rfl) _ _ _ (by rfl) W0.heap.size 9 i0 (.string ⟨#[]⟩) 1 16 underlying49 hi hz0 hz1 hz2 rfl (by decide) v1 (0+a) ([] ++ strs (J.take a)) (by rfl) O1.out ⟨W0.heap.size,0,none⟩ 1 1 (strs [s]) (by rfl) (by rfl) (one_at N1.out) (strs_oneCell _) (by unfold maxLen;omega) (by omega) K1.out.size ?_;intro v2 w2 hown2 hgr2 hv2;have K2:Hid (Bz W0 w2):=below_own K1.out (sqR _) O1.out hgr2;have O2:=hid hown2;have cx2:=cell_next K2.out cxW)
           | (refine step_append_own w2 (by rfl) _ _ _ (by rfl) W0.heap.size 9 i0 (.string ⟨#[]⟩) 1 16 underlying49 hi hz0 hz1 hz2 rfl (by decide) v2 (0+a+1) ([] ++ strs (J.take a) ++ strs [s]) (by rfl) O2.out ⟨g3,oa,none⟩ (m - a) (c3 - a) (strs (J.drop a)) (by first | rfl | (simp [Act.eval,Act.put,hoe];omega) | (simp [Act.eval,Act.put,hoe];split <;> rfl)) LD.out (news_from HOW.out HM.out (K2.out.block g3 hg3W) a oa hoa) (strs_oneCell _) (by unfold maxLen;omega) (by omega) K2.out.size ?_;intro v3 w3 hown3 hgr3 hv3;have K3:Hid (Bz W0 w3):=below_own K2.out (sqR _) O2.out hgr3;have O3:=hid hown3;have cx3:=cell_next K3.out cxW))
         all_goals
          go_split_ands
          have HO9:Hid (OwnS w3 w.heap.size v3 (sortS (xs.take (k+1)))/\v3≠.slice none 0 0):=by
           have h1:sortS (xs.take (k+1))=J.take a ++ s :: J.drop a:=(by rw [HJ.out];exact (HIN.out.trans (if_neg (by intro e;rw [e] at hyq;simp at hyq))));have h2:=O3.out;have h3:([] ++ strs (J.take a) ++ strs [s] ++ strs (J.drop a))=strs (J.take a ++ s :: J.drop a):=(by simp [strs])
           have h4:0+a+1+(m - a)=(J.take a ++ s :: J.drop a).length:=by
            rw [List.length_append,List.length_cons,List.length_take,List.length_drop,HM.out];omega
           rw [h3,h4] at h2;refine ⟨?_,λe=>?_⟩
           . rw [h1];exact OwnS.base ⟨h2,K3.out.size⟩ HBW.out.size
           . have h5:=h2.2
             rw [e] at h5
             rcases h5 with ⟨_,h6⟩ | ⟨g',cap',cur,h6,_⟩
             . simp at h6
             . simp at h6
          have HB9:Hid (Bz w w3):=HBW.out.trans (K3.out.mono HBW.out.size);clear O1 O2 O3 K1 K2 K3 hown1 hown2 hown3 hgr1 hgr2 hgr3 hv1 hv2 hv3 cx1 cx2 cx3;go_wp2_with fail;exact ⟨⟨k+1,by omega,by go_num,HO9.out,HB9.out⟩,by simp [intOf];omega⟩
     . obtain rfl:m=a:=by omega
       have heq:((m:Int) == (m:Int))=true:=by simp
       have HIN:Hid (insS J s=J.take m ++ s :: J.drop m):=by
        have hnone:J[m]?=none:=List.getElem?_eq_none (by rw [HM.out];exact Nat.le_refl _);have:=insS_at J s m (by rw [HM.out];exact Nat.le_refl _) HA.out (λx hx=>by rw [hnone] at hx;cases hx);rw [hnone] at this;exact this
       clear heq ha hlm;go_wp2_with fail
       go_quiet (fail)
       go_wp2_with fail;have cxA:((wr.drewN q).drewN nq).cell? ⟨gx,ox+k,none⟩=some (.string s):=cx;have HOA:Hid (OwnS ((wr.drewN q).drewN nq) w.heap.size (.slice (some ⟨g3,0,none⟩) m c3) J):=HO.out;have HBA:Hid (Bz w ((wr.drewN q).drewN nq)):=below_drewN (below_drewN HB.out q) nq;clear cx HO HB hg3;generalize (wr.drewN q).drewN nq=wA at cxA HOA HBA ⊢
       go_quiet (fail)
       go_wp2_with fail;have hac:m<=c3:=(by omega);have LT:Hid ((strs (J.take m)).length=m * 1):=(by show _=_;rw [strs_length,List.length_take,HM.out];omega);have LD:Hid ((strs (J.drop m)).length=(m - m) * 1):=(by show _=_;rw [strs_length,List.length_drop,HM.out];omega);have HOW:Hid (OwnS (wA.drewN nq) w.heap.size (.slice (some ⟨g3,0,none⟩) m c3) J):=HOA.out;have HBW:Hid (Bz w (wA.drewN nq)):=below_drewN HBA.out nq;have cxW:(wA.drewN nq).cell? ⟨gx,ox+k,none⟩=some (.string s):=cxA;clear cxA HOA HBA;generalize wA.drewN nq=W0 at HOW HBW cxW ⊢;have hg3W:g3<W0.heap.size:=(HOW.out.off rfl).2;have hgxW:gx<W0.heap.size:=Nat.lt_of_lt_of_le hgx HBW.out.size;obtain ⟨oa,hoe,hoa⟩:∃ oa,oa=(if c3=m then 0 else m)/\(m<J.length->oa=m):=⟨_,rfl,(λh=>absurd h (by rw [HM.out];omega))⟩
       go_region_held_law (λw'=>w'.cell? ⟨gx,ox+k,none⟩=some (.string s))
        (first | assumption | go_keep | (go_split_ands;exact cell_next ((sqN _ _)) (by assumption)))
        (first
         | (refine step_append_own (W0.alloc (.cells #[] 9)).drew (by rfl) _ _ _ (by rfl) W0.heap.size 9 i0 (.string ⟨#[]⟩) 1 16 underlying49 hi hz0 hz1 hz2 rfl (by decide) (.slice (some ⟨W0.heap.size,0,none⟩) 0 0) 0 [] (by rfl) (lit0_owns (W:=(W0.alloc (.cells #[] 9)).drew) (b:=W0.heap.size) (Blk.new (w:=W0)) (by simp)) ⟨g3,0,none⟩ m c3 (strs (J.take m)) (by rfl) LT.out (news_of HOW.out HM.out (((Below.refl W0.heap.size W0).alloc (sqR _) (.cells #[] 9)).drew.block g3 hg3W) m) (strs_oneCell _) (by unfold maxLen;omega) (by omega) ((Below.refl W0.heap.size W0).alloc (sqR _) (.cells #[] 9)).drew.size ?_;intro v1 w1 hown1 hgr1 hv1;have O1:=hid hown1;have K1:Hid (Bz W0 w1):=below_own ((Below.refl W0.heap.size W0).alloc (sqR _) (.cells #[] 9)).drew (sqR _) (lit0_owns (W:=(W0.alloc (.cells #[] 9)).drew) (b:=W0.heap.size) (Blk.new (w:=W0)) (by simp)) hgr1;have cx1:=cell_next K1.out cxW)
         | (refine step_append_own ((W0.alloc (.cells #[] 9)).alloc (.cells #[.string s] 9)).drew (by rfl) _ _ _ (by rfl) W0.heap.size 9 i0 (.string ⟨#[]⟩) 1 16 underlying49 hi hz0 hz1 hz2 rfl (by decide) (.slice (some ⟨W0.heap.size,0,none⟩) 0 0) 0 [] (by rfl) (lit0_owns (W:=((W0.alloc (.cells #[] 9)).alloc (.cells #[.string s] 9)).drew) (b:=W0.heap.size) ((Blk.new (w:=W0)).alloc) (by simp)) ⟨g3,0,none⟩ m c3 (strs (J.take m)) (by rfl) LT.out (news_of HOW.out HM.out ((((Below.refl W0.heap.size W0).alloc (sqR _) (.cells #[] 9)).alloc (by simp) (.cells #[.string s] 9)).drew.block g3 hg3W) m) (strs_oneCell _) (by unfold maxLen;omega) (by omega) (((Below.refl W0.heap.size W0).alloc (sqR _) (.cells #[] 9)).alloc (by simp) (.cells #[.string s] 9)).drew.size ?_;intro v1 w1 hown1 hgr1 hv1;have O1:=hid hown1;have K1:Hid (Bz W0 w1):=below_own (((Below.refl W0.heap.size W0).alloc (sqR _) (.cells #[] 9)).alloc (by simp) (.cells #[.string s] 9)).drew (sqR _) (lit0_owns (W:=((W0.alloc (.cells #[] 9)).alloc (.cells #[.string s] 9)).drew) (b:=W0.heap.size) ((Blk.new (w:=W0)).alloc) (by simp)) hgr1;have cx1:=cell_next K1.out cxW;have N1:Hid (w1.cell? ⟨W0.heap.size+1,0,none⟩=some (.string s)):=(sqK (hgr1.block (W0.heap.size+1) (by simp) (by simp [Value.ownBlock]))).trans (lit1_at W0 s _ _ rfl))
         | (refine step_append_own ((W0.alloc (.cells #[.string s] 9)).alloc (.cells #[] 9)).drew (by rfl) _ _ _ (by rfl) W0.heap.size 9 i0 (.string ⟨#[]⟩) 1 16 underlying49 hi hz0 hz1 hz2 rfl (by decide) (.slice (some ⟨(W0.heap.size+1),0,none⟩) 0 0) 0 [] (by rfl) (lit0_owns (W:=((W0.alloc (.cells #[.string s] 9)).alloc (.cells #[] 9)).drew) (b:=(W0.heap.size+1)) (lit_at1 W0 _ _) (by simp)) ⟨g3,0,none⟩ m c3 (strs (J.take m)) (by rfl) LT.out (news_of HOW.out HM.out ((((Below.refl W0.heap.size W0).alloc (sqR _) (.cells #[.string s] 9)).alloc (by simp) (.cells #[] 9)).drew.block g3 hg3W) m) (strs_oneCell _) (by unfold maxLen;omega) (by omega) (((Below.refl W0.heap.size W0).alloc (sqR _) (.cells #[.string s] 9)).alloc (by simp) (.cells #[] 9)).drew.size ?_;intro v1 w1 hown1 hgr1 hv1;have O1:=hid hown1;have K1:Hid (Bz W0 w1):=below_own (((Below.refl W0.heap.size W0).alloc (sqR _) (.cells #[.string s] 9)).alloc (by simp) (.cells #[] 9)).drew (sqR _) (lit0_owns (W:=((W0.alloc (.cells #[.string s] 9)).alloc (.cells #[] 9)).drew) (b:=(W0.heap.size+1)) (lit_at1 W0 _ _) (by simp)) hgr1;have cx1:=cell_next K1.out cxW;have N1:Hid (w1.cell? ⟨W0.heap.size,0,none⟩=some (.string s)):=(sqK (hgr1.block W0.heap.size (by simp;omega) (by simp [Value.ownBlock]))).trans (lit1_old W0 s _))
         | (refine step_append_own (w1.alloc (.cells #[.string s] 9)) (by rfl) _ _ _ (by rfl) W0.heap.size 9 i0 (.string ⟨#[]⟩) 1 16 underlying49 hi hz0 hz1 hz2 rfl (by decide) v1 (0+m) ([] ++ strs (J.take m)) (by rfl) (own_nextS O1.out ((Below.refl _ _).alloc (sqR _) (.cells #[.string s] 9))) ⟨w1.heap.size,0,none⟩ 1 1 (strs [s]) (by rfl) (by rfl) (one_str w1 s _ rfl) (strs_oneCell _) (by unfold maxLen;omega) (by omega) (K1.out.alloc K1.out.size (.cells #[.string s] 9)).size ?_;intro v2 w2 hown2 hgr2 hv2;have K2:Hid (Bz W0 w2):=below_own (K1.out.alloc K1.out.size (.cells #[.string s] 9)) (sqR _) (own_nextS O1.out ((Below.refl _ _).alloc (sqR _) (.cells #[.string s] 9))) hgr2;have O2:=hid hown2;have cx2:=cell_next K2.out cxW)
         | (refine step_append_own w1 (by rfl) _ _ _ (by rfl) W0.heap.size 9 i0 (.string ⟨#[]⟩) 1 16 underlying49 hi hz0 hz1 hz2 rfl (by decide) v1 (0+m) ([] ++ strs (J.take m)) (by rfl) O1.out ⟨(W0.heap.size+1),0,none⟩ 1 1 (strs [s]) (by rfl) (by rfl) (one_at N1.out) (strs_oneCell _) (by unfold maxLen;omega) (by omega) K1.out.size ?_;intro v2 w2 hown2 hgr2 hv2;have K2:Hid (Bz W0 w2):=below_own K1.out (sqR _) O1.out hgr2;have O2:=hid hown2;have cx2:=cell_next K2.out cxW)
         | (refine step_append_own w1 (by rfl) _ _ _ (by rfl) W0.heap.size 9 i0 (.string ⟨#[]⟩) 1 16 underlying49 hi hz0 hz1 hz2 rfl (by decide) v1 (0+m) ([] ++ strs (J.take m)) (by rfl) O1.out ⟨W0.heap.size,0,none⟩ 1 1 (strs [s]) (by rfl) (by rfl) (one_at N1.out) (strs_oneCell _) (by unfold maxLen;omega) (by omega) K1.out.size ?_;intro v2 w2 hown2 hgr2 hv2;have K2:Hid (Bz W0 w2):=below_own K1.out (sqR _) O1.out hgr2;have O2:=hid hown2;have cx2:=cell_next K2.out cxW)
         | (refine step_append_own w2 (by rfl) _ _ _ (by rfl) W0.heap.size 9 i0 (.string ⟨#[]⟩) 1 16 underlying49 hi hz0 hz1 hz2 rfl (by decide) v2 (0+m+1) ([] ++ strs (J.take m) ++ strs [s]) (by rfl) O2.out ⟨g3,oa,none⟩ (m - m) (c3 - m) (strs (J.drop m)) (by first | rfl | (simp [Act.eval,Act.put,hoe];omega) | (simp [Act.eval,Act.put,hoe];split <;> rfl)) LD.out (news_from HOW.out HM.out (K2.out.block g3 hg3W) m oa hoa) (strs_oneCell _) (by unfold maxLen;omega) (by omega) K2.out.size ?_;intro v3 w3 hown3 hgr3 hv3;have K3:Hid (Bz W0 w3):=below_own K2.out (sqR _) O2.out hgr3;have O3:=hid hown3;have cx3:=cell_next K3.out cxW))
       all_goals
        go_split_ands
        have HO9:Hid (OwnS w3 w.heap.size v3 (sortS (xs.take (k+1)))/\v3≠.slice none 0 0):=by
         have h1:sortS (xs.take (k+1))=J.take m ++ s :: J.drop m:=(by rw [HJ.out];exact HIN.out);have h2:=O3.out;have h3:([] ++ strs (J.take m) ++ strs [s] ++ strs (J.drop m))=strs (J.take m ++ s :: J.drop m):=(by simp [strs])
         have h4:0+m+1+(m - m)=(J.take m ++ s :: J.drop m).length:=by
          rw [List.length_append,List.length_cons,List.length_take,List.length_drop,HM.out];omega
         rw [h3,h4] at h2;refine ⟨?_,λe=>?_⟩
         . rw [h1];exact OwnS.base ⟨h2,K3.out.size⟩ HBW.out.size
         . have h5:=h2.2
           rw [e] at h5
           rcases h5 with ⟨_,h6⟩ | ⟨g',cap',cur,h6,_⟩
           . simp at h6
           . simp at h6
        have HB9:Hid (Bz w w3):=HBW.out.trans (K3.out.mono HBW.out.size);clear O1 O2 O3 K1 K2 K3 hown1 hown2 hown3 hgr1 hgr2 hgr3 hv1 hv2 hv3 cx1 cx2 cx3;go_wp2_with fail;exact ⟨⟨k+1,by omega,by go_num,HO9.out,HB9.out⟩,by simp [intOf];omega⟩
  . have HS:Hid (OwnS wr w.heap.size (.slice (some ⟨g3,0,none⟩) (sortS (xs.take k)).length c3) (sortS xs)):=by
     have:=ho.out.1;rw [List.take_of_length_le (by rw [HN.out];omega)] at this ⊢;exact this
    clear ho;go_wp2;go_ret;exact ⟨_,rfl,HS.out,HB.out⟩
def cfV (d:Nat) (c:Cl):List ByteArray:=listV (freeV d) (bndV d) (foldV (patV d) [] c.1) c.2
theorem cfV_len (d:Nat) (c:Cl):(cfV d c).length<=wtS (wtEx d) c.2:=listV_len d _ _
theorem specClauseFree_any (w:World) (d:Nat) (cs:List Value) (c:Cl) (h:HCl w All (HEx w All d) cs c) (hw:wtCl (wtEx d) c<=16777216) :
 Calls prog 106 #[.agg cs.toArray] w λe w'=>∃ u,e=.returned u/\OwnS w' w.heap.size u (sortS (cfV d c))/\Bz w w':=by
 obtain ⟨pv,bdv,rfl,rp,rb⟩:=h;have hc:wtCl (wtEx d) c=wtS (wtEx d) c.1+wtS (wtEx d) c.2:=rfl;have wc2:wtS (wtEx d) c.2<=16777216:=(by omega)
 have EP:Hid (∀ y ∈ c.1,exS d y):=λy hy=>by
  obtain ⟨cs,h⟩:=rows_mem' rp y hy;exact h.txts
 have EB:Hid (∀ y ∈ c.2,exS d y):=λy hy=>by
  obtain ⟨cs,h⟩:=rows_mem' rb y hy;exact h.txts
 have RB:Hid (∀ w',Bz w w'->Rows w' All 6 (HEx w' All d) bdv c.2):=λw' hw=>Rows.mono rb (sqO hw) sqj (λ_ _ _ h=>h.mono (sqO hw) sqj);obtain ⟨pp,capp,rfl,hclp,hcmp,hxp⟩:=rp;obtain ⟨pb,capb,rfl,-⟩:=id rb;have hnp:c.1.length<=9223372036854775807:=(by unfold maxLen at hcmp;omega);have HXP:=hid hxp
 have BP:Hid (∀ (j:Nat) y,c.1[j]?=some y->wtEx d y<=16777216/\exS d y/\(foldV (patV d) [] (c.1.take j)).length<=16777216):=λj y hj=>by
  obtain ⟨h1,-⟩:=wtS_kid (d:=d) hj;have h3:=foldV_len (patV d) (wtEx d) (c.1.take j) [] (λy _=>patV_len d y);simp only [List.length_nil] at h3;exact ⟨by omega,EP.out y (List.mem_of_getElem? hj),by omega⟩
 have LIN:Hid ((foldV (patV d) [] c.1).length+wtS (wtEx d) c.2<=67108864):=by
  have h3:=foldV_len (patV d) (wtEx d) c.1 [] (λy _=>patV_len d y);simp only [List.length_nil] at h3;show _<=_;omega
 have LC:Hid ((cfV d c).length<=33554432):=by have:=cfV_len d c;show _<=_;omega
 have OC:Hid (∀ s ∈ cfV d c,okS s):=λs hs=>by
  obtain ⟨y,hy,B2,h⟩:=listV_mem hs;exact freeV_ok d y B2 (EB.out y hy) s h
 generalize hnp0:c.1.length=np at *;have HNP:=hid hnp0;have bA:Hid (Blk ((w.alloc (.cells #[.slice pp np capp,.slice pb c.2.length capb] 44)).alloc (.cells #[] 9)) w.heap.size #[.slice pp np capp,.slice pb c.2.length capb] 44):=Blk.new.alloc;have BA:Bz w (w.alloc (.cells #[.slice pp np capp,.slice pb c.2.length capb] 44)):=(sqN _ _);have BB:Hid (Bz w ((w.alloc (.cells #[.slice pp np capp,.slice pb c.2.length capb] 44)).alloc (.cells #[] 9))):=BA.alloc BA.size _
 have O0:Hid (OwnS ((w.alloc (.cells #[.slice pp np capp,.slice pb c.2.length capb] 44)).alloc (.cells #[] 9)) w.heap.size (.slice (some ⟨w.heap.size+1,0,none⟩) 0 0) []):=by
  have:=(OwnS.fresh (w:=w.alloc (.cells #[.slice pp np capp,.slice pb c.2.length capb] 44))).base BA.size
  rwa [alloc_hs] at this
 clear hxp rb hnp0 hw hc BA EP EB hclp hcmp;go_enter func106,ntmps106;go_wp2_with fail
 go_loopw [3,4] (λbu iv wr=>∃ k:Nat,k<=np/\iv=.int .i64 k/\Hid (StrV wr bu (foldV (patV d) [] (c.1.take k)))/\Hid (Blk wr w.heap.size #[.slice pp np capp,.slice pb c.2.length capb] 44)/\Hid (Bz w wr)) (λ_ iv _=>np - (intOf iv).toNat)
 case atStart=>exact ⟨0,Nat.zero_le _,rfl,O0.out.strV (λs hs=>by cases hs),bA.out,BB.out⟩
 case round =>
  clear O0 bA BB;obtain ⟨k,hk,rfl,hs,hbk,HB⟩:=hrel;obtain ⟨xa0,xa1⟩:=sqB2 hbk.out;by_cases hlk:k<np
  . obtain ⟨x,hxk⟩:∃ x,c.1[k]?=some x:=⟨c.1[k]'(by rw [HNP.out];exact hlk),List.getElem?_eq_getElem _⟩
    obtain ⟨g,off,rfl,-,hgl,hat⟩:=HXP.out (sqE hxk);obtain ⟨cs,hcsl,hcs,r1⟩:=hat k x hxk;have E1:∀ w',Bz w w'->HEx w' All d cs x:=λw' hw=>r1.mono (sqO hw) sqj;obtain ⟨c0,c1,c2,c3,c4,c5,rfl⟩:=len6 hcsl;obtain ⟨a0,a1,a2,a3,a4,a5⟩:=sqC6 hcs (by omega);rw [<-HB.out.cell (p:=⟨g,_,none⟩) hgl] at a0 a1 a2 a3 a4 a5;simp at a0 a1 a2 a3 a4 a5;have hki:(k:Int)<(np:Int):=(by omega);have hk0:=sqI k;obtain ⟨wx,ex,lj⟩:=BP.out k x hxk;have lx:=patV_len d x;have HJ:Hid (foldV (patV d) [] (c.1.take (k+1))=onceS (foldV (patV d) [] (c.1.take k)) (patV d x)):=foldV_snoc _ _ c.1 k x hxk;have ON:Hid (∀ s ∈ patV d x,okS s):=λs hs=>patV_ok d x ex s hs
    have OS:Hid (∀ s ∈ onceS (foldV (patV d) [] (c.1.take k)) (patV d x),okS s):=λs hs'=>by
     rcases onceS_mem _ _ s hs' with h | h
     . exact hs.out.1.okS s h
     . exact ON.out s h
    generalize foldV (patV d) [] (c.1.take k)=J at *;clear hcs hat hcsl r1;go_wp2_with fail;refine (patVars_all d _ _ x (E1 _ HB.out) wx).mono ?_;rintro e w4 ⟨u4',rfl,ho4,hb4⟩;have HB4:=hid (HB.out.trans (hb4.mono HB.out.size));have SV:=hid (hs.out.below hb4);have SR:=hid (ho4.strR ON.out);have bk4:=hid (hbk.out.next hb4);clear hb4 ho4 xa0 xa1 a0 a1 a2 a3 a4 a5;go_wp2_with fail;refine (once_any _ _ _ J (patV d x) SV.out SR.out (by omega)).mono ?_;rintro e w5 ⟨u5',rfl,ho5,hb5⟩;have HB5:=hid (HB4.out.trans (hb5.mono HB4.out.size));have SV5:=hid (ho5.strV OS.out);have bk5:=hid (bk4.out.next hb5);clear hb5 ho5;go_wp2_with fail;exact ⟨⟨k+1,by omega,by go_num,by show StrV _ _ _;rw [HJ.out];exact SV5.out,bk5.out,HB5.out⟩,by simp [intOf];omega⟩
  . have HIN:Hid (StrV wr u3 (foldV (patV d) [] c.1)):=by
     have:=hs.out
     rwa [List.take_of_length_le (by rw [HNP.out];omega)] at this
    clear hs;go_wp2_with fail;refine (list_all d _ _ c.2 _ (foldV (patV d) [] c.1) (RB.out _ HB.out) HIN.out wc2 LIN.out).mono ?_;rintro e w4 ⟨u4',rfl,ho4,hb4⟩;have HB4:=hid (HB.out.trans (hb4.mono HB.out.size));have SR:=hid (ho4.strR OC.out);clear hb4 ho4 xa0 xa1;go_wp2_with fail;refine (sorted_any _ _ (cfV d c) SR.out LC.out).mono ?_;rintro e w5 ⟨u5',rfl,ho5,hb5⟩;have HB5:=hid (HB4.out.trans (hb5.mono HB4.out.size));have HO5:=hid (ho5.base HB4.out.size);clear hb5 ho5;go_wp2;go_ret;exact ⟨_,rfl,HO5.out,HB5.out⟩
end
end Go.Proofs.YtbdhpganbbandaaGreatDoor
