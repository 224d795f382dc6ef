/-
  SortRef WithF RfOne RfWt
-/
import Derived.Test.YtdhlonogmnkemaaGreatDoorP00
import Derived.Test.YtdhlonogmnkemaaGreatDoorP23
set_option maxHeartbeats 16000000
set_option linter.unusedVariables false
set_option maxRecDepth 100000
namespace Go.Proofs.YtdhlonogmnkemaaGreatDoor
open Go.ChangeShapes Go.WideShapes Go.ChangeAt Go.RowKit
instance:Inhabited Rf:=⟨⟨⟨#[]⟩,0⟩⟩
def encR (r:Rf):List Value:=[.string r.name,.int .i64 r.arity]
def Zdq (rs:List Rf):List Rf:=rs.mergeSort λx y=>!(ltOf ZbQ) y x
theorem Zfv {a b:Rf}:ZbQ a b=0 ↔ a=b:=ZeO.eq a b trivial trivial
theorem swoR:Go.Sort.SWO (ltOf ZbQ) where
 irrefl x:=by have:=Zfv (a:=x) (b:=x);unfold ltOf;have:=this.2 rfl;simp [this]
 trans x y z h1 h2:=by
  unfold ltOf at *;simp only [decide_eq_true_eq] at *;exact ZeO.tr x y z trivial trivial trivial h1 h2
 ntrans x y z h1 h2:=by
  unfold ltOf at *;simp only [decide_eq_false_iff_not] at *;have a1:=ZeO.anti x y trivial trivial;have a2:=ZeO.anti y z trivial trivial;have a3:=ZeO.anti x z trivial trivial;have:=ZeO.le (a:=z) (b:=y) (c:=x) trivial trivial trivial (by omega) (by omega);omega
theorem totR (x y:Rf) (h1:ltOf ZbQ x y=false) (h2:ltOf ZbQ y x=false):x=y:=by
 unfold ltOf at *;simp only [decide_eq_false_iff_not] at *;have:=ZeO.anti x y trivial trivial;exact Zfv.1 (by omega)
theorem ZeP (a b:Rf) (w:World):Calls Tryz.prog 97 #[.agg #[.string a.name,.int .i64 a.arity],.agg #[.string b.name,.int .i64 b.arity]] w λe w'=>e=.returned (.int .i64 (ZbQ a b))/\∃ q os,w'=Go.Sort.grow (w.drewN q) os:=by
 obtain ⟨s,m⟩:=a;obtain ⟨t,n⟩:=b;simp only;obtain ⟨W2,hW2⟩:∃ W2,W2=(w.alloc (.cells #[.string s,.int .i64 m] 84)).alloc (.cells #[.string t,.int .i64 n] 84):=⟨_,rfl⟩;have bA:Hid (Blk W2 w.heap.size #[.string s,.int .i64 m] 84):=(by show Blk _ _ _ _;rw [hW2];exact Blk.new.alloc)
 have bB:Hid (Blk W2 (w.heap.size+1) #[.string t,.int .i64 n] 84):=by
  show Blk _ _ _ _;rw [hW2];have:=Blk.new (w:=w.alloc (.cells #[.string s,.int .i64 m] 84)) (cs:=#[.string t,.int .i64 n]) (t:=84)
  rwa [Zb] at this
 have HW2:Hid (W2=(w.alloc (.cells #[.string s,.int .i64 m] 84)).alloc (.cells #[.string t,.int .i64 n] 84)):=hW2;clear hW2;obtain ⟨a0,a1⟩:=sqB2 bA.out;obtain ⟨b0,b1⟩:=sqB2 bB.out;generalize ho:or2 (cmpS s t) (cmpI m n)=o;have HO:Hid (or2 (cmpS s t) (cmpI m n)=o):=ho;have HS:Hid (ZbQ ⟨s,m⟩ ⟨t,n⟩=o):=ho;clear ho;go_enter Tryz.func97,Tryz.ntmps97;go_wp2_with fail;rw [<-HW2.out]
 go_region_held3 (λw'=>w'.cell? ⟨w.heap.size,0,none⟩=some (.string s)/\w'.cell? ⟨w.heap.size,1,none⟩=some (.int .i64 m)/\w'.cell? ⟨w.heap.size+1,0,none⟩=some (.string t)/\w'.cell? ⟨w.heap.size+1,1,none⟩=some (.int .i64 n))
  (first | go_keep)
  (first
   | (go_at_call 142;refine (Zfa _ _ _).mono ?_;rintro e w' ⟨rfl,rfl⟩)
   | (go_at_call 141;refine (ZbB _ _ _).mono ?_;rintro e w' ⟨rfl,rfl⟩)
   | (go_at_call 140;refine (Zfb (cmpS s t) (cmpI m n) _ _ (by exact ZM _ _ _ 0 _ rfl) (by exact ZM _ _ _ 1 _ rfl)).mono ?_;rintro e w' ⟨rfl,rfl⟩;rw [HO.out]))
 go_split_ands
 have HG:Hid (∃ q os,((W2.alloc (.cells #[.int .i64 (cmpS s t),.int .i64 (cmpI m n)] 3)).drew)=Go.Sort.grow (w.drewN q) os) :=
  ⟨1,_,by rw [HW2.out,Go.Sort.alloc_eq_grow,Go.Sort.alloc_eq_grow,Go.Sort.alloc_eq_grow,Go.Sort.grow_grow,Go.Sort.grow_grow];rfl⟩
 go_wp2;go_ret;exact ⟨by rw [HS.out];rfl,HG.out⟩
theorem Zj8 {w:World} {g:Nat} {F cur:Array Value} {e:TypeId} (h:w.heap[g]?=some (.cells cur e (0,0))):(Go.Sort.putRow id w g 0 F).heap[g]?=some (.cells (Go.Sort.putCells id 0 F cur) e (0,0)):=by
 unfold Go.Sort.putRow Go.Sort.mapBlock;simp [Array.getElem?_modify,h,Go.Sort.onCells]
theorem ZiT {w:World} {g a:Nat} {F:Array Value} (h:a≠g):(Go.Sort.putRow id w g 0 F).heap[a]?=w.heap[a]?:=by
 unfold Go.Sort.putRow Go.Sort.mapBlock;simp [Array.getElem?_modify,Ne.symm h]
theorem Zf3 {F cur:Array Value} (h:F.size<=cur.size):(Go.Sort.putCells id 0 F cur).toList.take F.size=F.toList:=by
 apply List.ext_getElem?
 intro i;rw [List.getElem?_take];by_cases hi:i<F.size
 . rw [if_pos hi,Array.getElem?_toList,Array.getElem?_toList]
   unfold Go.Sort.putCells;rw [Array.getElem?_mapIdx,Array.getElem?_eq_getElem (by omega),Array.getElem?_eq_getElem hi];simp [hi]
 . rw [if_neg hi,Array.getElem?_toList,Array.getElem?_eq_none (by omega)]
theorem Zf4 {F cur:Array Value}:(Go.Sort.putCells id 0 F cur).size=cur.size:=by unfold Go.Sort.putCells;simp
theorem Zj9 (rs:List Rf) (i:Nat) (r:Rf) (hi:rs[i]?=some r) (j:Nat) (hj:j<2):(Go.Sort.flatK encR 2 rs.toArray).toList[i * 2+j]?=(encR r)[j]?:=by
 have hl:=(List.getElem?_eq_some_iff.1 hi).1;have hs:i * 2+j<rs.toArray.size * 2:=(by simp;omega);rw [Array.getElem?_toList,Array.getElem?_eq_getElem (by rw [Go.Sort.size_flatK];exact hs)];have h:=Go.Sort.get_flatK encR 2 rs.toArray (i * 2+j) hs;rw [getElem!_pos _ _ (by rw [Go.Sort.size_flatK];exact hs)] at h;rw [h];have e1:(i * 2+j) / 2=i:=(by omega);have e2:(i * 2+j) % 2=j:=(by omega)
 have hr:rs.toArray[i]! = r:=by
  rw [getElem!_pos rs.toArray i (by simpa using hl)];have:=(List.getElem?_eq_some_iff.1 hi).2
  simpa using this
 rw [e1,e2,hr,getElem!_pos (encR r) j (by show j<2;exact hj)];exact (List.getElem?_eq_getElem _).symm
theorem ZgY (d:Nat) (w:World) (v:Value) (rs:List Rf) (fp:List Nat) (h:Zg w 84 2 (ORf w d) v rs fp) (hn:rs.length<=16777216) :
 Calls Tryz.prog 96 #[v,.func (.func 97) #[] #[]] w λe w'=>e=.returned (.tuple #[])/\Zg w' 84 2 (ORf w' d) v (Zdq rs) fp/\Off fp w w':=by
 rcases h with ⟨rfl,rfl,p,cap,rfl,hc⟩ | ⟨hne,cells,g,cap,fps,hown,hv,hfl,hfp,hat⟩
 . refine (AnyF.slices_SortFunc_none Tryz.sortRef p cap _ w).mono ?_
   rintro e w' ⟨rfl,rfl⟩;exact ⟨rfl,.inl ⟨by simp [Zdq],rfl,p,cap,rfl,hc⟩,Off.refl _ _⟩
 . rw [hv] at hown
   obtain ⟨hcl,⟨h0,-⟩ | ⟨g',cap',cur,he,-,hb,hnc,hcm,hcs,htk⟩⟩:=hown
   . exact absurd h0 (by simp)
   simp only [Value.slice.injEq,Option.some.injEq,Addr.mk.injEq,true_and,and_true] at he;obtain ⟨rfl,rfl⟩:=he
   have hflat:∀ t,t<rs.length * 2->cells[t]?=(Go.Sort.flatK encR 2 rs.toArray).toList[t]?:=λt ht=>by
    have hi:t / 2<rs.length:=(by omega);obtain ⟨cs,c1,c2,⟨c3,-,-⟩,-⟩:=hat (t / 2) rs[t / 2] (fps[t / 2]'(by omega)) (List.getElem?_eq_getElem hi) (List.getElem?_eq_getElem _);have:=c2 (t % 2) (by omega);rw [show t / 2 * 2+t % 2=t by omega] at this;have e:=Zj9 rs (t / 2) rs[t / 2] (List.getElem?_eq_getElem hi) (t % 2) (by omega);rw [show t / 2 * 2+t % 2=t by omega] at e;rw [this,c3,e]
    rfl
   have hH:Go.Sort.HoldsK encR 2 w g 0 rs.toArray:=λt ht=>by
    rw [Go.Sort.size_flatK] at ht;have ht':t<rs.length * 2:=(by simpa using ht)
    have hcur:cur[t]?=(Go.Sort.flatK encR 2 rs.toArray)[t]?:=by
     have:=hflat t ht';rw [<-htk,List.getElem?_take,if_pos ht',Array.getElem?_toList,Array.getElem?_toList] at this;exact this
    refine ⟨?_,?_⟩
    . rw [Nat.zero_add]
      show w.cell? ⟨g,t,none⟩=_;rw [show w.cell? ⟨g,t,none⟩=cur[t]? by simp [World.cell?,hb],hcur,Array.getElem?_eq_getElem (by rw [Go.Sort.size_flatK];exact ht),getElem!_pos _ _ (by rw [Go.Sort.size_flatK];exact ht)]
      rfl
    . simp [World.frozen?,hb]
   have hlt:g<w.heap.size:=(Array.getElem?_eq_some_iff.1 hb).1
   have hcon:=AnyQ.slices_SortFunc_total Tryz.sortRef 2 Tryz.isAgg84 Tryz.sizeOf84 encR (λ_=>rfl) (λx v hv=>by simp [encR] at hv;rcases hv with rfl | rfl <;> rfl) ZbQ swoR 97 #[] g 0 cap rs.toArray w
    (enters Tryz.func97 (by kernel_rfl) rfl) (λ_ _ _ _ x y=>ZeP x y _) hH hlt (by simp;omega) totR
   change Calls Tryz.prog 96 _ _ _ at hcon
   rw [hv];simp only [List.size_toArray] at hcon;refine hcon.mono ?_;rintro e w' ⟨rfl,m,os,hw⟩;have hlen:(Zdq rs).length=rs.length:=List.length_mergeSort _;obtain ⟨F,hF⟩:∃ F,F=Go.Sort.flatK encR 2 (Zdq rs).toArray:=⟨_,rfl⟩;have hFs:F.size=rs.length * 2:=(by rw [hF,Go.Sort.size_flatK];simp [hlen]);have hw2:w'=Go.Sort.grow (Go.Sort.putRow id (Go.Sort.ahead w m) g 0 F) os:=(by rw [hw,hF];rfl);have hsz:(Go.Sort.putRow id (Go.Sort.ahead w m) g 0 F).heap.size=w.heap.size:=(by simp [Go.Sort.putRow,Go.Sort.mapBlock,Go.Sort.ahead])
   have hheap:∀ a,a<w.heap.size->w'.heap[a]?=(Go.Sort.putRow id (Go.Sort.ahead w m) g 0 F).heap[a]?:=λa ha=>by
    rw [hw2];show (_ ++ os)[a]?=_;rw [Array.getElem?_append_left (by rw [hsz];exact ha)]
   have hbg:w'.heap[g]?=some (.cells (Go.Sort.putCells id 0 F cur) 84 (0,0)):=(hheap g hlt).trans (Zj8 (w:=Go.Sort.ahead w m) hb);refine ⟨rfl,.inr ⟨λe=>hne (List.eq_nil_of_length_eq_zero (by rw [<-hlen,e];rfl)),F.toList,g,cap,List.replicate rs.length [],⟨by rw [hlen];simpa using hFs,.inr ⟨g,cap,_,by rw [hlen],Nat.zero_le _,hbg,by rw [hlen];exact hnc,hcm,by rw [Zf4];exact hcs,by rw [hlen,<-hFs];exact Zf3 (by rw [hFs,hcs];exact Nat.mul_le_mul_right 2 hnc)⟩⟩,by rw [hlen],by simp [hlen],?_,λi x f hi hf=>?_⟩,?_⟩
   . rw [hfp]
     congr 1
     have z1:∀ f ∈ fps,f = []:=λf hf=>by
      obtain ⟨i,hi⟩:=List.mem_iff_getElem?.1 hf;have hil:i<rs.length:=(by have:=(List.getElem?_eq_some_iff.1 hi).1;omega);obtain ⟨cs,-,-,-,e⟩:=hat i rs[i] f (List.getElem?_eq_getElem hil) hi;exact e
     have z2:fps=List.replicate rs.length []:=(by rw [<-hfl];exact List.eq_replicate_of_mem z1);rw [z2]
   . have hfe:f = []:=by
      rw [List.getElem?_replicate] at hf
      split at hf
      . exact (Option.some.inj hf).symm
      . cases hf
     have hxm:x ∈ rs:=(List.mergeSort_perm rs _).mem_iff.1 (List.mem_of_getElem? hi);obtain ⟨k,hk⟩:=List.mem_iff_getElem?.1 hxm;have hkl:k<rs.length:=(List.getElem?_eq_some_iff.1 hk).1;obtain ⟨cs,-,-,⟨-,o1,o2⟩,-⟩:=hat k x (fps[k]'(by omega)) hk (List.getElem?_eq_getElem _);refine ⟨encR x,rfl,λj hj=>?_,⟨rfl,o1,o2⟩,hfe⟩;rw [hF];exact Zj9 (Zdq rs) i x hi j hj
   . refine ⟨?_,?_,?_,?_,λa ha hm=>?_⟩
     . rw [hw2];rfl
     . rw [hw2];rfl
     . rw [hw2];rfl
     . rw [hw2];show _<=(_ ++ os).size;rw [Array.size_append,hsz];omega
     . have:a≠g:=λe=>hm (by rw [hfp,e];simp)
       exact (hheap a ha).trans (ZiT (w:=Go.Sort.ahead w m) this)
section
open Go.Proofs.Tryz
def Zf5 (old:Rf) (to:ByteArray) (x:Md):Md:=⟨x.name,Zdq (x.exports.map (Zbc old to)),x.funs.map (Zcy old to)⟩
theorem ZhO (d:Nat) (w:World) (old:Rf) (to:ByteArray) (cs:List Value) (x:Md) (fp:List Nat) (h:OMd w d cs x fp) (hl:∀ a ∈ fp,a<w.heap.size) (hnd:fp.Nodup) (hx1:x.exports.length<=16777216) (hx2:x.funs.length<=16777216) (hto:okS to) :
 Calls prog 50 #[.agg cs.toArray,.agg #[.string old.name,.int .i64 old.arity],.string to] w λe w'=>∃ cs' fp',e=.returned (.agg cs'.toArray)/\OMd w' d cs' (Zf5 old to x) fp'/\fp'.Nodup/\(∀ a ∈ fp',(a ∈ fp\/w.heap.size<=a)/\a<w'.heap.size)/\Bz w w':=by
 have HT:=hid hto;obtain ⟨ev,fv,f1,f2,rfl,rfl,hok,he,hf⟩:=h;have HOK:=hid hok;obtain ⟨pe,ce,rfl,-⟩:=he.shape;obtain ⟨pf,cf,rfl,-⟩:=hf.shape;generalize hne:x.exports.length=ne at *;generalize hnf:x.funs.length=nf at *;have HE:=hid he;have HF:=hid hf;have HL:Hid ((∀ a ∈ f1,a<w.heap.size)/\∀ a ∈ f2,a<w.heap.size):=⟨λa ha=>hl a (List.mem_append_left _ ha),λa ha=>hl a (List.mem_append_right _ ha)⟩;have HND:Hid f2.Nodup:=(List.nodup_append.1 hnd).2.1;have HX1:Hid (x.exports.length<=16777216):=(by show _<=_;omega);have HX2:Hid (x.funs.length<=16777216):=(by show _<=_;omega);obtain ⟨W4,hW4⟩:∃ W4,W4=(((w.alloc (.cells #[.string x.name,.slice pe ne ce,.slice pf nf cf] 63)).alloc (.cells #[.string old.name,.int .i64 old.arity] 84)).alloc (.cells #[.string to] 9)).alloc (.cells #[.string ⟨#[]⟩,.slice none 0 0,.slice none 0 0] 63):=⟨_,rfl⟩;have HW4:=hid hW4;have S4:Hid (W4.heap.size=w.heap.size+4):=(by show _=_;rw [hW4,Zb,Zb,Zb,Zb]);have B4:Hid (Bz w W4):=(by show Below _ _ _;rw [hW4];exact ((((sqN _ _)).alloc (by simp only [Zb];omega) _).alloc (by simp only [Zb];omega) _).alloc (by simp only [Zb];omega) _);have m4:Hid (Blk W4 w.heap.size #[.string x.name,.slice pe ne ce,.slice pf nf cf] 63):=(by show Blk _ _ _ _;rw [hW4];exact Blk.new.alloc.alloc.alloc)
 have a4:Hid (Blk W4 (w.heap.size+1) #[.string old.name,.int .i64 old.arity] 84):=by
  have:=Blk.new (w:=w.alloc (.cells #[.string x.name,.slice pe ne ce,.slice pf nf cf] 63)) (cs:=#[.string old.name,.int .i64 old.arity]) (t:=84);rw [Zb] at this;show Blk _ _ _ _;rw [hW4];exact this.alloc.alloc
 have t4:Hid (Blk W4 (w.heap.size+1+1) #[.string to] 9):=by
  have:=Blk.new (w:=(w.alloc (.cells #[.string x.name,.slice pe ne ce,.slice pf nf cf] 63)).alloc (.cells #[.string old.name,.int .i64 old.arity] 84)) (cs:=#[.string to]) (t:=9);rw [Zb,Zb] at this;show Blk _ _ _ _;rw [hW4];exact this.alloc
 have r4:Hid (Blk W4 (w.heap.size+1+1+1) #[.string ⟨#[]⟩,.slice none 0 0,.slice none 0 0] 63):=by
  have:=Blk.new (w:=((w.alloc (.cells #[.string x.name,.slice pe ne ce,.slice pf nf cf] 63)).alloc (.cells #[.string old.name,.int .i64 old.arity] 84)).alloc (.cells #[.string to] 9)) (cs:=#[.string ⟨#[]⟩,.slice none 0 0,.slice none 0 0]) (t:=63);rw [Zb,Zb,Zb] at this;show Blk _ _ _ _;rw [hW4];exact this
 have F4:Hid (Zg W4 59 3 (OFn W4 d) (.slice pf nf cf) x.funs f2):=by
  have kk:Zj f2 w W4:=λa ha=>B4.out.block a (HL.out.2 a ha);exact HF.out.keep kk (λcs x f _ hs h=>h.keep (kk.sub hs))
 have C4:Hid (CapF W4.heap.size (w.heap.size+1) (w.heap.size+1+1) old to W4):=⟨a4.out,t4.out,by have:=S4.out;omega,by have:=S4.out;omega⟩
 have CF:Hid (Calls prog 91 #[.slice pf nf cf,.func (.func 92) #[] #[.pointer (some ⟨w.heap.size+1,0,none⟩),.pointer (some ⟨w.heap.size+1+1,0,none⟩)]] W4 λe w'=>∃ u fp',e=.returned u/\Zg w' 59 3 (OFn w' d) u (x.funs.map (Zcy old to)) fp'/\fp'.Nodup/\(∀ a ∈ fp',(a ∈ f2\/W4.heap.size<=a)/\a<w'.heap.size)/\Bz W4 w') :=
  ZhM d W4 _ x.funs f2 _ _ old to F4.out (λa ha=>Nat.lt_of_lt_of_le (HL.out.2 a ha) B4.out.size) HND.out C4.out HX2.out HT.out
 obtain ⟨x0,x1,x2⟩:=sqB3 m4.out;clear hW4 he hf hl hnd hne hnf hx1 hx2 hok hto;go_enter func50,ntmps50;go_wp2_with (rw [<-HW4.out]);refine CF.out.mono ?_;rintro e w5 ⟨u,fq,rfl,ho5,hnd5,hrg5,hb5⟩;obtain ⟨pu,cu,hu,-⟩:=ho5.shape;generalize hnu:(x.funs.map (Zcy old to)).length=nu at hu;subst hu;have O5:=hid ho5;have N5:Hid (fq.Nodup/\∀ a ∈ fq,(a ∈ f2\/W4.heap.size<=a)/\a<w5.heap.size):=⟨hnd5,hrg5⟩;have B5:=hid hb5;have m5:=hid (m4.out.next hb5);obtain ⟨W6,hW6⟩:∃ W6,W6=w5.setCell ⟨w.heap.size,2,none⟩ (.slice pu nu cu):=⟨_,rfl⟩;have HW6:=hid hW6
 have Q6:Hid (∀ a,a≠w.heap.size->W6.heap[a]?=w5.heap[a]?):=λa ha=>by rw [hW6];exact Below.heap_setCell _ _ _ _ ha
 have s6:Hid (W6.heap.size=w5.heap.size):=(by show _=_;rw [hW6];simp [World.setCell]);have m6:Hid (Blk W6 w.heap.size #[.string x.name,.slice pe ne ce,.slice pu nu cu] 63):=(by show Blk _ _ _ _;rw [hW6];exact m5.out.same rfl);have G6:Hid (Bz w W6):=(by show Below _ _ _;rw [hW6];exact (B4.out.trans (hb5.mono B4.out.size)).setCell (sqR _) _);have a6:Hid (Blk W6 (w.heap.size+1) #[.string old.name,.int .i64 old.arity] 84):=(Q6.out _ (by omega)).trans (a4.out.next hb5);have t6:Hid (Blk W6 (w.heap.size+1+1) #[.string to] 9):=(Q6.out _ (by omega)).trans (t4.out.next hb5);have r6:Hid (Blk W6 (w.heap.size+1+1+1) #[.string ⟨#[]⟩,.slice none 0 0,.slice none 0 0] 63):=(Q6.out _ (by omega)).trans (r4.out.next hb5);have S6:Hid (w.heap.size+4<=W6.heap.size):=(by show _<=_;have:=S4.out;have:=hb5.size;have:=s6.out;omega)
 have E6:Hid (Rows W6 All 2 HRf (.slice pe ne ce) x.exports):=by
  have kk:Zj f1 w W6:=λa ha=>G6.out.block a (HL.out.1 a ha);exact (HE.out.keep (R':=ORf W6 d) kk (λcs x f _ hs h=>h)).rows (λ_ _=>trivial) (λcs x f _ _ h=>h.1)
 have C6:Hid (CapF W6.heap.size (w.heap.size+1) (w.heap.size+1+1) old to W6):=⟨a6.out,t6.out,by have:=S6.out;omega,by have:=S6.out;omega⟩
 have CE:Hid (Calls prog 94 #[.slice pe ne ce,.func (.func 95) #[] #[.pointer (some ⟨w.heap.size+1,0,none⟩),.pointer (some ⟨w.heap.size+1+1,0,none⟩)]] W6 λe w'=>∃ u fp',e=.returned u/\Zg w' 84 2 (ORf w' d) u (x.exports.map (Zbc old to)) fp'/\fp'.Nodup/\(∀ a ∈ fp',W6.heap.size<=a/\a<w'.heap.size)/\Bz W6 w') :=
  ZhN d W6 _ x.exports _ _ old to E6.out C6.out HX1.out HT.out
 have ff:=m5.out.frozen 2;obtain ⟨y0,y1,y2⟩:=sqB3 m5.out;obtain ⟨z0,z1,z2⟩:=sqB3 m6.out;clear ho5 hnd5 hrg5 hb5 hnu hW6 x0 x1 x2;go_wp2_with (first | (rw [<-HW6.out]));refine CE.out.mono ?_;rintro e w7 ⟨u,fr,rfl,ho7,hnd7,hrg7,hb7⟩;obtain ⟨pr,cr,hu,-⟩:=ho7.shape;generalize hnr:(x.exports.map (Zbc old to)).length=nr at hu;subst hu;have N7:Hid (fr.Nodup/\∀ a ∈ fr,W6.heap.size<=a/\a<w7.heap.size):=⟨hnd7,hrg7⟩;have B7:=hid hb7;have m7:=hid (m6.out.next hb7);have r7:=hid (r6.out.next hb7);have G7:=hid (G6.out.trans (hb7.mono G6.out.size));obtain ⟨W8,hW8⟩:∃ W8,W8=w7.setCell ⟨w.heap.size,1,none⟩ (.slice pr nr cr):=⟨_,rfl⟩;have HW8:=hid hW8
 have Q8:Hid (∀ a,a≠w.heap.size->W8.heap[a]?=w7.heap[a]?):=λa ha=>by rw [hW8];exact Below.heap_setCell _ _ _ _ ha
 have s8:Hid (W8.heap.size=w7.heap.size):=(by show _=_;rw [hW8];simp [World.setCell]);have m8:Hid (Blk W8 w.heap.size #[.string x.name,.slice pr nr cr,.slice pu nu cu] 63):=(by show Blk _ _ _ _;rw [hW8];exact m7.out.same rfl);have r8:Hid (Blk W8 (w.heap.size+1+1+1) #[.string ⟨#[]⟩,.slice none 0 0,.slice none 0 0] 63):=(Q8.out _ (by omega)).trans r7.out;have G8:Hid (Bz w W8):=(by show Below _ _ _;rw [hW8];exact G7.out.setCell (sqR _) _);have O8:Zg W8 84 2 (ORf W8 d) (.slice pr nr cr) (x.exports.map (Zbc old to)) fr:=ho7.keep (λa ha=>Q8.out a (by have:=(hrg7 a ha).1;have:=S6.out;omega)) (λcs x f _ hs h=>h)
 have CS:Hid (Calls prog 96 #[.slice pr nr cr,.func (.func 97) #[] #[]] W8 λe w'=>e=.returned (.tuple #[])/\Zg w' 84 2 (ORf w' d) (.slice pr nr cr) (Zdq (x.exports.map (Zbc old to))) fr/\Off fr W8 w') :=
  ZgY d W8 _ _ fr O8 (by rw [List.length_map];exact HX1.out)
 have ff':=m7.out.frozen 1;obtain ⟨o0,o1,o2⟩:=sqB3 m7.out;obtain ⟨p0,p1,p2⟩:=sqB3 m8.out;clear ho7 hnd7 hrg7 hb7 hnr hW8 O8 ff y0 y1 y2 z0 z1 z2;go_wp2_with (rw [<-HW8.out]);refine CS.out.mono ?_;rintro e w9 ⟨rfl,ho9,hf9⟩
 have nin:∀ a,a<W6.heap.size->a ∉ fr:=λa ha hm=>by have:=(N7.out.2 a hm).1;omega
 have l8:W6.heap.size<=W8.heap.size:=(by rw [s8.out];exact B7.out.size);have O9:=hid ho9;have L9:Hid (∀ a,a<W6.heap.size->w9.heap[a]?=W8.heap[a]?):=λa ha=>hf9.block a (by omega) (nin a ha);have Z9:=hid hf9.size;have m9:Hid (Blk w9 w.heap.size #[.string x.name,.slice pr nr cr,.slice pu nu cu] 63):=(L9.out _ (by have:=S6.out;omega)).trans m8.out;have r9:Hid (Blk w9 (w.heap.size+1+1+1) #[.string ⟨#[]⟩,.slice none 0 0,.slice none 0 0] 63):=(L9.out _ (by have:=S6.out;omega)).trans r8.out
 have G9:Hid (Bz w w9):=by
  show Below _ _ _;refine ⟨hf9.os.trans G8.out.os,hf9.tape.trans G8.out.tape,hf9.output.trans G8.out.output,Nat.le_trans G8.out.size hf9.size,λa ha=>(L9.out a (by have:=S6.out;omega)).trans (G8.out.block a ha)⟩
 obtain ⟨k0,k1,k2⟩:=sqB3 m9.out;obtain ⟨e0,e1,e2⟩:=sqB3 r9.out;obtain ⟨v0,v1,v2⟩:=sqF3 r9.out;clear ho9 hf9 nin l8 ff' o0 o1 o2 p0 p1 p2;go_wp2_with fail;obtain ⟨W10,hW10⟩:∃ W10,W10=((w9.setCell ⟨w.heap.size+1+1+1,0,none⟩ (.string x.name)).setCell ⟨w.heap.size+1+1+1,1,none⟩ (.slice pr nr cr)).setCell ⟨w.heap.size+1+1+1,2,none⟩ (.slice pu nu cu):=⟨_,rfl⟩;have bz:Blk W10 (w.heap.size+1+1+1) #[.string x.name,.slice pr nr cr,.slice pu nu cu] 63:=(by rw [hW10];exact ((r9.out.same rfl).same rfl).same rfl)
 have q10:∀ a,a≠w.heap.size+1+1+1->W10.heap[a]?=w9.heap[a]?:=λa ha=>by rw [hW10,Below.heap_setCell _ _ _ _ ha,Below.heap_setCell _ _ _ _ ha,Below.heap_setCell _ _ _ _ ha]
 have g10:Bz w W10:=(by rw [hW10];exact ((G9.out.setCell (by show w.heap.size<=w.heap.size+1+1+1;omega) _).setCell (by show w.heap.size<=w.heap.size+1+1+1;omega) _).setCell (by show w.heap.size<=w.heap.size+1+1+1;omega) _);have z10:W10.heap.size=w9.heap.size:=(by rw [hW10];simp [World.setCell]);obtain ⟨j0,j1,j2⟩:=sqB3 bz;have h4:=S4.out;have h6:=S6.out;have h66:=s6.out;have h5:=B5.out.size;have h7:=B7.out.size;have h8:=s8.out;have h9:=Z9.out;have oe:Zg W10 84 2 (ORf W10 d) (.slice pr nr cr) (Zdq (x.exports.map (Zbc old to))) fr:=O9.out.keep (λa ha=>q10 a (by have:=(N7.out.2 a ha).1;omega)) (λcs x f _ hs h=>h)
 have of:Zg W10 59 3 (OFn W10 d) (.slice pu nu cu) (x.funs.map (Zcy old to)) fq:=by
  have kk:Zj fq w5 W10:=λa ha=>by
   obtain ⟨h1,h2⟩:=N5.out.2 a ha
   have h3:a<w.heap.size\/w.heap.size+4<=a:=by
    rcases h1 with h1 | h1
    . exact Or.inl (HL.out.2 a h1)
    . exact Or.inr (by omega)
   exact (q10 a (by omega)).trans ((L9.out a (by omega)).trans ((Q8.out a (by omega)).trans ((B7.out.block a (by omega)).trans (Q6.out a (by omega)))))
  exact O5.out.keep kk (λcs x f _ hs h=>h.keep (kk.sub hs))
 have nd:(fr ++ fq).Nodup:=by
  rw [List.nodup_append];refine ⟨N7.out.1,N5.out.1,λa ha b hb=>?_⟩;have h:=(N7.out.2 a ha).1;have h':=(N5.out.2 b hb).2;omega
 have rg:∀ a ∈ fr ++ fq,(a ∈ f1 ++ f2\/w.heap.size<=a)/\a<W10.heap.size:=λa ha=>by
  rcases List.mem_append.1 ha with ha | ha
  . have h:=N7.out.2 a ha
    exact ⟨Or.inr (by omega),by omega⟩
  . obtain ⟨h1,h2⟩:=N5.out.2 a ha
    refine ⟨?_,by omega⟩
    rcases h1 with h1 | h1
    . exact Or.inl (List.mem_append_right _ h1)
    . exact Or.inr (by omega)
 have fin:∃ cs' fp',(Ending.returned (.agg #[.string x.name,.slice pr nr cr,.slice pu nu cu]))=.returned (.agg cs'.toArray)/\OMd W10 d cs' (Zf5 old to x) fp'/\fp'.Nodup/\(∀ a ∈ fp',(a ∈ f1 ++ f2\/w.heap.size<=a)/\a<W10.heap.size)/\Bz w W10 :=
  ⟨[.string x.name,.slice pr nr cr,.slice pu nu cu],fr ++ fq,rfl,⟨_,_,fr,fq,rfl,rfl,HOK.out,oe,of⟩,nd,rg,g10⟩
 rw [hW10] at fin j0 j1 j2;exact bodyPost_ret (v:=.agg #[.string x.name,.slice pr nr cr,.slice pu nu cu]) (by simp [results,results50,go_sem,j0,j1,j2]) rfl fin
def renM (d:Nat) (q:Pl) (to:ByteArray) (x:Md):Md :=
 if (x.name.toList == q.mod.toList)=true then Zf5 ⟨q.name,q.arity⟩ to (mapM (fT (ftC q x.name to)) d x) else mapM (fT (ftC q x.name to)) d x
def CapM (N ba bt:Nat) (q:Pl) (to:ByteArray) (w:World):Prop:=Blk w ba #[.string q.mod,.string q.name,.int .i64 q.arity,.int .i64 q.clause] 31/\Blk w bt #[.string to] 9/\ba<N/\bt<N
theorem CapM.next {N ba bt:Nat} {q:Pl} {to:ByteArray} {w w':World} (h:CapM N ba bt q to w) (hb:Below N w w'):CapM N ba bt q to w' :=
 ⟨(hb.block _ h.2.2.1).trans h.1,(hb.block _ h.2.2.2).trans h.2.1,h.2.2.1,h.2.2.2⟩
theorem OMd.cells {w:World} {d:Nat} {cs:List Value} {x:Md} {fp:List Nat} (h:OMd w d cs x fp):∃ p1 n1 c1 p2 n2 c2,cs = [.string x.name,.slice p1 n1 c1,.slice p2 n2 c2]:=by
 obtain ⟨ev,fv,f1,f2,rfl,-,-,he,hf⟩:=h;obtain ⟨p1,c1,rfl,-⟩:=he.shape;obtain ⟨p2,c2,rfl,-⟩:=hf.shape;exact ⟨_,_,_,_,_,_,rfl⟩
theorem ZiU (d N:Nat) (w:World) (PL:Nat->Prop) (ba bt:Nat) (q:Pl) (to:ByteArray) (cs:List Value) (x:Md) (h:HMd w PL d cs x) (hP:∀ g,PL g->g<w.heap.size/\ZN w g) (hc:CapM N ba bt q to w) (hw:wtMd d x<=16777216) (hto:okS to) :
 Calls prog 48 #[.agg cs.toArray,.pointer (some ⟨ba,0,none⟩),.pointer (some ⟨bt,0,none⟩)] w λe w'=>∃ cs' fp,e=.returned (.agg cs'.toArray)/\OMd w' d cs' (renM d q to x) fp/\fp.Nodup/\(∀ a ∈ fp,w.heap.size<=a/\a<w'.heap.size)/\Bz w w':=by
 have HT:=hid hto;have HWT:=hid hw;have HP:=hid hP;have HH:=hid h;obtain ⟨h1,h2,-⟩:=hc;obtain ⟨ev,fv,rfl,-,f0,f1⟩:=h;obtain ⟨pe,ce,rfl,-⟩:=f0;obtain ⟨pf,cf,rfl,-⟩:=f1;generalize x.exports.length=ne at *;generalize x.funs.length=nf at *;obtain ⟨W2,hW2⟩:∃ W2,W2=(w.alloc (.cells #[.string x.name,.slice pe ne ce,.slice pf nf cf] 63)).alloc (.cells #[.string ⟨#[]⟩,.slice none 0 0,.slice none 0 0] 63):=⟨_,rfl⟩;have HW2:=hid hW2;have S2:Hid (W2.heap.size=w.heap.size+2):=(by show _=_;rw [hW2,Zb,Zb]);have B2:Hid (Bz w W2):=(by show Below _ _ _;rw [hW2];exact ((sqN _ _)).alloc (by simp) _);have m2:Hid (Blk W2 w.heap.size #[.string x.name,.slice pe ne ce,.slice pf nf cf] 63):=(by show Blk _ _ _ _;rw [hW2];exact Blk.new.alloc)
 have r2:Hid (Blk W2 (w.heap.size+1) #[.string ⟨#[]⟩,.slice none 0 0,.slice none 0 0] 63):=by
  have:=Blk.new (w:=w.alloc (.cells #[.string x.name,.slice pe ne ce,.slice pf nf cf] 63)) (cs:=#[.string ⟨#[]⟩,.slice none 0 0,.slice none 0 0]) (t:=63);rw [Zb] at this;show Blk _ _ _ _;rw [hW2];exact this
 have a2:=hid (h1.next B2.out);have t2:=hid (h2.next B2.out);have la:Hid (ba<w.heap.size/\bt<w.heap.size):=⟨h1.lt,h2.lt⟩
 have CC:Hid (Calls prog 49 #[.agg #[.string x.name,.slice pe ne ce,.slice pf nf cf],.agg #[.string q.mod,.string q.name,.int .i64 q.arity,.int .i64 q.clause],.string to] W2 λe w'=>∃ cs' fp,e=.returned (.agg cs'.toArray)/\OMd w' d cs' (mapM (fT (ftC q x.name to)) d x) fp/\fp.Nodup/\(∀ a ∈ fp,W2.heap.size<=a/\a<w'.heap.size)/\Bz W2 w') :=
  ZfW d W2 PL q to [.string x.name,.slice pe ne ce,.slice pf nf cf] x (HH.out.mono ⟨B2.out.size,λg hg hl=>B2.out.block g hl⟩ sqj) (λg hg=>by
   obtain ⟨k1,c,ty,k2⟩:=HP.out g hg
   exact ⟨Nat.lt_of_lt_of_le k1 B2.out.size,c,ty,(B2.out.block g k1).trans k2⟩) HWT.out HT.out
 have hl1:=h1.lt;have hl2:=h2.lt;obtain ⟨x0,x1,x2⟩:=sqB3 m2.out;obtain ⟨g0,g1,g2,g3⟩:=sqB4 a2.out;have k0:=t2.out.cell 0 _ rfl;clear hW2 hP hw hto h1 h2;go_enter func48,ntmps48;go_wp2_with (rw [<-HW2.out]);refine CC.out.mono ?_;rintro e w3 ⟨cs',fp,rfl,ho3,hnd3,hrg3,hb3⟩;obtain ⟨p1,n1,c1,p2,n2,c2,hsh⟩:∃ p1 n1 c1 p2 n2 c2,cs' = [.string x.name,.slice p1 n1 c1,.slice p2 n2 c2]:=ho3.cells;subst hsh;have O3:=hid ho3;have N3:Hid (fp.Nodup/\∀ a ∈ fp,W2.heap.size<=a/\a<w3.heap.size):=⟨hnd3,hrg3⟩;have B3:=hid (B2.out.trans (hb3.mono B2.out.size));have m3:=hid (m2.out.next hb3);have L3:Hid (w.heap.size+2<=w3.heap.size):=(by show _<=_;rw [<-S2.out];exact hb3.size);obtain ⟨W4,hW4⟩:∃ W4,W4=((w3.setCell ⟨w.heap.size,0,none⟩ (.string x.name)).setCell ⟨w.heap.size,1,none⟩ (.slice p1 n1 c1)).setCell ⟨w.heap.size,2,none⟩ (.slice p2 n2 c2):=⟨_,rfl⟩;have HW4:=hid hW4
 have Q4:Hid (∀ a,a≠w.heap.size->W4.heap[a]?=w3.heap[a]?):=λa ha=>by rw [hW4,Below.heap_setCell _ _ _ _ ha,Below.heap_setCell _ _ _ _ ha,Below.heap_setCell _ _ _ _ ha]
 have S4:Hid (W4.heap.size=w3.heap.size):=(by show _=_;rw [hW4];simp [World.setCell]);have B4:Hid (Bz w W4):=(by show Below _ _ _;rw [hW4];exact ((B3.out.setCell (sqR _) _).setCell (sqR _) _).setCell (sqR _) _);have m4:Hid (Blk W4 w.heap.size #[.string x.name,.slice p1 n1 c1,.slice p2 n2 c2] 63):=(by show Blk _ _ _ _;rw [hW4];exact ((m3.out.same rfl).same rfl).same rfl);have r4:Hid (Blk W4 (w.heap.size+1) #[.string ⟨#[]⟩,.slice none 0 0,.slice none 0 0] 63):=(Q4.out _ (by omega)).trans (r2.out.next hb3);have a4:Hid (Blk W4 ba #[.string q.mod,.string q.name,.int .i64 q.arity,.int .i64 q.clause] 31):=(Q4.out _ (by omega)).trans (a2.out.next hb3);have t4:Hid (Blk W4 bt #[.string to] 9):=(Q4.out _ (by omega)).trans (t2.out.next hb3);have O4:=hid (ho3.keep (λa ha=>Q4.out a (by have:=(hrg3 a ha).1;have:=S2.out;omega)));obtain ⟨y0,y1,y2⟩:=sqB3 m3.out;obtain ⟨u0,u1,u2⟩:=sqF3 m3.out;clear hW4 ho3 hnd3 hrg3 hb3 x0 x1 x2 g0 g1 g2 g3 k0
 have FIN:Hid (∀ (W5:World) (p3 p4:Option Addr) (n3 c3 n4 c4:Nat) (fq:List Nat),Blk W5 w.heap.size #[.string x.name,.slice p3 n3 c3,.slice p4 n4 c4] 63->Blk W5 (w.heap.size+1) #[.string ⟨#[]⟩,.slice none 0 0,.slice none 0 0] 63->Bz w W5->OMd W5 d [.string x.name,.slice p3 n3 c3,.slice p4 n4 c4] (renM d q to x) fq->fq.Nodup->(∀ a ∈ fq,w.heap.size+2<=a/\a<W5.heap.size) ->
  Blk (((W5.setCell ⟨w.heap.size+1,0,none⟩ (.string x.name)).setCell ⟨w.heap.size+1,1,none⟩ (.slice p3 n3 c3)).setCell ⟨w.heap.size+1,2,none⟩ (.slice p4 n4 c4)) (w.heap.size+1) #[.string x.name,.slice p3 n3 c3,.slice p4 n4 c4] 63/\(∃ cs' fp,(Ending.returned (.agg #[.string x.name,.slice p3 n3 c3,.slice p4 n4 c4]))=.returned (.agg cs'.toArray)/\OMd (((W5.setCell ⟨w.heap.size+1,0,none⟩ (.string x.name)).setCell ⟨w.heap.size+1,1,none⟩ (.slice p3 n3 c3)).setCell ⟨w.heap.size+1,2,none⟩ (.slice p4 n4 c4)) d cs' (renM d q to x) fp/\fp.Nodup/\(∀ a ∈ fp,w.heap.size<=a/\a<(((W5.setCell ⟨w.heap.size+1,0,none⟩ (.string x.name)).setCell ⟨w.heap.size+1,1,none⟩ (.slice p3 n3 c3)).setCell ⟨w.heap.size+1,2,none⟩ (.slice p4 n4 c4)).heap.size)/\Bz w (((W5.setCell ⟨w.heap.size+1,0,none⟩ (.string x.name)).setCell ⟨w.heap.size+1,1,none⟩ (.slice p3 n3 c3)).setCell ⟨w.heap.size+1,2,none⟩ (.slice p4 n4 c4)))):=λW5 p3 p4 n3 c3 n4 c4 fq hm hr hb ho hnd hrg=>by
  refine ⟨((hr.same rfl).same rfl).same rfl,_,fq,rfl,ho.keep (λa ha=>?_),hnd,λa ha=>⟨by have:=(hrg a ha).1;omega,?_⟩,((hb.setCell (Nat.le_succ _) _).setCell (Nat.le_succ _) _).setCell (Nat.le_succ _) _⟩
  . have hne:a≠w.heap.size+1:=by have:=(hrg a ha).1;omega
    rw [Below.heap_setCell _ _ _ _ hne,Below.heap_setCell _ _ _ _ hne,Below.heap_setCell _ _ _ _ hne]
  . have:=(hrg a ha).2
    simp [World.setCell];exact this
 cases hq:(x.name.toList == q.mod.toList) with
 | false =>
  have HR:Hid (renM d q to x=mapM (fT (ftC q x.name to)) d x):=(by show _=_;unfold renM;rw [hq];rfl);obtain ⟨z0,z1,z2⟩:=sqB3 m4.out;obtain ⟨b0,b1,b2,b3⟩:=sqB4 a4.out;obtain ⟨o0,o1,o2⟩:=sqB3 r4.out;obtain ⟨v0,v1,v2⟩:=sqF3 r4.out;go_wp2_with (rw [<-HW4.out]);obtain ⟨bz,fin⟩:=FIN.out W4 p1 p2 n1 c1 n2 c2 fp m4.out r4.out B4.out (by rw [HR.out];exact O4.out) N3.out.1 (λa ha=>by have h1:=N3.out.2 a ha;have h2:=S2.out;have h3:=S4.out;omega);obtain ⟨j0,j1,j2⟩:=sqB3 bz;exact bodyPost_ret (v:=.agg #[.string x.name,.slice p1 n1 c1,.slice p2 n2 c2]) (by simp [results,results48,go_sem,j0,j1,j2]) rfl fin
 | true =>
  have HR:Hid (renM d q to x=Zf5 ⟨q.name,q.arity⟩ to (mapM (fT (ftC q x.name to)) d x)):=by show _=_;unfold renM;rw [hq];rfl
  have CF:Hid (∀ w5,Bz W4 w5->Calls prog 50 #[.agg #[.string x.name,.slice p1 n1 c1,.slice p2 n2 c2],.agg #[.string q.name,.int .i64 q.arity],.string to] w5 λe w'=>∃ p3 n3 c3 p4 n4 c4,e=.returned (.agg #[.string x.name,.slice p3 n3 c3,.slice p4 n4 c4])/\Bz W4 w'/\Hid (∃ fq,OMd w' d [.string x.name,.slice p3 n3 c3,.slice p4 n4 c4] (renM d q to x) fq/\fq.Nodup/\∀ a ∈ fq,w.heap.size+2<=a/\a<w'.heap.size)):=λw5 hb=>by
   have o5:=O4.out.keep (λa ha=>hb.block a (by have:=N3.out.2 a ha;have:=S4.out;omega));have hwt:wtMd d x=x.name.size+wtS wtRf x.exports+wtS (wtFn d) x.funs:=rfl;have hw:=HWT.out;refine (ZhO d w5 ⟨q.name,q.arity⟩ to _ _ fp o5 o5.lt N3.out.1 (by show x.exports.length<=16777216;unfold wtS at hwt;omega) (by show (x.funs.map _).length<=16777216;rw [List.length_map];unfold wtS at hwt;omega) HT.out).mono ?_;rintro e w' ⟨cs',fq,rfl,ho,hnd,hrg,hb'⟩;obtain ⟨p3,n3,c3,p4,n4,c4,hsh⟩:∃ p3 n3 c3 p4 n4 c4,cs' = [.string x.name,.slice p3 n3 c3,.slice p4 n4 c4]:=ho.cells;subst hsh;refine ⟨p3,n3,c3,p4,n4,c4,rfl,hb.trans (hb'.mono hb.size),fq,by rw [HR.out];exact ho,hnd,λa ha=>?_⟩;obtain ⟨h1,h2⟩:=hrg a ha;refine ⟨?_,h2⟩
   rcases h1 with h1 | h1
   . have:=N3.out.2 a h1;have:=S2.out;omega
   . have:=hb.size;have:=S4.out;have:=L3.out;omega
  obtain ⟨z0,z1,z2⟩:=sqB3 m4.out;obtain ⟨b0,b1,b2,b3⟩:=sqB4 a4.out;obtain ⟨o0,o1,o2⟩:=sqB3 r4.out;obtain ⟨v0,v1,v2⟩:=sqF3 r4.out;obtain ⟨f0,f1,f2⟩:=sqF3 m4.out;have k0:=t4.out.cell 0 _ rfl;go_wp2_with (rw [<-HW4.out])
  go_region_law
   (first
    | (go_simp;go_at_call 51;refine (Zey q _).mono ?_;rintro e w5 ⟨rfl,hb5⟩;have K5:Hid (Bz W4 w5):=(by first | exact hb5 | exact ⟨hb5.os,hb5.tape,hb5.output,hb5.size,hb5.block⟩);have m5:=m4.out.next K5.out;obtain ⟨d0,d1,d2⟩:=sqB3 m5;have dt:=(t4.out.next K5.out).cell 0 _ rfl;clear hb5 m5;dsimp only)
    | (go_simp;go_at_call 50;refine (CF.out w5 K5.out).mono ?_;rintro e w6 ⟨p3,n3,c3,p4,n4,c4,rfl,hb6,h6⟩;have K6:=hid hb6;have m6:=m4.out.next hb6;obtain ⟨i0,i1,i2⟩:=sqB3 m6;obtain ⟨h0,h1,h2⟩:=sqF3 m6;clear hb6 m6;dsimp only))
  all_goals
   obtain ⟨fq,oq,ndq,rgq⟩:=h6.out;obtain ⟨W7,hW7⟩:∃ W7,W7=((w6.setCell ⟨w.heap.size,0,none⟩ (.string x.name)).setCell ⟨w.heap.size,1,none⟩ (.slice p3 n3 c3)).setCell ⟨w.heap.size,2,none⟩ (.slice p4 n4 c4):=⟨_,rfl⟩;rw [<-hW7]
   have q7:∀ a,a≠w.heap.size->W7.heap[a]?=w6.heap[a]?:=λa ha=>by rw [hW7,Below.heap_setCell _ _ _ _ ha,Below.heap_setCell _ _ _ _ ha,Below.heap_setCell _ _ _ _ ha]
   have m7:Hid (Blk W7 w.heap.size #[.string x.name,.slice p3 n3 c3,.slice p4 n4 c4] 63):=(by show Blk _ _ _ _;rw [hW7];exact (((m4.out.next K6.out).same rfl).same rfl).same rfl);have r7:Hid (Blk W7 (w.heap.size+1) #[.string ⟨#[]⟩,.slice none 0 0,.slice none 0 0] 63):=(q7 _ (by omega)).trans (r4.out.next K6.out);have B7:Hid (Bz w W7):=(by show Below _ _ _;rw [hW7];exact (((B4.out.trans (K6.out.mono B4.out.size)).setCell (sqR _) _).setCell (sqR _) _).setCell (sqR _) _);have s7:W7.heap.size=w6.heap.size:=(by rw [hW7];simp [World.setCell]);have O7:Hid (∃ fq,OMd W7 d [.string x.name,.slice p3 n3 c3,.slice p4 n4 c4] (renM d q to x) fq/\fq.Nodup/\∀ a ∈ fq,w.heap.size+2<=a/\a<W7.heap.size):=⟨fq,oq.keep (λa ha=>q7 a (by have:=(rgq a ha).1;omega)),ndq,λa ha=>by rw [s7];exact rgq a ha⟩;obtain ⟨l0,l1,l2⟩:=sqB3 m7.out;obtain ⟨s0,s1,s2⟩:=sqB3 r7.out;obtain ⟨e0,e1,e2⟩:=sqF3 r7.out;clear hW7 q7 s7 oq ndq rgq h6 i0 i1 i2 h0 h1 h2 d0 d1 d2 dt;go_wp2_with fail;obtain ⟨fq,oq,ndq,rgq⟩:=O7.out;obtain ⟨bz,fin⟩:=FIN.out W7 p3 p4 n3 c3 n4 c4 fq m7.out r7.out B7.out oq ndq rgq;obtain ⟨j0,j1,j2⟩:=sqB3 bz;exact bodyPost_ret (v:=.agg #[.string x.name,.slice p3 n3 c3,.slice p4 n4 c4]) (by simp [results,results48,go_sem,j0,j1,j2]) rfl fin
end
theorem Zdr {s:ByteArray} (h:Zas s=true):s.size<=10:=by
 unfold Zas nameB at h;simp only [Bool.and_eq_true,decide_eq_true_eq] at h;exact h.1.1.2.2
theorem Zlh (q:Pl) (home to:ByteArray) (k:Int) (t m:ByteArray) (n:Nat) (hs:to.size<=10):(ftC q home to k t m n).size<=t.size+10:=by
 unfold ftC;split <;> omega
theorem Zds (old:Rf) (to s:ByteArray) (k:Int) (hs:to.size<=10):(renN old to s k).size<=s.size+10:=by
 unfold renN;split <;> omega
theorem Zid (q:Pl) (home to:ByteArray) (hs:to.size<=10):∀ (d:Nat) (x:Ex),wtEx d (mapX (fT (ftC q home to)) d x)<=10+11 * wtEx d x
 | 0,_=>by simp [wtEx]
 | d+1,.mk k n t m ks cs=>by
  have hx:∀ y,1+wtEx d (mapX (fT (ftC q home to)) d y)<=11 * (1+wtEx d y):=λy=>by have:=Zid q home to hs d y;omega
  have h1:=ZaS (mapX (fT (ftC q home to)) d) (wtEx d) 11 hx ks
  have h2:=ZaS (mapC (fT (ftC q home to)) d) (wtCl (wtEx d)) 11 (λc=>by
   have a1:=ZaS (mapX (fT (ftC q home to)) d) (wtEx d) 11 hx c.1;have a2:=ZaS (mapX (fT (ftC q home to)) d) (wtEx d) 11 hx c.2;have a3:wtCl (wtEx d) (mapC (fT (ftC q home to)) d c)=wtS (wtEx d) (c.1.map (mapX (fT (ftC q home to)) d))+wtS (wtEx d) (c.2.map (mapX (fT (ftC q home to)) d)):=rfl;have a4:wtCl (wtEx d) c=wtS (wtEx d) c.1+wtS (wtEx d) c.2:=rfl
   rw [a3,a4];omega) cs
  have h3:wtEx (d+1) (mapX (fT (ftC q home to)) (d+1) (.mk k n t m ks cs))=(ftC q home to k t m (ks.map (mapX (fT (ftC q home to)) d)).length).size+m.size+wtS (wtEx d) (ks.map (mapX (fT (ftC q home to)) d))+wtS (wtCl (wtEx d)) (cs.map (mapC (fT (ftC q home to)) d)):=rfl;have h4:wtEx (d+1) (.mk k n t m ks cs)=t.size+m.size+wtS (wtEx d) ks+wtS (wtCl (wtEx d)) cs:=rfl;have h5:=Zlh q home to k t m (ks.map (mapX (fT (ftC q home to)) d)).length hs;rw [h3,h4];omega
theorem Zie (q:Pl) (home to:ByteArray) (hs:to.size<=10) (d:Nat) (f:Fn'):wtS (wtCl (wtEx d)) (mapF (fT (ftC q home to)) d f).clauses<=11 * wtS (wtCl (wtEx d)) f.clauses:=by
 have hx:∀ y,1+wtEx d (mapX (fT (ftC q home to)) d y)<=11 * (1+wtEx d y):=λy=>by have:=Zid q home to hs d y;omega
 exact ZaS (mapC (fT (ftC q home to)) d) (wtCl (wtEx d)) 11 (λc=>by
  have a1:=ZaS (mapX (fT (ftC q home to)) d) (wtEx d) 11 hx c.1;have a2:=ZaS (mapX (fT (ftC q home to)) d) (wtEx d) 11 hx c.2;have a3:wtCl (wtEx d) (mapC (fT (ftC q home to)) d c)=wtS (wtEx d) (c.1.map (mapX (fT (ftC q home to)) d))+wtS (wtEx d) (c.2.map (mapX (fT (ftC q home to)) d)):=rfl;have a4:wtCl (wtEx d) c=wtS (wtEx d) c.1+wtS (wtEx d) c.2:=rfl
  rw [a3,a4];omega) f.clauses
theorem Zif {α:Type} (f:α->Nat) {xs ys:List α} (h:xs.Perm ys):wtS f xs=wtS f ys:=by
 unfold wtS;rw [h.length_eq,(h.map f).sum_nat]
theorem Zmh (d:Nat) (q:Pl) (to:ByteArray) (hs:to.size<=10) (x:Md):wtMd d (renM d q to x)<=11 * wtMd d x:=by
 have e0:wtMd d x=x.name.size+wtS wtRf x.exports+wtS (wtFn d) x.funs:=rfl
 have hf:∀ f:Fn',1+wtFn d (mapF (fT (ftC q x.name to)) d f)<=11 * (1+wtFn d f):=λf=>by
  have h1:=Zie q x.name to hs d f;have e1:wtFn d (mapF (fT (ftC q x.name to)) d f)=f.name.size+wtS (wtCl (wtEx d)) (mapF (fT (ftC q x.name to)) d f).clauses:=rfl;have e2:wtFn d f=f.name.size+wtS (wtCl (wtEx d)) f.clauses:=rfl;omega
 unfold renM
 split
 . have e1:wtMd d (Zf5 ⟨q.name,q.arity⟩ to (mapM (fT (ftC q x.name to)) d x))=x.name.size+wtS wtRf (Zdq (x.exports.map (Zbc ⟨q.name,q.arity⟩ to)))+wtS (wtFn d) ((x.funs.map (mapF (fT (ftC q x.name to)) d)).map (Zcy ⟨q.name,q.arity⟩ to)):=rfl
   have h1:wtS wtRf (Zdq (x.exports.map (Zbc ⟨q.name,q.arity⟩ to)))=wtS wtRf (x.exports.map (Zbc ⟨q.name,q.arity⟩ to)):=Zif _ (List.mergeSort_perm _ _)
   have h2:=ZaS (Zbc ⟨q.name,q.arity⟩ to) wtRf 11 (λr=>by
    have:=Zds ⟨q.name,q.arity⟩ to r.name r.arity hs;show 1+(renN ⟨q.name,q.arity⟩ to r.name r.arity).size<=11 * (1+r.name.size)
    omega) x.exports
   have h3:=ZaS (λf=>Zcy ⟨q.name,q.arity⟩ to (mapF (fT (ftC q x.name to)) d f)) (wtFn d) 11 (λf=>by
    have h1:=Zie q x.name to hs d f;have h2:=Zds ⟨q.name,q.arity⟩ to f.name f.arity hs;have e1:wtFn d (Zcy ⟨q.name,q.arity⟩ to (mapF (fT (ftC q x.name to)) d f))=(renN ⟨q.name,q.arity⟩ to f.name f.arity).size+wtS (wtCl (wtEx d)) (mapF (fT (ftC q x.name to)) d f).clauses:=rfl;have e2:wtFn d f=f.name.size+wtS (wtCl (wtEx d)) f.clauses:=rfl
    omega) x.funs
   rw [e1,h1,List.map_map];have e3:wtS (wtFn d) (x.funs.map (Zcy ⟨q.name,q.arity⟩ to ∘ mapF (fT (ftC q x.name to)) d))=wtS (wtFn d) (x.funs.map (λf=>Zcy ⟨q.name,q.arity⟩ to (mapF (fT (ftC q x.name to)) d f))):=rfl;rw [e3];omega
 . have e1:wtMd d (mapM (fT (ftC q x.name to)) d x)=x.name.size+wtS wtRf x.exports+wtS (wtFn d) (x.funs.map (mapF (fT (ftC q x.name to)) d)):=rfl
   have h3:=ZaS (mapF (fT (ftC q x.name to)) d) (wtFn d) 11 hf x.funs;rw [e1];omega
theorem Zf6 (d:Nat) (q:Pl) (to:ByteArray) (hs:to.size<=10) (ms:List Md):wtS (wtMd d) (ms.map (renM d q to))<=11 * wtS (wtMd d) ms :=
 ZaS (renM d q to) (wtMd d) 11 (λx=>by have:=Zmh d q to hs x;omega) ms
end Go.Proofs.YtdhlonogmnkemaaGreatDoor
