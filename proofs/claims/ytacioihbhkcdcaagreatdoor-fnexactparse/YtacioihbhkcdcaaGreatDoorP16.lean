/-
  PImplB PImplC PImplD PImplE PImplF PImplG PImplH PImplN PImp
-/
import Derived.Test.YtacioihbhkcdcaaGreatDoorP14
set_option maxHeartbeats 16000000
set_option linter.unusedVariables false
set_option maxRecDepth 100000
namespace Go.Proofs.YtacioihbhkcdcaaGreatDoor
open Go.ChangeShapes Go.WideShapes Go.ChangeAt Go.RowKit
section
open Go.Proofs.Tryz
theorem Zew (w:World) (rb:Nat) (lp:Option Addr) (cap:Nat) (ts:List Tok) (i:Nat) (k:Int) (s:ByteArray) (h:RdAt w rb lp cap ts i) (hi:i<=ts.length) (hl:ts.length<=4000) (hs:s.data.toList≠[]) :
 Calls prog 99 #[.pointer (some ⟨rb,0,none⟩),.int .i64 k,.string s] w λe w'=>e=.returned (.bool (hit ts i k s.data.toList))/\RdAt w' rb lp cap ts (if hit ts i k s.data.toList then i+1 else i)/\Off [rb] w w':=by
 have AH:=hid (ZdX w rb lp cap ts i k s h hi hl hs);have H:=hid h
 cases hh:hit ts i k s.data.toList with
 | false =>
  rw [hh] at AH;clear h;go_enter func99,ntmps99;go_wp2_with fail;refine AH.out.mono ?_;rintro e w1 ⟨rfl,hb⟩;have FIN:Hid (RdAt w1 rb lp cap ts i/\Off [rb] w w1):=⟨H.out.next hb,Off.of_below hb⟩;clear hb;go_wp2;go_ret;exact ⟨rfl,FIN.out⟩
 | true =>
  have hlt:=ZjB hh;rw [hh] at AH;clear h;go_enter func99,ntmps99;go_wp2_with fail;refine AH.out.mono ?_;rintro e w1 ⟨rfl,hb⟩;have P1:=hid (H.out.next hb);have O1:Hid (Off [rb] w w1):=Off.of_below hb;have x1:w1.cell? ⟨rb,1,none⟩=some (.int .i64 (i:Nat)):=P1.out.blk.cell 1 _ rfl;have f1:=P1.out.blk.frozen 1;have hi2:(i:Int)<4000:=(by omega);clear hb;go_wp2;go_ret;exact ⟨rfl,P1.out.setI (i+1) _ (by go_num),O1.out.trans Off.set1⟩
theorem ZZ (w:World) (rb:Nat) (lp:Option Addr) (cap:Nat) (ts:List Tok) (i:Nat) (s:ByteArray) (h:RdAt w rb lp cap ts i) (hi:i<=ts.length) (hl:ts.length<=4000) (hs:s.data.toList≠[]) :
 Calls prog 73 #[.pointer (some ⟨rb,0,none⟩),.string s] w λe w'=>e=.returned (.bool (isS ts (i,false) s.data.toList))/\RdAt w' rb lp cap ts (if isS ts (i,false) s.data.toList then i+1 else i)/\Off [rb] w w':=by
 rw [<-Zc3];have AC:=hid (Zew w rb lp cap ts i 3 s h hi hl hs);generalize hit ts i 3 s.data.toList=B at *;clear h hi hs
 cases B
 all_goals
  go_enter func73,ntmps73;go_wp2_with fail;refine AC.out.mono ?_;rintro e w1 ⟨rfl,hp,ho⟩;have FIN:Hid (RdAt w1 rb lp cap ts _/\Off [rb] w w1):=⟨hp,ho⟩;clear hp ho;go_wp2;go_ret;exact ⟨rfl,FIN.out⟩
def ZcI (ts:List Tok) (i:Nat) (k:Int) (s:List UInt8):St:=if hit ts i k s then (i+1,false) else (i,true)
theorem ZgN (w:World) (rb:Nat) (lp:Option Addr) (cap:Nat) (ts:List Tok) (i:Nat) (k:Int) (s:ByteArray) (h:RdAt w rb lp cap ts i) (hi:i<=ts.length) (hl:ts.length<=4000) (hs:s.data.toList≠[]) :
 Calls prog 71 #[.pointer (some ⟨rb,0,none⟩),.int .i64 k,.string s] w (Rd ts rb lp cap w (ZcI ts i k s.data.toList) λv _=>v=.tuple #[]):=by
 have AC:=hid (Zew w rb lp cap ts i k s h hi hl hs)
 cases hh:hit ts i k s.data.toList with
 | true =>
  rw [hh] at AC;have HN:Hid (ZcI ts i k s.data.toList=(i+1,false)):=(by show _=_;unfold ZcI;rw [hh];rfl);clear h hi hs hh;go_enter func71,ntmps71;go_wp2_with fail;refine AC.out.mono ?_;rintro e w1 ⟨rfl,hp,ho⟩;have FIN:Hid (RdAt w1 rb lp cap ts (i+1)/\Off [rb] w w1):=⟨hp,ho⟩;clear hp ho;go_wp2;go_end0;rw [HN.out];exact ⟨FIN.out.2,λ_=>⟨_,rfl,FIN.out.1,rfl⟩,λe=>(by cases e)⟩
 | false =>
  rw [hh] at AC;have HN:Hid (ZcI ts i k s.data.toList=(i,true)):=(by show _=_;unfold ZcI;rw [hh];rfl);have MF:Hid (∀ w1,RdAt w1 rb lp cap ts i->Calls prog 77 #[.pointer (some ⟨rb,0,none⟩)] w1 λe w'=>e=.returned (.agg #[.int .i64 (misL ts i)])/\Bz w1 w'):=λw1 h1=>ZbG w1 rb lp cap ts i h1 hl;clear h hi hs hh;go_enter func71,ntmps71;go_wp2_with fail;refine AC.out.mono ?_;rintro e w1 ⟨rfl,hp,ho⟩;have H1:=hid hp;have O1:=hid ho;clear hp ho;go_wp2_with fail;refine (MF.out w1 H1.out).mono ?_;rintro e w2 ⟨rfl,hb⟩;have O2:=hid (O1.out.trans (Off.of_below hb));clear hb;go_wp2_with fail;refine ⟨rfl,?_⟩;rw [HN.out];exact ⟨O2.out,λe=>(by cases e),λ_=>rfl⟩
theorem Rd.fail {ts:List Tok} {rb:Nat} {lp:Option Addr} {cap:Nat} {w w1 w2:World} {st st':St} {K K':Value->World->Prop} {e:Ending} (h:Rd ts rb lp cap w1 st K e w2) (ho:Off [rb] w w1) (hb:st.2=true) (he:st'=st):Rd ts rb lp cap w st' K' e w2:=by
 subst he;exact ⟨ho.trans h.off,λe=>(by rw [hb] at e;cases e),h.bad⟩
theorem Off.hi {fp:List Nat} {w x:World} (h:Off fp w x) {b j:Nat} {v:Value} (hb:w.heap.size<=b):Off fp w (x.setCell ⟨b,j,none⟩ v) :=
 ⟨h.os,h.tape,h.output,by rw [ZaQ];exact h.size,λk hk hn=>(Below.heap_setCell _ _ _ _ (by show k≠b;omega)).trans (h.block k hk hn)⟩
theorem Off.allocHi {fp:List Nat} {w x:World} (h:Off fp w x) (o:Obj):Off fp w (x.alloc o):=h.trans (Off.of_below ((sqN _ _)))
theorem Off.at1 {b:Nat} {w x:World} (h:Off [b] w x) {j:Nat} {v:Value}:Off [b] w (x.setCell ⟨b,j,none⟩ v):=h.trans Off.set1
theorem RdAt.fin {w w':World} {rb:Nat} {lp:Option Addr} {cap:Nat} {ts:List Tok} {i j:Nat} (h:RdAt w rb lp cap ts i) (ho:Off [rb] w w') (hb:Blk w' rb #[.slice lp ts.length cap,.int .i64 (j:Nat)] 47):RdAt w' rb lp cap ts j:=⟨hb,h.words.off ho⟩
def kindP (ts:List Tok) (i:Nat) (k:Int):St:=if isK ts (i,false) k then (i+1,false) else (i,true)
def tokV (t:Tok):Value:=.agg #[.int .i64 t.kind,.string (bs t.text),.int .i64 t.n,.int .i64 t.line]
theorem ZdA {ts:List Tok} {i:Nat} {k:Int} (hk:k≠3):isK ts (i,false) k=decide ((lookT ts i).kind=k):=by
 unfold isK lookT;simp only [Bool.not_false,Bool.true_and]
 cases ts[i]? with
 | some t=>rfl
 | none=>simp;omega
theorem Zdj (w:World) (rb:Nat) (lp:Option Addr) (cap:Nat) (ts:List Tok) (i:Nat) (k:Int) (h:RdAt w rb lp cap ts i) (hi:i<=ts.length) (hl:ts.length<=4000) (hk3:k≠3) :
 Calls prog 72 #[.pointer (some ⟨rb,0,none⟩),.int .i64 k] w (Rd ts rb lp cap w (kindP ts i k) λv _=>v=tokV (lookT ts i)):=by
 have hlt:=h.lt;have Z1:Hid (Bz w (w.alloc (.cells #[.int .i64 0,.string ⟨#[]⟩,.int .i64 0,.int .i64 0] 43))):=(sqN _ _);have LK:=hid (Zdy _ rb lp cap ts i (h.next Z1.out) hi hl);have H:=hid h;have hil:isK ts (i,false) k=true->i<ts.length:=λe=>(Zbs e).1;have HK:=ZdA (ts:=ts) (i:=i) hk3;have HV:Hid (tokV (lookT ts i)=.agg #[.int .i64 (lookT ts i).kind,.string (bs (lookT ts i).text),.int .i64 (lookT ts i).n,.int .i64 (lookT ts i).line]):=rfl;generalize lookT ts i=T at *;have Z0:Hid (Blk (w.alloc (.cells #[.int .i64 0,.string ⟨#[]⟩,.int .i64 0,.int .i64 0] 43)) w.heap.size #[.int .i64 0,.string ⟨#[]⟩,.int .i64 0,.int .i64 0] 43):=Blk.new;by_cases hk:T.kind=k
 . have HN:Hid (kindP ts i k=(i+1,false)):=by show _=_;unfold kindP;rw [HK];simp [hk]
   have hi4:(i:Int)<4000:=(by have:=hil (by rw [HK];simp [hk]);omega);clear h hi hil HK;go_enter func72,ntmps72;go_wp2_with fail;refine LK.out.mono ?_;rintro e w1 ⟨rfl,hb⟩;have B1:=hid (Z1.out.trans (hb.mono Z1.out.size));have Z2:=hid (Z0.out.next hb);have KA:Hid (Bz w1 (w1.alloc (.cells #[.int .i64 T.kind,.string (bs T.text),.int .i64 T.n,.int .i64 T.line] 43))):=(sqN _ _);have hlt1:rb<w1.heap.size:=Nat.lt_of_lt_of_le hlt B1.out.size;have hlz:w.heap.size<w1.heap.size:=Z2.out.lt;have hnz:rb≠w.heap.size:=(by omega);have hwz:w.heap.size<=w.heap.size:=Nat.le_refl _;have x1:w1.cell? ⟨rb,1,none⟩=some (.int .i64 (i:Nat)):=(H.out.blk.next B1.out).cell 1 _ rfl;have f1:w1.frozen? ⟨rb,1,none⟩=false:=(H.out.blk.next B1.out).frozen 1;obtain ⟨y0,y1,y2,y3⟩:=sqB4 Z2.out;obtain ⟨g0,g1,g2,g3⟩:=sqF4 Z2.out;clear hb LK;go_wp2_with fail;have OF:=((((((Off.of_below (fp:=[rb]) B1.out).at1 (j:=1) (v:=.int .i64 ((i:Int)+1))).hi (j:=0) (v:=.int .i64 k) hwz).hi (j:=1) (v:=.string (bs T.text)) hwz).hi (j:=2) (v:=.int .i64 T.n) hwz).hi (j:=3) (v:=.int .i64 T.line) hwz).allocHi (.cells #[.int .i64 k,.string (bs T.text),.int .i64 T.n,.int .i64 T.line] 43);have BK:=((((((H.out.blk.next B1.out).same (j:=1) (v:=.int .i64 ((i:Int)+1)) rfl).other (p:=⟨w.heap.size,0,none⟩) (v:=.int .i64 k) hnz).other (p:=⟨w.heap.size,1,none⟩) (v:=.string (bs T.text)) hnz).other (p:=⟨w.heap.size,2,none⟩) (v:=.int .i64 T.n) hnz).other (p:=⟨w.heap.size,3,none⟩) (v:=.int .i64 T.line) hnz).alloc (o:=.cells #[.int .i64 k,.string (bs T.text),.int .i64 T.n,.int .i64 T.line] 43);have ZB:=(((((Z2.out.other (p:=⟨rb,1,none⟩) (v:=.int .i64 ((i:Int)+1)) (Ne.symm hnz)).same (j:=0) (v:=.int .i64 k) rfl).same (j:=1) (v:=.string (bs T.text)) rfl).same (j:=2) (v:=.int .i64 T.n) rfl).same (j:=3) (v:=.int .i64 T.line) rfl).alloc (o:=.cells #[.int .i64 k,.string (bs T.text),.int .i64 T.n,.int .i64 T.line] 43);refine bodyPost_ret (v:=.agg #[.int .i64 k,.string (bs T.text),.int .i64 T.n,.int .i64 T.line]) (results_cell_row (by rfl) _ _ w.heap.size 43 _ (0,0) _ (by rfl) ZB underlying43 rfl (by kernel_rfl)) rfl ?_;rw [HN.out];exact ⟨OF,λ_=>⟨_,rfl,H.out.fin OF (j:=i+1) BK,by rw [HV.out,hk]⟩,λe=>(by cases e)⟩
 . have HN:Hid (kindP ts i k=(i,true)):=by show _=_;unfold kindP;rw [HK];simp [hk]
   have MF:Hid (∀ w1,RdAt w1 rb lp cap ts i->Calls prog 77 #[.pointer (some ⟨rb,0,none⟩)] w1 λe w'=>e=.returned (.agg #[.int .i64 (misL ts i)])/\Bz w1 w'):=λw1 h1=>ZbG w1 rb lp cap ts i h1 hl;clear h hi hil HK;go_enter func72,ntmps72;go_wp2_with fail;refine LK.out.mono ?_;rintro e w1 ⟨rfl,hb⟩;have B1:=hid (Z1.out.trans (hb.mono Z1.out.size));have B2:Hid (Bz w (w1.alloc (.cells #[.int .i64 T.kind,.string (bs T.text),.int .i64 T.n,.int .i64 T.line] 43))):=B1.out.alloc B1.out.size _;clear hb LK;go_wp2_with fail;refine (MF.out _ (H.out.next B2.out)).mono ?_;rintro e w2 ⟨rfl,hb⟩;have O2:Hid (Off [rb] w w2):=Off.of_below (B2.out.trans (hb.mono B2.out.size));clear hb;go_wp2_with fail;refine ⟨rfl,?_⟩;rw [HN.out];exact ⟨O2.out,λe=>(by cases e),λ_=>rfl⟩
theorem Zho (a c d:Int) (b:ByteArray) (w:World):(Instr.field 43 (.agg #[.int .i64 a,.string b,.int .i64 c,.int .i64 d]) 1).run prog w=.ok (.string b) w:=by kernel_rfl
theorem Zh8 (a c d:Int) (b:ByteArray) (w:World):(Instr.field 43 (.agg #[.int .i64 a,.string b,.int .i64 c,.int .i64 d]) 2).run prog w=.ok (.int .i64 c) w:=by kernel_rfl
theorem Zhp (ts:List Tok) (i:Nat) (s:List UInt8):takeS ts (i,false) s=ZcI ts i 3 s:=by
 unfold takeS ZcI;rw [Zc3]
 rfl
def Zbx (ts:List Tok) (st:St) (ss:List ByteArray):St:=ss.foldl (λst s=>takeS ts st s.data.toList) st
theorem Zex (ts:List Tok) (i:Nat):∀ ss:List ByteArray,Zbx ts (i,true) ss=(i,true)
 | []=>rfl
 | s :: ss=>by
  have h:takeS ts (i,true) s.data.toList=(i,true):=(by unfold takeS;rw [ZaA];rfl);show Zbx ts (takeS ts (i,true) s.data.toList) ss=_;rw [h];exact Zex ts i ss
theorem Zhq (ts:List Tok) (st:St) (ss:List ByteArray) (k:Nat):Zbx ts st ss=Zbx ts (Zbx ts st (ss.take k)) (ss.drop k):=by
 unfold Zbx;rw [<-List.foldl_append,List.take_append_drop]
theorem Zge (ts:List Tok) (st:St) (ss:List ByteArray) (k:Nat) (s:ByteArray) (h:ss[k]?=some s):Zbx ts st (ss.take (k+1))=takeS ts (Zbx ts st (ss.take k)) s.data.toList:=by
 unfold Zbx;rw [List.take_add_one,h];simp
theorem Zb3 (w:World) (rb:Nat) (lp:Option Addr) (cap:Nat) (ts:List Tok) (i:Nat) (h:RdAt w rb lp cap ts i) (hi:i<=ts.length) (hl:ts.length<=4000) :
 Calls prog 41 #[.pointer (some ⟨rb,0,none⟩)] w (Rd ts rb lp cap w (atomP ts (i,false)).2 λv _=>v=.string (bs (atomP ts (i,false)).1)):=by
 have NK:=hid (Zdj w rb lp cap ts i 0 h hi hl (by decide))
 cases hk:isK ts (i,false) 0 with
 | true =>
  have H1:Hid (kindP ts i 0=(i+1,false)):=by show _=_;unfold kindP;rw [hk];rfl
  have H2:Hid (atomP ts (i,false)=((lookT ts i).text,(i+1,false))):=by
   show _=_;have h3:=Zbw (Zbs hk).1;unfold atomP ZaP;rw [hk,if_pos rfl];simp only at h3 ⊢;rw [h3]
   rfl
  rw [H1.out] at NK;have hft:=Zho;clear h hi hk;go_enter func41,ntmps41;go_wp2_with fail;refine NK.out.mono ?_;rintro e w1 hr;have O1:=hid hr.off;obtain ⟨v,rfl,hp,rfl⟩:=hr.ok rfl;have P1:=hid hp;unfold tokV;clear hr hp;go_wp2_with fail;go_ret;rw [H2.out];exact ⟨O1.out,λ_=>⟨_,rfl,P1.out,rfl⟩,λe=>(by cases e)⟩
 | false =>
  have H1:Hid (kindP ts i 0=(i,true)):=(by show _=_;unfold kindP;rw [hk];rfl);have H2:Hid (atomP ts (i,false)=([],(i,true))):=(by show _=_;unfold atomP;rw [hk];rfl);rw [H1.out] at NK;clear h hi hk;go_enter func41,ntmps41;go_wp2_with fail;refine NK.out.mono ?_;rintro e w1 hr;obtain rfl:=hr.bad rfl;refine ⟨rfl,?_⟩;rw [H2.out];exact hr.fail (Off.refl _ _) rfl rfl
theorem ZcJ (w:World) (rb:Nat) (lp:Option Addr) (cap:Nat) (ts:List Tok) (i g c:Nat) (ss:List ByteArray) (h:RdAt w rb lp cap ts i) (hi:i<=ts.length) (hl:ts.length<=4000) (hb:Blk w g (ss.map Value.string).toArray 9) (hne:g≠rb) (hs:∀ s ∈ ss,s.data.toList≠[]) (hn:ss.length<=1000) :
 Calls prog 70 #[.pointer (some ⟨rb,0,none⟩),.slice (some ⟨g,0,none⟩) ss.length c] w (Rd ts rb lp cap w (Zbx ts (i,false) ss) λv _=>v=.tuple #[]):=by
 have HS:=hid hs;have HB:=hid hb;have H:=hid h;have hbl:=hb.lt;generalize hnn:ss.length=n at *;have HN:=hid hnn;clear h hs hb hnn;go_enter func70,ntmps70;go_wp2_with fail
 go_loopw [8] (λkv wx=>∃ k j:Nat,k<=n/\kv=.int .i64 k/\j<=ts.length/\Hid (Zbx ts (i,false) (ss.take k)=(j,false))/\Hid (RdAt wx rb lp cap ts j)/\Hid (Off [rb] w wx)) (λkv _=>n - (intOf kv).toNat)
 case atStart=>exact ⟨0,i,Nat.zero_le _,rfl,hi,rfl,H,Off.refl _ _⟩
 case round =>
  obtain ⟨k,j,hkn,rfl,hj,ht,hp,ho⟩:=hrel;by_cases hlt:k<n
  . obtain ⟨s,hsk⟩:=sqA (l:=ss) (k:=k) HN.out hlt
    have hc:wr.cell? ⟨g,k,none⟩=some (.string s):=(sqK (ho.out.block g hbl (by simpa using hne))).trans (HB.out.cell k _ (by simp [hsk]));have hki:(k:Int)<(n:Int):=(by omega);have hk0:=sqI k
    have NE:Hid (Calls prog 71 #[.pointer (some ⟨rb,0,none⟩),.int .i64 3,.string s] wr (Rd ts rb lp cap wr (takeS ts (j,false) s.data.toList) λv _=>v=.tuple #[])):=by
     rw [Zhp];exact ZgN wr rb lp cap ts j 3 s hp.out hj hl (HS.out s (List.mem_of_getElem? hsk))
    have HT1:Hid (Zbx ts (i,false) (ss.take (k+1))=takeS ts (j,false) s.data.toList):=by
     show _=_;rw [Zge ts _ ss k s hsk,ht.out]
    have HG:=(Zj ts (j,false) s.data.toList).le hj;generalize takeS ts (j,false) s.data.toList=st1 at *;obtain ⟨j1,b1⟩:=st1;clear hsk;go_wp2_with fail;refine NE.out.mono ?_;rintro e w1 hr
    cases b1 with
    | true =>
     obtain rfl:=hr.bad rfl
     have HX:Hid (Zbx ts (i,false) ss=(j1,true)):=by
      show _=_;rw [Zhq ts _ ss (k+1),HT1.out,Zex]
     refine ⟨rfl,?_⟩;exact hr.fail ho.out rfl HX.out
    | false =>
     obtain ⟨v,rfl,hp1,rfl⟩:=hr.ok rfl;have P1:=hid hp1;have O1:=hid (ho.out.trans hr.off);clear hr hp1 hc;go_wp2_with fail;exact ⟨⟨k+1,j1,by omega,by go_num,HG,HT1,P1,O1⟩,by simp [intOf];omega⟩
  . have HX:Hid (Zbx ts (i,false) ss=(j,false)):=by
     have h1:=ht.out
     rwa [List.take_of_length_le (by rw [HN.out];omega)] at h1
    go_wp2;go_end0;rw [HX.out];exact ⟨ho.out,λ_=>⟨_,rfl,hp.out,rfl⟩,λe=>(by cases e)⟩
def ExK (w:World) (x:Ex) (v:Value) (w':World):Prop:=∃ cs fp,v=.agg cs.toArray/\OXT w' cs x fp/\fp.Nodup/\∀ a ∈ fp,w.heap.size<=a/\a<w'.heap.size
def RoK (w:World) (xs:List Ex) (v:Value) (w':World):Prop:=Zh 108 6 OXT w' w.heap.size w'.heap.size v xs
def PIe (ts:List Tok) (F:FuncId) (n:Nat) (E:St->Ex × St):Prop :=
 ∀ (w:World) (rb:Nat) (lp:Option Addr) (cap i:Nat),RdAt w rb lp cap ts i->i<=ts.length->ts.length - i<n ->
  Calls prog F #[.pointer (some ⟨rb,0,none⟩)] w (Rd ts rb lp cap w (E (i,false)).2 (ExK w (E (i,false)).1))
def PIs (ts:List Tok) (F:FuncId) (n:Nat) (E:St->List Ex × St):Prop :=
 ∀ (w:World) (rb:Nat) (lp:Option Addr) (cap i:Nat),RdAt w rb lp cap ts i->i<=ts.length->ts.length - i<n ->
  Calls prog F #[.pointer (some ⟨rb,0,none⟩)] w (Rd ts rb lp cap w (E (i,false)).2 (RoK w (E (i,false)).1))
theorem RdAt.pos {w:World} {rb:Nat} {lp:Option Addr} {cap i:Nat} {ts:List Tok} (h:RdAt w rb lp cap ts i):posM w rb=i:=by
 have h1:w.cell? ⟨rb,1,none⟩=some (.int .i64 (i:Nat)):=h.blk.cell 1 _ rfl;unfold posM;rw [h1];simp
theorem RdAt.below {w w':World} {rb N:Nat} {lp:Option Addr} {cap i:Nat} {ts:List Tok} (h:RdAt w rb lp cap ts i) (hb:Below N w w') (hN:rb<N):RdAt w' rb lp cap ts i :=
 ⟨h.blk.below hb hN,λk t hk=>by
  obtain ⟨g,h1,h2,h3,h4,h5,h6,h7⟩:=h.words k t hk;have h8:=hb.block g (by omega)
  exact ⟨g,h1,h2,Nat.lt_of_lt_of_le h3 hb.size,(sqK h8).trans h4,(sqK h8).trans h5,(sqK h8).trans h6,(sqK h8).trans h7⟩⟩
theorem Zft (ts:List Tok) (E:St->Ex × St) (k:Nat) (acc:List Ex) (j:Nat):Zap ts E k acc (j,true)=(acc,(j,true)):=by
 cases k with
 | zero=>rfl
 | succ k=>unfold Zap;rw [ZaA];rfl
theorem ZgO {ts:List Tok} (hT:TsOk ts) {n:Nat} {E:St->Ex × St} (hE:PIe ts 113 n E) (hG:ZV ts E):PIs ts 101 n (pBody ts E):=by
 intro w rb lp cap i hp hst hn;have hlen:=hT.len;have HE:=hid hE;have HP0:=hid hp;have hpb:=hp.lt;have HB:Hid (pBody ts E (i,false)=Zap ts E (ts.length+1) [(E (i,false)).1] (E (i,false)).2):=rfl;have HG:=hid hG;have C0:=hid (hE w rb lp cap i hp hst hn);have g1:=hG (i,false);have hge:i<=(E (i,false)).2.1:=g1.ge;have hle:(E (i,false)).2.1<=ts.length:=g1.le hst;generalize hEE:E (i,false)=EE at *;obtain ⟨x1,s1,b1⟩:=EE;simp only at hge hle;clear hE hp hG g1 hEE;go_enter func101,ntmps101;go_wp2_with fail;refine C0.out.mono ?_;rintro e w1 hr
 cases b1 with
 | true =>
  obtain rfl:=hr.bad rfl;refine ⟨rfl,?_⟩;rw [HB.out];simp only [Zft];exact hr.fail (Off.refl _ _) rfl rfl
 | false =>
  obtain ⟨v,rfl,hp1,cs,fp,rfl,hx,hnd,hrg⟩:=hr.ok rfl;have ho1:=hr.off;obtain ⟨sk,sn,st',se,p1,n1,q1,p2,n2,q2,rfl⟩:=hx.shape;have KA:Bz w1 (w1.alloc (.cells #[.int .i64 sk,.int .i64 sn,.string st',.string se,.slice p1 n1 q1,.slice p2 n2 q2] 108)):=(sqN _ _);have P1:=hid (hp1.next KA);have O1:=hid (ho1.trans (Off.of_below KA));have G2:Hid (Zh 108 6 OXT (w1.alloc (.cells #[.int .i64 sk,.int .i64 sn,.string st',.string se,.slice p1 n1 q1,.slice p2 n2 q2] 108)) w.heap.size (w1.alloc (.cells #[.int .i64 sk,.int .i64 sn,.string st',.string se,.slice p1 n1 q1,.slice p2 n2 q2] 108)).heap.size (.slice (some ⟨w1.heap.size,0,none⟩) 1 1) [x1]):=(Zh.one hx hnd hrg ho1.size).more (sqR _) (by rw [Zg];exact Nat.le_refl _) (sqR _);clear hx hnd hrg hp1 ho1 KA hr;go_wp2_with fail
  go_loopw [3] (λuv wr=>∃ (k:Nat) (acc:List Ex) (s:Nat),Hid (Zh 108 6 OXT wr w.heap.size wr.heap.size uv acc)/\Hid (RdAt wr rb lp cap ts s)/\Hid (Off [rb] w wr)/\Hid (Zap ts E k acc (s,false)=Zap ts E (ts.length+1) [x1] (s1,false))/\s<=ts.length/\i<=s/\ts.length<k+s/\acc.length<=1+s/\k<=ts.length+1) (λ_ wr=>ts.length+1 - posM wr rb)
  case atStart=>exact ⟨ts.length+1,[x1],s1,G2,P1,O1,rfl,hle,hge,by omega,by simp,Nat.le_refl _⟩
  case round =>
   clear G2 P1 O1;obtain ⟨k,acc,s,HGr,HP,HO,HQ,hs1,hs2,hs3,hs4,hs5⟩:=hrel;have SG:=hid (ZZ wr rb lp cap ts s ⟨#[44]⟩ HP.out hs1 hlen (by simp))
   cases hc:isS ts (s,false) [44] with
   | false =>
    rw [hc] at SG
    have HR:Hid (pBody ts E (i,false)=(acc,(s,false))):=by
     show _=_;rw [HB.out,<-HQ.out]
     cases k with
     | zero=>rfl
     | succ k=>unfold Zap;rw [hc];rfl
    clear HQ;go_wp2_with fail;refine SG.out.mono ?_;rintro e w2 ⟨rfl,hp2,ho2⟩;have P2:=hid hp2;have G2:Hid (Zh 108 6 OXT w2 w.heap.size w2.heap.size u3 acc):=(HGr.out.off OXT.keeps ho2 hpb).more (sqR _) ho2.size (sqR _);have O2:=hid (HO.out.trans ho2);clear hp2 ho2;go_wp2_with fail;go_ret;rw [HR.out];exact ⟨O2.out,λ_=>⟨_,rfl,P2.out,G2.out⟩,λe=>(by cases e)⟩
   | true =>
    rw [hc] at SG;obtain ⟨hlt,-⟩:=ZM hc;simp only at hlt;obtain ⟨k',rfl⟩:∃ k',k=k'+1:=⟨k - 1,by omega⟩
    have HQ2:Hid (Zap ts E k' (acc ++ [(E (s+1,false)).1]) (E (s+1,false)).2=Zap ts E (ts.length+1) [x1] (s1,false)):=by
     show _=_;rw [<-HQ.out]
     conv=>rhs;unfold Zap
     rw [hc]
     rfl
    have g2:=HG.out (s+1,false);have hge2:s+1<=(E (s+1,false)).2.1:=g2.ge;have hle2:(E (s+1,false)).2.1<=ts.length:=g2.le hlt;have HPO:=hid HP.out.pos;have CE:Hid (∀ w2,RdAt w2 rb lp cap ts (s+1)->Calls prog 113 #[.pointer (some ⟨rb,0,none⟩)] w2 (Rd ts rb lp cap w2 (E (s+1,false)).2 (ExK w2 (E (s+1,false)).1))):=λw2 h2=>HE.out w2 rb lp cap (s+1) h2 hlt (by omega);generalize E (s+1,false)=E2 at *;obtain ⟨x2,s2,b2⟩:=E2;simp only at hge2 hle2;clear HQ g2;go_wp2_with fail;refine SG.out.mono ?_;rintro e w2 ⟨rfl,hp2,ho2⟩;have P2:=hid hp2;have G2:Hid (Zh 108 6 OXT w2 w.heap.size w2.heap.size u3 acc):=(HGr.out.off OXT.keeps ho2 hpb).more (sqR _) ho2.size (sqR _);have O2:=hid (HO.out.trans ho2);clear hp2 ho2;go_wp2_with fail;refine (CE.out w2 P2.out).mono ?_;rintro e w3 hr
    cases b2 with
    | true =>
     obtain rfl:=hr.bad rfl;refine ⟨rfl,?_⟩;refine hr.fail O2.out rfl ?_;rw [HB.out];show (Zap ts E (ts.length+1) [x1] (s1,false)).2=_;rw [<-HQ2.out];show (Zap ts E k' (acc ++ [x2]) (s2,true)).2=_;rw [Zft]
    | false =>
     obtain ⟨v,rfl,hp3,cs3,fp3,rfl,hx3,hnd3,hrg3⟩:=hr.ok rfl;have ho3:=hr.off;obtain ⟨k3,m3,t3,e3,p13,n13,q13,p23,n23,q23,rfl⟩:=hx3.shape;have G3:=hid (G2.out.off OXT.keeps ho3 hpb);have P3:=hid hp3;have O3:=hid (O2.out.trans ho3);have X3:Hid (OXT w3 [.int .i64 k3,.int .i64 m3,.string t3,.string e3,.slice p13 n13 q13,.slice p23 n23 q23] x2 fp3/\fp3.Nodup/\∀ a ∈ fp3,w2.heap.size<=a/\a<w3.heap.size):=⟨hx3,hnd3,hrg3⟩;clear hx3 hnd3 hrg3 hp3 ho3 hr;go_wp2_with (at_builtin;refine ZaM OXT.keeps 61 108 6 96 _ rfl _ _ rfl underlying61 Zcz rfl (by decide) (by decide) w.heap.size w2.heap.size u3 acc rfl [.int .i64 k3,.int .i64 m3,.string t3,.string e3,.slice p13 n13 q13,.slice p23 n23 q23] rfl x2 fp3 G3.out X3.out.1 X3.out.2.1 X3.out.2.2 rfl ZdI (by omega) ?_);intro v4 w4 hg4 hb4;have K4:Bz w3 (w3.alloc (.cells #[.int .i64 k3,.int .i64 m3,.string t3,.string e3,.slice p13 n13 q13,.slice p23 n23 q23] 108)):=(sqN _ _);have G4:=hid hg4;have P4:Hid (RdAt w4 rb lp cap ts s2):=(P3.out.next K4).below hb4 hpb;have O4:Hid (Off [rb] w w4):=(O3.out.trans (Off.of_below K4)).under (sqR _) hb4;clear hg4 hb4 K4;go_wp2_with fail;exact ⟨⟨k',acc ++ [x2],s2,G4.out,P4.out,O4.out,HQ2.out,hle2,by omega,by omega,by rw [List.length_append];simp;omega,by omega⟩,by rw [P4.out.pos,HPO.out];omega⟩
theorem Rd.base {ts:List Tok} {rb:Nat} {lp:Option Addr} {cap:Nat} {w w1 w2:World} {st:St} {K:Value->World->Prop} {e:Ending} (h:Rd ts rb lp cap w1 st K e w2) (ho:Off [rb] w w1):Rd ts rb lp cap w st K e w2:=⟨ho.trans h.off,h.ok,h.bad⟩
theorem ZW (w:World) (rb:Nat) (lp:Option Addr) (cap:Nat) (ts:List Tok) (i:Nat) (s:ByteArray) (h:RdAt w rb lp cap ts i) (hi:i<=ts.length) (hl:ts.length<=4000) (hs:s.data.toList≠[]) :
 Calls prog 70 #[.pointer (some ⟨rb,0,none⟩),.slice (some ⟨w.heap.size,0,none⟩) 1 1] (w.alloc (.cells #[.string s] 9)) (Rd ts rb lp cap w (takeS ts (i,false) s.data.toList) λv _=>v=.tuple #[]):=by
 have K:Bz w (w.alloc (.cells #[.string s] 9)):=(sqN _ _);refine (ZcJ _ rb lp cap ts i w.heap.size 1 [s] (h.next K) hi hl Blk.new (by have:=h.lt;omega) (λx hx=>by rw [List.mem_singleton.1 hx];exact hs) (by simp)).mono ?_;rintro e w1 hr;exact Rd.base hr (Off.of_below K)
theorem ZgP {ts:List Tok} (hT:TsOk ts) {n:Nat} {E:St->Ex × St} (hG:ZV ts E) (hL:PIs ts 101 n (pBody ts E)):PIs ts 76 n (λst=>pBody ts E (takeS ts st [45,62])):=by
 intro w rb lp cap i hp hi hn;have hlen:=hT.len;have NO:=hid (ZW w rb lp cap ts i ⟨#[45,62]⟩ hp hi hlen (by simp));have g1:=Zj ts (i,false) [45,62];have hge:i<=(takeS ts (i,false) [45,62]).1:=g1.ge;have hle:(takeS ts (i,false) [45,62]).1<=ts.length:=g1.le hi;have HL:=hid hL;have HG:=hid hG;show Calls _ _ _ _ (Rd ts rb lp cap w (pBody ts E (takeS ts (i,false) [45,62])).2 (RoK w (pBody ts E (takeS ts (i,false) [45,62])).1));generalize takeS ts (i,false) [45,62]=s1 at *;obtain ⟨j1,b1⟩:=s1;simp only at hge hle;have BD:Hid (b1=true->(pBody ts E (j1,b1)).2=(j1,b1)):=λe=>(Zaa HG.out (j1,b1)).bad e;clear hL hG g1 hp;go_enter func76,ntmps76;go_wp2_with fail;refine NO.out.mono ?_;rintro e w1 hr
 cases b1 with
 | true =>
  obtain rfl:=hr.bad rfl;refine ⟨rfl,?_⟩;exact hr.fail (Off.refl _ _) rfl (BD.out rfl)
 | false =>
  obtain ⟨v,rfl,hp1,rfl⟩:=hr.ok rfl;have O1:=hid hr.off;have CL:=hid (HL.out w1 rb lp cap j1 hp1 hle (by omega));generalize pBody ts E (j1,false)=PB at *;obtain ⟨xs,j2,b2⟩:=PB;clear hr hp1 BD;go_wp2_with fail;refine CL.out.mono ?_;rintro e w2 hr
  cases b2 with
  | true =>
   obtain rfl:=hr.bad rfl;refine ⟨rfl,?_⟩;exact hr.fail O1.out rfl rfl
  | false =>
   obtain ⟨v,rfl,hp2,hk⟩:=hr.ok rfl;have FIN:Hid (Off [rb] w w2/\RdAt w2 rb lp cap ts j2/\RoK w xs v w2):=⟨O1.out.trans hr.off,hp2,hk.more O1.out.size (sqR _) (sqR _)⟩;clear hr hp2 hk;go_wp2;go_ret;exact ⟨FIN.out.1,λ_=>⟨_,rfl,FIN.out.2⟩,λe=>(by cases e)⟩
theorem ZgQ {ts:List Tok} {E:St->Ex × St} {j:Nat} {fin:List UInt8} (h:isS ts (j,false) fin=false):pSome ts E (j,false) fin=((pBody ts E (j,false)).1,takeS ts (pBody ts E (j,false)).2 fin):=by unfold pSome;rw [h];rfl
theorem Zfu {ts:List Tok} {E:St->Ex × St} {j:Nat} {fin:List UInt8} (h:isS ts (j,false) fin=true):pSome ts E (j,false) fin=([],(j+1,false)):=by unfold pSome;rw [h];rfl
theorem ZK (ts:List Tok) (j:Nat) (s:List UInt8):takeS ts (j,true) s=(j,true):=by unfold takeS;rw [ZaA];rfl
theorem Zdk {ts:List Tok} (hT:TsOk ts) {n:Nat} {E:St->Ex × St} (hG:ZV ts E) (hL:PIs ts 101 n (pBody ts E)):PIs ts 75 n (λst=>pSome ts E (takeS ts st [40]) [41]):=by
 intro w rb lp cap i hp hi hn;have hlen:=hT.len;have NO:=hid (ZW w rb lp cap ts i ⟨#[40]⟩ hp hi hlen (by simp));have g1:=Zj ts (i,false) [40];have hge:i<=(takeS ts (i,false) [40]).1:=g1.ge;have hle:(takeS ts (i,false) [40]).1<=ts.length:=g1.le hi;have HL:=hid hL;have HG:=hid hG;have hwb:=hp.lt;show Calls _ _ _ _ (Rd ts rb lp cap w (pSome ts E (takeS ts (i,false) [40]) [41]).2 (RoK w (pSome ts E (takeS ts (i,false) [40]) [41]).1));generalize takeS ts (i,false) [40]=s1 at *;obtain ⟨j1,b1⟩:=s1;simp only at hge hle;have BD:Hid (b1=true->(pSome ts E (j1,b1) [41]).2=(j1,b1)):=λe=>(Zax HG.out (j1,b1) [41]).bad e;clear hL hG g1 hp;go_enter func75,ntmps75;go_wp2_with fail;refine NO.out.mono ?_;rintro e w1 hr
 cases b1 with
 | true =>
  obtain rfl:=hr.bad rfl;refine ⟨rfl,?_⟩;exact hr.fail (Off.refl _ _) rfl (BD.out rfl)
 | false =>
  obtain ⟨v,rfl,hp1,rfl⟩:=hr.ok rfl;have O1:=hid hr.off;have SG:=hid (ZZ w1 rb lp cap ts j1 ⟨#[41]⟩ hp1 hle hlen (by simp));clear hr hp1 BD
  cases hc:isS ts (j1,false) [41] with
  | true =>
   rw [hc] at SG;have HY:Hid (pSome ts E (j1,false) [41]=([],(j1+1,false))):=Zfu hc;go_wp2_with fail;refine SG.out.mono ?_;rintro e w2 ⟨rfl,hp2,ho2⟩;have O2:=hid (O1.out.trans ho2);have FIN:Hid (RdAt w2 rb lp cap ts (j1+1)/\RoK w [] (.slice none 0 0) w2):=⟨hp2,(Zh.nil O2.out.size).more (sqR _) O2.out.size (sqR _)⟩;clear hp2 ho2;go_wp2_with fail;go_ret;rw [HY.out];exact ⟨O2.out,λ_=>⟨_,rfl,FIN.out⟩,λe=>(by cases e)⟩
  | false =>
   rw [hc] at SG;have HY:Hid (pSome ts E (j1,false) [41]=((pBody ts E (j1,false)).1,takeS ts (pBody ts E (j1,false)).2 [41])):=ZgQ hc;have CL:Hid (∀ w2,RdAt w2 rb lp cap ts j1->Calls prog 101 #[.pointer (some ⟨rb,0,none⟩)] w2 (Rd ts rb lp cap w2 (pBody ts E (j1,false)).2 (RoK w2 (pBody ts E (j1,false)).1))):=λw2 h2=>HL.out w2 rb lp cap j1 h2 hle (by omega);have hle2:(pBody ts E (j1,false)).2.1<=ts.length:=(Zaa HG.out (j1,false)).le hle;generalize pBody ts E (j1,false)=PB at *;obtain ⟨xs,j2,b2⟩:=PB;simp only at hle2;go_wp2_with fail;refine SG.out.mono ?_;rintro e w2 ⟨rfl,hp2,ho2⟩;have O2:=hid (O1.out.trans ho2);have P2:=hid hp2;clear hp2 ho2;go_wp2_with fail;refine (CL.out w2 P2.out).mono ?_;rintro e w3 hr
   cases b2 with
   | true =>
    obtain rfl:=hr.bad rfl;refine ⟨rfl,?_⟩;exact hr.fail O2.out rfl (by rw [HY.out];exact ZK ts j2 [41])
   | false =>
    obtain ⟨v,rfl,hp3,hk⟩:=hr.ok rfl;have O3:=hid (O2.out.trans hr.off);have G3:=hid (hk.more O2.out.size (sqR _) (sqR _));obtain ⟨pv,qv,rfl,-,-⟩:=hk.shape;have NF:=hid (ZW w3 rb lp cap ts j2 ⟨#[41]⟩ hp3 hle2 hlen (by simp));have hw3:=hp3.lt;have K3:Hid (Bz w3 (w3.alloc (.cells #[.string ⟨#[41]⟩] 9))):=(sqN _ _);generalize takeS ts (j2,false) [41]=s3 at *;obtain ⟨j3,b3⟩:=s3;clear hr hp3 hk;go_wp2_with fail;refine NF.out.mono ?_;rintro e w4 hr
    cases b3 with
    | true =>
     obtain rfl:=hr.bad rfl;refine ⟨rfl,?_⟩;exact hr.fail O3.out rfl (by rw [HY.out])
    | false =>
     obtain ⟨v,rfl,hp4,rfl⟩:=hr.ok rfl;have FIN:Hid (Off [rb] w w4/\RdAt w4 rb lp cap ts j3/\RoK w xs (.slice pv xs.length qv) w4):=⟨O3.out.trans hr.off,hp4,(Zh.off OXT.keeps G3.out hr.off hwb).more (sqR _) hr.off.size (sqR _)⟩;clear hr hp4;go_wp2_with fail;go_ret;rw [HY.out];exact ⟨FIN.out.1,λ_=>⟨_,rfl,FIN.out.2⟩,λe=>(by cases e)⟩
theorem RdAt.only {b:Nat} {w w':World} {rb:Nat} {lp:Option Addr} {cap i:Nat} {ts:List Tok} (h:RdAt w rb lp cap ts i) (ho:Zv b w w') (hb:rb<b):RdAt w' rb lp cap ts i :=
 h.below (N:=b) ⟨ho.os,ho.tape,ho.output,Nat.le_of_eq ho.size.symm,λa ha=>ho.block a (by omega)⟩ hb
theorem Zi0 {ts:List Tok} (hT:TsOk ts) {n:Nat} {E:St->Ex × St} (hG:ZV ts E) (hL:PIs ts 101 n (pBody ts E)):PIe ts 163 n (λst=>(.mk 4 0 (bs []) (bs []) (pSome ts E st [125]).1 [],(pSome ts E st [125]).2)):=by
 intro w rb lp cap i hp hi hn;have hlen:=hT.len;have hwb:=hp.lt;have hne:w.heap.size≠rb:=(by omega);have P0:Hid (RdAt (w.alloc (.cells #[.int .i64 0,.int .i64 0,.string ⟨#[]⟩,.string ⟨#[]⟩,.slice none 0 0,.slice none 0 0] 108)) rb lp cap ts i):=hp.next ((sqN _ _));have R0:Hid (Blk (w.alloc (.cells #[.int .i64 0,.int .i64 0,.string ⟨#[]⟩,.string ⟨#[]⟩,.slice none 0 0,.slice none 0 0] 108)) w.heap.size #[.int .i64 0,.int .i64 0,.string ⟨#[]⟩,.string ⟨#[]⟩,.slice none 0 0,.slice none 0 0] 108):=Blk.new;have O0:Hid (Off [rb] w (w.alloc (.cells #[.int .i64 0,.int .i64 0,.string ⟨#[]⟩,.string ⟨#[]⟩,.slice none 0 0,.slice none 0 0] 108))):=Off.of_below ((sqN _ _));have S0:Hid (w.heap.size<(w.alloc (.cells #[.int .i64 0,.int .i64 0,.string ⟨#[]⟩,.string ⟨#[]⟩,.slice none 0 0,.slice none 0 0] 108)).heap.size):=(by show _<_;rw [Zg];omega);show Calls _ _ _ _ (Rd ts rb lp cap w ((pSome ts E (i,false) [125]).2) (ExK w (.mk 4 0 (bs []) (bs []) (pSome ts E (i,false) [125]).1 [])));have SG:Hid (∀ w1,RdAt w1 rb lp cap ts i->Calls prog 73 #[.pointer (some ⟨rb,0,none⟩),.string ⟨#[125]⟩] w1 λe w'=>e=.returned (.bool (isS ts (i,false) [125]))/\RdAt w' rb lp cap ts (if isS ts (i,false) [125] then i+1 else i)/\Off [rb] w1 w'):=λw1 h1=>ZZ w1 rb lp cap ts i ⟨#[125]⟩ h1 hi hlen (by simp);have HL:=hid hL;have HG:=hid hG;clear hL hG
 cases hc:isS ts (i,false) [125] with
 | true =>
  rw [hc] at SG;have HY:Hid (pSome ts E (i,false) [125]=([],(i+1,false))):=Zfu hc;clear hp;go_enter func163,ntmps163;go_wp2_with fail;refine (SG.out _ P0.out).mono ?_;rintro e w1 ⟨rfl,hp1,ho1⟩;have P1:=hid hp1;have R1:=hid (R0.out.off ho1 hne);have O1:=hid (O0.out.trans ho1);have cR0:w1.cell? ⟨w.heap.size,0,none⟩=some (.int .i64 0):=R1.out.cell 0 _ rfl;have zR0:=R1.out.frozen 0;have cR1:w1.cell? ⟨w.heap.size,1,none⟩=some (.int .i64 0):=R1.out.cell 1 _ rfl;have zR1:=R1.out.frozen 1;have cR2:w1.cell? ⟨w.heap.size,2,none⟩=some (.string ⟨#[]⟩):=R1.out.cell 2 _ rfl;have zR2:=R1.out.frozen 2;have cR3:w1.cell? ⟨w.heap.size,3,none⟩=some (.string ⟨#[]⟩):=R1.out.cell 3 _ rfl;have zR3:=R1.out.frozen 3;have cR4:w1.cell? ⟨w.heap.size,4,none⟩=some (.slice none 0 0):=R1.out.cell 4 _ rfl;have zR4:=R1.out.frozen 4;have cR5:w1.cell? ⟨w.heap.size,5,none⟩=some (.slice none 0 0):=R1.out.cell 5 _ rfl;have zR5:=R1.out.frozen 5;clear hp1 ho1;go_wp2_with fail;have hon:=Zo (b:=w.heap.size) (w:=w1) (c0:=.int .i64 4) (c1:=.int .i64 0) (c2:=.string ⟨#[]⟩) (c3:=.string ⟨#[]⟩) (c4:=.slice none 0 0) (c5:=.slice none 0 0);have hbk:=Zx R1.out (.int .i64 4) (.int .i64 0) (.string ⟨#[]⟩) (.string ⟨#[]⟩) (.slice none 0 0) (.slice none 0 0);refine bodyPost_ret (v:=.agg #[.int .i64 4,.int .i64 0,.string ⟨#[]⟩,.string ⟨#[]⟩,.slice none 0 0,.slice none 0 0]) (results_cell_row (by rfl) _ _ w.heap.size 108 _ (0,0) _ (by rfl) hbk underlying108 rfl (by kernel_rfl)) rfl ?_;rw [HY.out];exact ⟨O1.out.only hon (sqR _),λ_=>⟨_,rfl,P1.out.only hon hwb,_,[],rfl,OXT.only (OXT.leaf (Zi (by omega) (by omega)) (Zi (by omega) (by omega)) ZA ZA) hon (by simp),List.nodup_nil,λa ha=>by simp at ha⟩,λe=>(by cases e)⟩
 | false =>
  rw [hc] at SG;have HY:Hid (pSome ts E (i,false) [125]=((pBody ts E (i,false)).1,takeS ts (pBody ts E (i,false)).2 [125])):=ZgQ hc;have CL:Hid (∀ w2,RdAt w2 rb lp cap ts i->Calls prog 101 #[.pointer (some ⟨rb,0,none⟩)] w2 (Rd ts rb lp cap w2 (pBody ts E (i,false)).2 (RoK w2 (pBody ts E (i,false)).1))):=λw2 h2=>HL.out w2 rb lp cap i h2 hi hn;have hle2:(pBody ts E (i,false)).2.1<=ts.length:=(Zaa HG.out (i,false)).le hi;generalize pBody ts E (i,false)=PB at *;obtain ⟨xs,j2,b2⟩:=PB;simp only at hle2;clear hp;go_enter func163,ntmps163;go_wp2_with fail;refine (SG.out _ P0.out).mono ?_;rintro e w1 ⟨rfl,hp1,ho1⟩;have P1:=hid hp1;have R1:=hid (R0.out.off ho1 hne);have O1:=hid (O0.out.trans ho1);have S1:=hid (Nat.lt_of_lt_of_le S0.out ho1.size);clear hp1 ho1;go_wp2_with fail;refine (CL.out w1 P1.out).mono ?_;rintro e w2 hr
  cases b2 with
  | true =>
   obtain rfl:=hr.bad rfl;refine ⟨rfl,?_⟩;exact hr.fail O1.out rfl (by rw [HY.out];exact ZK ts j2 [125])
  | false =>
   obtain ⟨v,rfl,hp2,hk⟩:=hr.ok rfl;have O2:=hid (O1.out.trans hr.off);have R2:=hid (R1.out.off hr.off hne);obtain ⟨pv,qv,rfl,-,-⟩:=hk.shape;have G2:=hid hk;have hw1b:=hid P1.out.lt;have NF:=hid (ZW w2 rb lp cap ts j2 ⟨#[125]⟩ hp2 hle2 hlen (by simp));generalize takeS ts (j2,false) [125]=s3 at *;obtain ⟨j3,b3⟩:=s3;clear hr hp2 hk;go_wp2_with fail;refine NF.out.mono ?_;rintro e w3 hr
   cases b3 with
   | true =>
    obtain rfl:=hr.bad rfl;refine ⟨rfl,?_⟩;exact hr.fail O2.out rfl (by rw [HY.out])
   | false =>
    obtain ⟨v,rfl,hp3,rfl⟩:=hr.ok rfl;have O3:=hid (O2.out.trans hr.off);have P3:=hid hp3;have R3:=hid (R2.out.off hr.off hne);have G3:Hid (Zh 108 6 OXT w3 w1.heap.size w3.heap.size (.slice pv xs.length qv) xs):=(G2.out.off OXT.keeps hr.off hw1b.out).more (sqR _) hr.off.size (sqR _);obtain ⟨kf,kr,knd,krg,-,-⟩:=Zh.done G3.out;have cR0:w3.cell? ⟨w.heap.size,0,none⟩=some (.int .i64 0):=R3.out.cell 0 _ rfl;have zR0:=R3.out.frozen 0;have cR1:w3.cell? ⟨w.heap.size,1,none⟩=some (.int .i64 0):=R3.out.cell 1 _ rfl;have zR1:=R3.out.frozen 1;have cR2:w3.cell? ⟨w.heap.size,2,none⟩=some (.string ⟨#[]⟩):=R3.out.cell 2 _ rfl;have zR2:=R3.out.frozen 2;have cR3:w3.cell? ⟨w.heap.size,3,none⟩=some (.string ⟨#[]⟩):=R3.out.cell 3 _ rfl;have zR3:=R3.out.frozen 3;have cR4:w3.cell? ⟨w.heap.size,4,none⟩=some (.slice none 0 0):=R3.out.cell 4 _ rfl;have zR4:=R3.out.frozen 4;have cR5:w3.cell? ⟨w.heap.size,5,none⟩=some (.slice none 0 0):=R3.out.cell 5 _ rfl;have zR5:=R3.out.frozen 5;clear hr hp3;go_wp2_with fail;have hon:=Zo (b:=w.heap.size) (w:=w3) (c0:=.int .i64 4) (c1:=.int .i64 0) (c2:=.string ⟨#[]⟩) (c3:=.string ⟨#[]⟩) (c4:=.slice pv xs.length qv) (c5:=.slice none 0 0);have hbk:=Zx R3.out (.int .i64 4) (.int .i64 0) (.string ⟨#[]⟩) (.string ⟨#[]⟩) (.slice pv xs.length qv) (.slice none 0 0);refine bodyPost_ret (v:=.agg #[.int .i64 4,.int .i64 0,.string ⟨#[]⟩,.string ⟨#[]⟩,.slice pv xs.length qv,.slice none 0 0]) (results_cell_row (by rfl) _ _ w.heap.size 108 _ (0,0) _ (by rfl) hbk underlying108 rfl (by kernel_rfl)) rfl ?_;rw [HY.out];exact ⟨O3.out.only hon (sqR _),λ_=>⟨_,rfl,P3.out.only hon hwb,_,kf,rfl,OXT.only (by have:=OXT.mk (k:=4) (n:=0) (t:=bs []) (m:=bs []) (f2:=[]) (Zi (by omega) (by omega)) (Zi (by omega) (by omega)) ZA ZA kr Zy.empty;rw [List.append_nil] at this;exact this) hon (λha=>by have:=krg _ ha;have:=S1.out;omega),knd,λa ha=>⟨by have:=krg a ha;have:=S1.out;omega,by have:=krg a ha;have:=hon.size;omega⟩⟩,λe=>(by cases e)⟩
def OpK (w:World) (f1 f2:List Nat) (x:Ex) (e:Ending) (w':World):Prop:=∃ cs fp,e=.returned (.agg cs.toArray)/\OXT w' cs x fp/\fp.Nodup/\∀ a ∈ fp,a<w'.heap.size/\(a ∈ f1\/a ∈ f2\/w.heap.size<=a)
theorem Za2 (w:World) (s:ByteArray) (cs1 cs2:List Value) (x y:Ex) (f1 f2:List Nat) (h1:OXT w cs1 x f1) (h2:OXT w cs2 y f2) (n1:f1.Nodup) (n2:f2.Nodup) (hd:∀ a ∈ f1,a ∉ f2) (hs:okS s) :
 Calls prog 133 #[.string s,.agg cs1.toArray,.agg cs2.toArray] w λe w'=>Bz w w'/\OpK w f1 f2 (opE s.data.toList x y) e w':=by
 obtain ⟨k1,m1,t1,e1,p1,l1,q1,p2,l2,q2,rfl⟩:=h1.shape;obtain ⟨k3,m3,t3,e3,p3,l3,q3,p4,l4,q4,rfl⟩:=h2.shape;have HB:=hid (ZjJ s);have B3:Bz w (((w.alloc (.cells #[.int .i64 k1,.int .i64 m1,.string t1,.string e1,.slice p1 l1 q1,.slice p2 l2 q2] 108)).alloc (.cells #[.int .i64 k3,.int .i64 m3,.string t3,.string e3,.slice p3 l3 q3,.slice p4 l4 q4] 108)).alloc (.cells #[.int .i64 7,.int .i64 0,.string s,.string ⟨#[]⟩,.slice (some ⟨w.heap.size+1+1+1,0,none⟩) 2 2,.slice none 0 0] 108)):=(((sqN _ _)).alloc (by simp only [Zg];omega) _).alloc (by simp only [Zg];omega) _;have T1:=OXT.keeps _ _ _ _ _ h1 (Zu.below B3 h1.lt);have T2:=OXT.keeps _ _ _ _ _ h2 (Zu.below B3 h2.lt);have TW:=Zy.two T1 T2;have hsz:(((w.alloc (.cells #[.int .i64 k1,.int .i64 m1,.string t1,.string e1,.slice p1 l1 q1,.slice p2 l2 q2] 108)).alloc (.cells #[.int .i64 k3,.int .i64 m3,.string t3,.string e3,.slice p3 l3 q3,.slice p4 l4 q4] 108)).alloc (.cells #[.int .i64 7,.int .i64 0,.string s,.string ⟨#[]⟩,.slice (some ⟨w.heap.size+1+1+1,0,none⟩) 2 2,.slice none 0 0] 108)).heap.size=w.heap.size+1+1+1:=(by simp only [Zg]);rw [hsz] at TW
 have N12:((w.heap.size+1+1+1) :: (f1 ++ f2)).Nodup:=by
  rw [List.nodup_cons,List.nodup_append];refine ⟨λh=>?_,n1,n2,λa ha b hb e=>hd a ha (e ▸ hb)⟩
  rcases List.mem_append.1 h with h | h
  . have:=h1.lt _ h;omega
  . have:=h2.lt _ h;omega
 have B4:Bz w ((((w.alloc (.cells #[.int .i64 k1,.int .i64 m1,.string t1,.string e1,.slice p1 l1 q1,.slice p2 l2 q2] 108)).alloc (.cells #[.int .i64 k3,.int .i64 m3,.string t3,.string e3,.slice p3 l3 q3,.slice p4 l4 q4] 108)).alloc (.cells #[.int .i64 7,.int .i64 0,.string s,.string ⟨#[]⟩,.slice (some ⟨w.heap.size+1+1+1,0,none⟩) 2 2,.slice none 0 0] 108)).alloc (.cells #[.int .i64 k1,.int .i64 m1,.string t1,.string e1,.slice p1 l1 q1,.slice p2 l2 q2,.int .i64 k3,.int .i64 m3,.string t3,.string e3,.slice p3 l3 q3,.slice p4 l4 q4] 108)):=B3.alloc B3.size _;have S4:((((w.alloc (.cells #[.int .i64 k1,.int .i64 m1,.string t1,.string e1,.slice p1 l1 q1,.slice p2 l2 q2] 108)).alloc (.cells #[.int .i64 k3,.int .i64 m3,.string t3,.string e3,.slice p3 l3 q3,.slice p4 l4 q4] 108)).alloc (.cells #[.int .i64 7,.int .i64 0,.string s,.string ⟨#[]⟩,.slice (some ⟨w.heap.size+1+1+1,0,none⟩) 2 2,.slice none 0 0] 108)).alloc (.cells #[.int .i64 k1,.int .i64 m1,.string t1,.string e1,.slice p1 l1 q1,.slice p2 l2 q2,.int .i64 k3,.int .i64 m3,.string t3,.string e3,.slice p3 l3 q3,.slice p4 l4 q4] 108)).heap.size=w.heap.size+4:=(by simp only [Zg])
 have R12:∀ a ∈ ((w.heap.size+1+1+1) :: (f1 ++ f2)),a<((((w.alloc (.cells #[.int .i64 k1,.int .i64 m1,.string t1,.string e1,.slice p1 l1 q1,.slice p2 l2 q2] 108)).alloc (.cells #[.int .i64 k3,.int .i64 m3,.string t3,.string e3,.slice p3 l3 q3,.slice p4 l4 q4] 108)).alloc (.cells #[.int .i64 7,.int .i64 0,.string s,.string ⟨#[]⟩,.slice (some ⟨w.heap.size+1+1+1,0,none⟩) 2 2,.slice none 0 0] 108)).alloc (.cells #[.int .i64 k1,.int .i64 m1,.string t1,.string e1,.slice p1 l1 q1,.slice p2 l2 q2,.int .i64 k3,.int .i64 m3,.string t3,.string e3,.slice p3 l3 q3,.slice p4 l4 q4] 108)).heap.size/\(a ∈ f1\/a ∈ f2\/w.heap.size<=a):=λa ha=>by
  rw [S4]
  rcases List.mem_cons.1 ha with rfl | h
  . exact ⟨by omega,.inr (.inr (by omega))⟩
  . rcases List.mem_append.1 h with h | h
    . exact ⟨by have:=h1.lt _ h;omega,.inl h⟩
    . exact ⟨by have:=h2.lt _ h;omega,.inr (.inl h)⟩
 have Z4:Blk ((((w.alloc (.cells #[.int .i64 k1,.int .i64 m1,.string t1,.string e1,.slice p1 l1 q1,.slice p2 l2 q2] 108)).alloc (.cells #[.int .i64 k3,.int .i64 m3,.string t3,.string e3,.slice p3 l3 q3,.slice p4 l4 q4] 108)).alloc (.cells #[.int .i64 7,.int .i64 0,.string s,.string ⟨#[]⟩,.slice (some ⟨w.heap.size+1+1+1,0,none⟩) 2 2,.slice none 0 0] 108)).alloc (.cells #[.int .i64 k1,.int .i64 m1,.string t1,.string e1,.slice p1 l1 q1,.slice p2 l2 q2,.int .i64 k3,.int .i64 m3,.string t3,.string e3,.slice p3 l3 q3,.slice p4 l4 q4] 108)) (w.heap.size+1+1) #[.int .i64 7,.int .i64 0,.string s,.string ⟨#[]⟩,.slice (some ⟨w.heap.size+1+1+1,0,none⟩) 2 2,.slice none 0 0] 108:=by
  have:=(Blk.new (w:=(w.alloc (.cells #[.int .i64 k1,.int .i64 m1,.string t1,.string e1,.slice p1 l1 q1,.slice p2 l2 q2] 108)).alloc (.cells #[.int .i64 k3,.int .i64 m3,.string t3,.string e3,.slice p3 l3 q3,.slice p4 l4 q4] 108)) (cs:=#[.int .i64 7,.int .i64 0,.string s,.string ⟨#[]⟩,.slice (some ⟨w.heap.size+1+1+1,0,none⟩) 2 2,.slice none 0 0]) (t:=108)).alloc (o:=(.cells #[.int .i64 k1,.int .i64 m1,.string t1,.string e1,.slice p1 l1 q1,.slice p2 l2 q2,.int .i64 k3,.int .i64 m3,.string t3,.string e3,.slice p3 l3 q3,.slice p4 l4 q4] 108));simp only [Zg] at this;exact this
 have XT:=OXT.mk (k:=7) (n:=0) (t:=s) (m:=bs []) (f2:=[]) (Zi (by omega) (by omega)) (Zi (by omega) (by omega)) hs ZA TW Zy.empty;rw [List.append_nil] at XT;have FIN:Hid (Bz w ((((w.alloc (.cells #[.int .i64 k1,.int .i64 m1,.string t1,.string e1,.slice p1 l1 q1,.slice p2 l2 q2] 108)).alloc (.cells #[.int .i64 k3,.int .i64 m3,.string t3,.string e3,.slice p3 l3 q3,.slice p4 l4 q4] 108)).alloc (.cells #[.int .i64 7,.int .i64 0,.string s,.string ⟨#[]⟩,.slice (some ⟨w.heap.size+1+1+1,0,none⟩) 2 2,.slice none 0 0] 108)).alloc (.cells #[.int .i64 k1,.int .i64 m1,.string t1,.string e1,.slice p1 l1 q1,.slice p2 l2 q2,.int .i64 k3,.int .i64 m3,.string t3,.string e3,.slice p3 l3 q3,.slice p4 l4 q4] 108))/\Blk ((((w.alloc (.cells #[.int .i64 k1,.int .i64 m1,.string t1,.string e1,.slice p1 l1 q1,.slice p2 l2 q2] 108)).alloc (.cells #[.int .i64 k3,.int .i64 m3,.string t3,.string e3,.slice p3 l3 q3,.slice p4 l4 q4] 108)).alloc (.cells #[.int .i64 7,.int .i64 0,.string s,.string ⟨#[]⟩,.slice (some ⟨w.heap.size+1+1+1,0,none⟩) 2 2,.slice none 0 0] 108)).alloc (.cells #[.int .i64 k1,.int .i64 m1,.string t1,.string e1,.slice p1 l1 q1,.slice p2 l2 q2,.int .i64 k3,.int .i64 m3,.string t3,.string e3,.slice p3 l3 q3,.slice p4 l4 q4] 108)) (w.heap.size+1+1) #[.int .i64 7,.int .i64 0,.string s,.string ⟨#[]⟩,.slice (some ⟨w.heap.size+1+1+1,0,none⟩) 2 2,.slice none 0 0] 108/\OXT ((((w.alloc (.cells #[.int .i64 k1,.int .i64 m1,.string t1,.string e1,.slice p1 l1 q1,.slice p2 l2 q2] 108)).alloc (.cells #[.int .i64 k3,.int .i64 m3,.string t3,.string e3,.slice p3 l3 q3,.slice p4 l4 q4] 108)).alloc (.cells #[.int .i64 7,.int .i64 0,.string s,.string ⟨#[]⟩,.slice (some ⟨w.heap.size+1+1+1,0,none⟩) 2 2,.slice none 0 0] 108)).alloc (.cells #[.int .i64 k1,.int .i64 m1,.string t1,.string e1,.slice p1 l1 q1,.slice p2 l2 q2,.int .i64 k3,.int .i64 m3,.string t3,.string e3,.slice p3 l3 q3,.slice p4 l4 q4] 108)) [.int .i64 7,.int .i64 0,.string s,.string ⟨#[]⟩,.slice (some ⟨w.heap.size+1+1+1,0,none⟩) 2 2,.slice none 0 0] (opE s.data.toList x y) ((w.heap.size+1+1+1) :: (f1 ++ f2))/\((w.heap.size+1+1+1) :: (f1 ++ f2)).Nodup/\∀ a ∈ ((w.heap.size+1+1+1) :: (f1 ++ f2)),a<((((w.alloc (.cells #[.int .i64 k1,.int .i64 m1,.string t1,.string e1,.slice p1 l1 q1,.slice p2 l2 q2] 108)).alloc (.cells #[.int .i64 k3,.int .i64 m3,.string t3,.string e3,.slice p3 l3 q3,.slice p4 l4 q4] 108)).alloc (.cells #[.int .i64 7,.int .i64 0,.string s,.string ⟨#[]⟩,.slice (some ⟨w.heap.size+1+1+1,0,none⟩) 2 2,.slice none 0 0] 108)).alloc (.cells #[.int .i64 k1,.int .i64 m1,.string t1,.string e1,.slice p1 l1 q1,.slice p2 l2 q2,.int .i64 k3,.int .i64 m3,.string t3,.string e3,.slice p3 l3 q3,.slice p4 l4 q4] 108)).heap.size/\(a ∈ f1\/a ∈ f2\/w.heap.size<=a)):=⟨B4,Z4,by unfold opE;rw [HB.out];exact XT,N12,R12⟩;clear T1 T2 h1 h2 TW XT B3 B4 Z4 N12 R12 hsz S4;go_enter func133,ntmps133;go_wp2_with fail;refine bodyPost_ret (results_cell_row (by rfl) _ _ (w.heap.size+1+1) 108 _ (0,0) _ (by rfl) FIN.out.2.1 underlying108 rfl (by kernel_rfl)) rfl ?_;exact ⟨FIN.out.1,_,_,rfl,FIN.out.2.2⟩
theorem Ze2 {ts:List Tok} (hT:TsOk ts) {n:Nat} {E:St->Ex × St} (hB:PIs ts 75 n (λst=>pSome ts E (takeS ts st [40]) [41])) (hG:ZV ts E) (w:World) (rb:Nat) (lp:Option Addr) (cap i:Nat) (hp:RdAt w rb lp cap ts i) (hi:i<=ts.length) (hn:ts.length - i<n+1) (hk:isK ts (i,false) 0=true) :
 Calls prog 162 #[.pointer (some ⟨rb,0,none⟩)] w (Rd ts rb lp cap w (pName ts E (i,false)).2 (ExK w (pName ts E (i,false)).1)):=by
 have hlen:=hT.len;have hwb:=hp.lt;have hne:w.heap.size≠rb:=(by omega);obtain ⟨hil,-⟩:=Zbs hk;simp only at hil;have P0:Hid (RdAt (w.alloc (.cells #[.int .i64 0,.int .i64 0,.string ⟨#[]⟩,.string ⟨#[]⟩,.slice none 0 0,.slice none 0 0] 108)) rb lp cap ts i):=hp.next ((sqN _ _));have R0:Hid (Blk (w.alloc (.cells #[.int .i64 0,.int .i64 0,.string ⟨#[]⟩,.string ⟨#[]⟩,.slice none 0 0,.slice none 0 0] 108)) w.heap.size #[.int .i64 0,.int .i64 0,.string ⟨#[]⟩,.string ⟨#[]⟩,.slice none 0 0,.slice none 0 0] 108):=Blk.new;have O0:Hid (Off [rb] w (w.alloc (.cells #[.int .i64 0,.int .i64 0,.string ⟨#[]⟩,.string ⟨#[]⟩,.slice none 0 0,.slice none 0 0] 108))):=Off.of_below ((sqN _ _));have S0:Hid (w.heap.size<(w.alloc (.cells #[.int .i64 0,.int .i64 0,.string ⟨#[]⟩,.string ⟨#[]⟩,.slice none 0 0,.slice none 0 0] 108)).heap.size):=(by show _<_;rw [Zg];omega);have HB:=hid hB;have HG:=hid hG;have HA:atomP ts (i,false)=(ZaP ts i,(i+1,false)):=(by unfold atomP;rw [hk];rfl);obtain ⟨tx,htx⟩:∃ tx,tx=bs (ZaP ts i):=⟨_,rfl⟩;have HTX:Hid (okS tx):=(by show okS tx;rw [htx];exact Zah (ZcX hT i))
 have NM:Hid (∀ w1,RdAt w1 rb lp cap ts i->Calls prog 41 #[.pointer (some ⟨rb,0,none⟩)] w1 (Rd ts rb lp cap w1 (i+1,false) λv _=>v=.string tx)):=λw1 h1=>by
  have:=Zb3 w1 rb lp cap ts i h1 hi hlen;rw [HA,<-htx] at this;exact this
 obtain ⟨RES,hRES⟩:∃ RES,RES=pName ts E (i,false):=⟨_,rfl⟩;rw [<-hRES];have SG:Hid (∀ w1,RdAt w1 rb lp cap ts (i+1)->Calls prog 73 #[.pointer (some ⟨rb,0,none⟩),.string ⟨#[58]⟩] w1 λe w'=>e=.returned (.bool (isS ts ((i+1),false) [58]))/\RdAt w' rb lp cap ts (if isS ts ((i+1),false) [58] then (i+1)+1 else (i+1))/\Off [rb] w1 w'):=λw1 h1=>ZZ w1 rb lp cap ts (i+1) ⟨#[58]⟩ h1 hil hlen (by simp);clear hB hG hp
 cases hc:isS ts (i+1,false) [58] with
 | true =>
  rw [hc] at SG;obtain ⟨hl2,-⟩:=ZM hc;simp only at hl2
  have HH:ZaY ts (i,false)=((atomP ts (i+2,false)).1,ZaP ts i,if isS ts (atomP ts (i+2,false)).2 [40] then (atomP ts (i+2,false)).2 else worse (atomP ts (i+2,false)).2):=by
   unfold ZaY;rw [HA];simp only [hc,if_true]
   rfl
  have NN:Hid (∀ w1,RdAt w1 rb lp cap ts (i+2)->Calls prog 41 #[.pointer (some ⟨rb,0,none⟩)] w1 (Rd ts rb lp cap w1 (atomP ts (i+2,false)).2 λv _=>v=.string (bs (atomP ts (i+2,false)).1))):=λw1 h1=>Zb3 w1 rb lp cap ts (i+2) h1 hl2 hlen;have hg1:=(Z9 ts (i+2,false)).ge;have hg2:=(Z9 ts (i+2,false)).le hl2;have hal:=ZaK hT (i+2,false);generalize hX:atomP ts (i+2,false)=X at *;obtain ⟨nl,j1,b1⟩:=X;obtain ⟨nm,hnm⟩:∃ nm,nm=bs nl:=⟨_,rfl⟩;simp only at hg1 hg2 hal HH NN;have HNM:Hid (okS nm):=(by show okS nm;rw [hnm];exact Zah hal)
  have HB1:Hid (b1=true->RES.2=(j1,true)):=λe=>by
   subst e;rw [hRES];unfold pName;rw [HH];simp [ZaA,worse]
  have HY2:Hid (b1=false->((pSome ts E (takeS ts (j1,false) [40]) [41]).2.2=true->RES.2=(pSome ts E (takeS ts (j1,false) [40]) [41]).2)/\((pSome ts E (takeS ts (j1,false) [40]) [41]).2.2=false->RES=(.mk 8 0 nm tx (pSome ts E (takeS ts (j1,false) [40]) [41]).1 [],(pSome ts E (takeS ts (j1,false) [40]) [41]).2))):=λe=>by
   subst e
   cases h4:isS ts (j1,false) [40] with
   | true =>
    have h5:takeS ts (j1,false) [40]=adv (j1,false):=by unfold takeS;rw [h4];rfl
    have h6:RES=(.mk 8 0 nm tx (pSome ts E (adv (j1,false)) [41]).1 [],(pSome ts E (adv (j1,false)) [41]).2):=by
     rw [hRES,hnm,htx];unfold pName;rw [HH];simp only [h4,if_true]
    rw [h5];exact ⟨λ_=>by rw [h6],λ_=>h6⟩
   | false =>
    have h5:takeS ts (j1,false) [40]=(j1,true):=(by unfold takeS;rw [h4];rfl);have h7:(pSome ts E (j1,true) [41]).2=(j1,true):=(Zax HG.out (j1,true) [41]).bad rfl
    have h6:RES.2=(j1,true):=by
     rw [hRES];unfold pName;rw [HH];simp [h4,worse,ZaA]
    rw [h5];exact ⟨λ_=>by rw [h6,h7],λh=>by rw [h7] at h;cases h⟩
  rw [<-hnm] at NN;clear hRES HH hX htx hnm HA hk hc hal;have hj:j1<=ts.length:=hg2;go_enter func162,ntmps162;go_wp2_with fail;refine (NM.out _ P0.out).mono ?_;rintro e w1 hr;obtain ⟨v,rfl,hp1,rfl⟩:=hr.ok rfl;have P1:=hid hp1;have O1:=hid (O0.out.trans hr.off);have R1:=hid (R0.out.off hr.off hne);have S1:=hid (Nat.lt_of_lt_of_le S0.out hr.off.size);clear hr hp1 P0 O0 R0 S0;go_wp2_with fail;refine (SG.out _ P1.out).mono ?_;rintro e w2 ⟨rfl,hp2,ho2⟩;have P2:=hid hp2;have O2:=hid (O1.out.trans ho2);have R2:=hid (R1.out.off ho2 hne);have S2:=hid (Nat.lt_of_lt_of_le S1.out ho2.size);clear hp2 ho2 P1 O1 R1 S1;go_wp2_with fail;refine (NN.out _ P2.out).mono ?_;rintro e w3 hr
  cases b1 with
  | true =>
   obtain rfl:=hr.bad rfl;refine ⟨rfl,?_⟩;exact hr.fail O2.out rfl (HB1.out rfl)
  | false =>
   obtain ⟨v,rfl,hp3,rfl⟩:=hr.ok rfl;have P3:=hid hp3;have O3:=hid (O2.out.trans hr.off);have R3:=hid (R2.out.off hr.off hne);have S3:=hid (Nat.lt_of_lt_of_le S2.out hr.off.size);have HZ:Hid _:=HY2.out rfl;clear hr hp3 P2 O2 R2 S2 HY2 HB1 NN NM SG;have CB:Hid (∀ w1,RdAt w1 rb lp cap ts j1->Calls prog 75 #[.pointer (some ⟨rb,0,none⟩)] w1 (Rd ts rb lp cap w1 (pSome ts E (takeS ts (j1,false) [40]) [41]).2 (RoK w1 (pSome ts E (takeS ts (j1,false) [40]) [41]).1))):=λw1 h1=>HB.out w1 rb lp cap j1 h1 hj (by omega);generalize pSome ts E (takeS ts (j1,false) [40]) [41]=SB at *;obtain ⟨kl,j2,b2⟩:=SB;have hwb3:=P3.out.lt;go_wp2_with fail;refine (CB.out _ P3.out).mono ?_;rintro e w8 hr
   cases b2 with
   | true =>
    obtain rfl:=hr.bad rfl;refine ⟨rfl,?_⟩;exact hr.fail O3.out rfl (HZ.out.1 rfl)
   | false =>
    obtain ⟨v,rfl,hp8,hk⟩:=hr.ok rfl;have HY:=hid (HZ.out.2 rfl);have O8:=hid (O3.out.trans hr.off);have P8:=hid hp8;have R8:=hid (R3.out.off hr.off hne);obtain ⟨kp,kc,rfl,-,-⟩:=hk.shape;obtain ⟨kf,kr,knd,krg,-,-⟩:=Zh.done hk;have cR0:w8.cell? ⟨w.heap.size,0,none⟩=some (.int .i64 0):=R8.out.cell 0 _ rfl;have zR0:=R8.out.frozen 0;have cR1:w8.cell? ⟨w.heap.size,1,none⟩=some (.int .i64 0):=R8.out.cell 1 _ rfl;have zR1:=R8.out.frozen 1;have cR2:w8.cell? ⟨w.heap.size,2,none⟩=some (.string ⟨#[]⟩):=R8.out.cell 2 _ rfl;have zR2:=R8.out.frozen 2;have cR3:w8.cell? ⟨w.heap.size,3,none⟩=some (.string ⟨#[]⟩):=R8.out.cell 3 _ rfl;have zR3:=R8.out.frozen 3;have cR4:w8.cell? ⟨w.heap.size,4,none⟩=some (.slice none 0 0):=R8.out.cell 4 _ rfl;have zR4:=R8.out.frozen 4;have cR5:w8.cell? ⟨w.heap.size,5,none⟩=some (.slice none 0 0):=R8.out.cell 5 _ rfl;have zR5:=R8.out.frozen 5;clear hr hp8 hk;go_wp2_with fail;have hon:=Zo (b:=w.heap.size) (w:=w8) (c0:=.int .i64 8) (c1:=.int .i64 0) (c2:=.string nm) (c3:=.string tx) (c4:=.slice kp kl.length kc) (c5:=.slice none 0 0);have hbk:=Zx R8.out (.int .i64 8) (.int .i64 0) (.string nm) (.string tx) (.slice kp kl.length kc) (.slice none 0 0);refine bodyPost_ret (v:=.agg #[.int .i64 8,.int .i64 0,.string nm,.string tx,.slice kp kl.length kc,.slice none 0 0]) (results_cell_row (by rfl) _ _ w.heap.size 108 _ (0,0) _ (by rfl) hbk underlying108 rfl (by kernel_rfl)) rfl ?_;rw [HY.out];exact ⟨O8.out.only hon (sqR _),λ_=>⟨_,rfl,P8.out.only hon hwb,_,kf,rfl,OXT.only (by have:=OXT.mk (k:=8) (n:=0) (t:=nm) (m:=tx) (f2:=[]) (Zi (by omega) (by omega)) (Zi (by omega) (by omega)) HNM.out HTX.out kr Zy.empty;rw [List.append_nil] at this;exact this) hon (λha=>by have:=krg _ ha;have:=S3.out;omega),knd,λa ha=>⟨by have:=krg a ha;have:=S3.out;omega,by have:=krg a ha;have:=hon.size;omega⟩⟩,λe=>(by cases e)⟩
 | false =>
  rw [hc] at SG
  have HH:ZaY ts (i,false)=(ZaP ts i,[],(i+1,false)):=by
   unfold ZaY;rw [HA];simp only [hc]
   rfl
  have AH:Hid (∀ w1,RdAt w1 rb lp cap ts (i+1)->Calls prog 112 #[.pointer (some ⟨rb,0,none⟩),.int .i64 3,.string ⟨#[40]⟩] w1 λe w'=>e=.returned (.bool (isS ts (i+1,false) [40]))/\Bz w1 w'):=λw1 h1=>by
   rw [<-Zc3];exact ZdX w1 rb lp cap ts (i+1) 3 ⟨#[40]⟩ h1 hil hlen (by simp)
  cases hd:isS ts (i+1,false) [40] with
  | true =>
   rw [hd] at AH;have h5:takeS ts (i+1,false) [40]=adv (i+1,false):=(by unfold takeS;rw [hd];rfl)
   have h6:RES=(.mk 8 0 tx ⟨#[]⟩ (pSome ts E (takeS ts (i+1,false) [40]) [41]).1 [],(pSome ts E (takeS ts (i+1,false) [40]) [41]).2):=by
    rw [hRES,htx,h5];unfold pName;rw [HH];simp only [hd,if_true]
    rfl
   have HZ:Hid (((pSome ts E (takeS ts (i+1,false) [40]) [41]).2.2=true->RES.2=(pSome ts E (takeS ts (i+1,false) [40]) [41]).2)/\((pSome ts E (takeS ts (i+1,false) [40]) [41]).2.2=false->RES=(.mk 8 0 tx ⟨#[]⟩ (pSome ts E (takeS ts (i+1,false) [40]) [41]).1 [],(pSome ts E (takeS ts (i+1,false) [40]) [41]).2))):=⟨λ_=>by rw [h6],λ_=>h6⟩;have hj:i+1<=ts.length:=hil;clear hRES HH h6 h5 htx HA hk hc hd;go_enter func162,ntmps162;go_wp2_with fail;refine (NM.out _ P0.out).mono ?_;rintro e w1 hr;obtain ⟨v,rfl,hp1,rfl⟩:=hr.ok rfl;have P1:=hid hp1;have O1:=hid (O0.out.trans hr.off);have R1:=hid (R0.out.off hr.off hne);have S1:=hid (Nat.lt_of_lt_of_le S0.out hr.off.size);clear hr hp1 P0 O0 R0 S0;go_wp2_with fail;refine (SG.out _ P1.out).mono ?_;rintro e w2 ⟨rfl,hp2,ho2⟩;have P2:=hid hp2;have O2:=hid (O1.out.trans ho2);have R2:=hid (R1.out.off ho2 hne);have S2:=hid (Nat.lt_of_lt_of_le S1.out ho2.size);clear hp2 ho2 P1 O1 R1 S1;go_wp2_with fail;refine (AH.out _ P2.out).mono ?_;rintro e w3 ⟨rfl,hb⟩;have P3:=hid (P2.out.next hb);have O3:=hid (O2.out.trans (Off.of_below hb));have R3:=hid (R2.out.next hb);have S3:=hid (Nat.lt_of_lt_of_le S2.out hb.size);clear hb P2 O2 R2 S2 AH NM SG;have CB:Hid (∀ w1,RdAt w1 rb lp cap ts (i+1)->Calls prog 75 #[.pointer (some ⟨rb,0,none⟩)] w1 (Rd ts rb lp cap w1 (pSome ts E (takeS ts ((i+1),false) [40]) [41]).2 (RoK w1 (pSome ts E (takeS ts ((i+1),false) [40]) [41]).1))):=λw1 h1=>HB.out w1 rb lp cap (i+1) h1 hj (by omega);generalize pSome ts E (takeS ts ((i+1),false) [40]) [41]=SB at *;obtain ⟨kl,j2,b2⟩:=SB;have hwb3:=P3.out.lt;go_wp2_with fail;refine (CB.out _ P3.out).mono ?_;rintro e w8 hr
   cases b2 with
   | true =>
    obtain rfl:=hr.bad rfl;refine ⟨rfl,?_⟩;exact hr.fail O3.out rfl (HZ.out.1 rfl)
   | false =>
    obtain ⟨v,rfl,hp8,hk⟩:=hr.ok rfl;have HY:=hid (HZ.out.2 rfl);have O8:=hid (O3.out.trans hr.off);have P8:=hid hp8;have R8:=hid (R3.out.off hr.off hne);obtain ⟨kp,kc,rfl,-,-⟩:=hk.shape;obtain ⟨kf,kr,knd,krg,-,-⟩:=Zh.done hk;have cR0:w8.cell? ⟨w.heap.size,0,none⟩=some (.int .i64 0):=R8.out.cell 0 _ rfl;have zR0:=R8.out.frozen 0;have cR1:w8.cell? ⟨w.heap.size,1,none⟩=some (.int .i64 0):=R8.out.cell 1 _ rfl;have zR1:=R8.out.frozen 1;have cR2:w8.cell? ⟨w.heap.size,2,none⟩=some (.string ⟨#[]⟩):=R8.out.cell 2 _ rfl;have zR2:=R8.out.frozen 2;have cR3:w8.cell? ⟨w.heap.size,3,none⟩=some (.string ⟨#[]⟩):=R8.out.cell 3 _ rfl;have zR3:=R8.out.frozen 3;have cR4:w8.cell? ⟨w.heap.size,4,none⟩=some (.slice none 0 0):=R8.out.cell 4 _ rfl;have zR4:=R8.out.frozen 4;have cR5:w8.cell? ⟨w.heap.size,5,none⟩=some (.slice none 0 0):=R8.out.cell 5 _ rfl;have zR5:=R8.out.frozen 5;clear hr hp8 hk;go_wp2_with fail;have hon:=Zo (b:=w.heap.size) (w:=w8) (c0:=.int .i64 8) (c1:=.int .i64 0) (c2:=.string tx) (c3:=.string ⟨#[]⟩) (c4:=.slice kp kl.length kc) (c5:=.slice none 0 0);have hbk:=Zx R8.out (.int .i64 8) (.int .i64 0) (.string tx) (.string ⟨#[]⟩) (.slice kp kl.length kc) (.slice none 0 0);refine bodyPost_ret (v:=.agg #[.int .i64 8,.int .i64 0,.string tx,.string ⟨#[]⟩,.slice kp kl.length kc,.slice none 0 0]) (results_cell_row (by rfl) _ _ w.heap.size 108 _ (0,0) _ (by rfl) hbk underlying108 rfl (by kernel_rfl)) rfl ?_;rw [HY.out];exact ⟨O8.out.only hon (sqR _),λ_=>⟨_,rfl,P8.out.only hon hwb,_,kf,rfl,OXT.only (by have:=OXT.mk (k:=8) (n:=0) (t:=tx) (m:=⟨#[]⟩) (f2:=[]) (Zi (by omega) (by omega)) (Zi (by omega) (by omega)) HTX.out ZA kr Zy.empty;rw [List.append_nil] at this;exact this) hon (λha=>by have:=krg _ ha;have:=S3.out;omega),knd,λa ha=>⟨by have:=krg a ha;have:=S3.out;omega,by have:=krg a ha;have:=hon.size;omega⟩⟩,λe=>(by cases e)⟩
  | false =>
   rw [hd] at AH
   have HY:Hid (RES=(.mk 1 0 tx ⟨#[]⟩ [] [],(i+1,false))):=by
    show _=_;rw [hRES,htx];unfold pName;rw [HH];simp only [hd]
    rfl
   clear hRES HH htx HA hk hc hd;go_enter func162,ntmps162;go_wp2_with fail;refine (NM.out _ P0.out).mono ?_;rintro e w1 hr;obtain ⟨v,rfl,hp1,rfl⟩:=hr.ok rfl;have P1:=hid hp1;have O1:=hid (O0.out.trans hr.off);have R1:=hid (R0.out.off hr.off hne);clear hr hp1 P0 O0 R0 S0;go_wp2_with fail;refine (SG.out _ P1.out).mono ?_;rintro e w2 ⟨rfl,hp2,ho2⟩;have P2:=hid hp2;have O2:=hid (O1.out.trans ho2);have R2:=hid (R1.out.off ho2 hne);clear hp2 ho2 P1 O1 R1;go_wp2_with fail;refine (AH.out _ P2.out).mono ?_;rintro e w3 ⟨rfl,hb⟩;have P3:=hid (P2.out.next hb);have O3:=hid (O2.out.trans (Off.of_below hb));have R3:=hid (R2.out.next hb);clear hb P2 O2 R2 AH NM SG;have cR0:w3.cell? ⟨w.heap.size,0,none⟩=some (.int .i64 0):=R3.out.cell 0 _ rfl;have zR0:=R3.out.frozen 0;have cR1:w3.cell? ⟨w.heap.size,1,none⟩=some (.int .i64 0):=R3.out.cell 1 _ rfl;have zR1:=R3.out.frozen 1;have cR2:w3.cell? ⟨w.heap.size,2,none⟩=some (.string ⟨#[]⟩):=R3.out.cell 2 _ rfl;have zR2:=R3.out.frozen 2;have cR3:w3.cell? ⟨w.heap.size,3,none⟩=some (.string ⟨#[]⟩):=R3.out.cell 3 _ rfl;have zR3:=R3.out.frozen 3;have cR4:w3.cell? ⟨w.heap.size,4,none⟩=some (.slice none 0 0):=R3.out.cell 4 _ rfl;have zR4:=R3.out.frozen 4;have cR5:w3.cell? ⟨w.heap.size,5,none⟩=some (.slice none 0 0):=R3.out.cell 5 _ rfl;have zR5:=R3.out.frozen 5;go_wp2_with fail;have hon:=Zo (b:=w.heap.size) (w:=w3) (c0:=.int .i64 1) (c1:=.int .i64 0) (c2:=.string tx) (c3:=.string ⟨#[]⟩) (c4:=.slice none 0 0) (c5:=.slice none 0 0);have hbk:=Zx R3.out (.int .i64 1) (.int .i64 0) (.string tx) (.string ⟨#[]⟩) (.slice none 0 0) (.slice none 0 0);refine bodyPost_ret (v:=.agg #[.int .i64 1,.int .i64 0,.string tx,.string ⟨#[]⟩,.slice none 0 0,.slice none 0 0]) (results_cell_row (by rfl) _ _ w.heap.size 108 _ (0,0) _ (by rfl) hbk underlying108 rfl (by kernel_rfl)) rfl ?_;rw [HY.out];exact ⟨O3.out.only hon (sqR _),λ_=>⟨_,rfl,P3.out.only hon hwb,_,[],rfl,OXT.only (OXT.leaf (Zi (by omega) (by omega)) (Zi (by omega) (by omega)) HTX.out ZA) hon (by simp),List.nodup_nil,λa ha=>by simp at ha⟩,λe=>(by cases e)⟩
theorem ZfA (ts:List Tok) (i:Nat) (s:List UInt8):theP ts (i,false) s=ZcI ts i 0 s:=by
 unfold theP ZcI hit isK ZaP
 cases ts[i]? <;> rfl
theorem ZdB (ts:List Tok) (i:Nat) (s:List UInt8):theP ts (i,true) s=(i,true):=by unfold theP;rw [ZfT];rfl
theorem Zig (ts:List Tok) (i:Nat):(atomP ts (i,true)).2=(i,true):=by unfold atomP;rw [ZfT];rfl
theorem Zg2 (ts:List Tok) (i:Nat):(numP ts (i,true)).2=(i,true):=by unfold numP;rw [ZfT];rfl
theorem Zco (w:World) (rb:Nat) (lp:Option Addr) (cap:Nat) (ts:List Tok) (i:Nat) (s:ByteArray) (h:RdAt w rb lp cap ts i) (hi:i<=ts.length) (hl:ts.length<=4000) (hs:s.data.toList≠[]) :
 Calls prog 40 #[.pointer (some ⟨rb,0,none⟩),.string s] w (Rd ts rb lp cap w (takeS ts (theP ts (takeS ts (i,false) [45]) s.data.toList) [40]) λv _=>v=.tuple #[]):=by
 have NO:=hid (ZW w rb lp cap ts i ⟨#[45]⟩ h hi hl (by simp));have hle1:(takeS ts (i,false) [45]).1<=ts.length:=(Zj ts (i,false) [45]).le hi;generalize takeS ts (i,false) [45]=s1 at *;obtain ⟨j1,b1⟩:=s1;simp only at hle1
 have ND:Hid (∀ w1,RdAt w1 rb lp cap ts j1->Calls prog 71 #[.pointer (some ⟨rb,0,none⟩),.int .i64 0,.string s] w1 (Rd ts rb lp cap w1 (theP ts (j1,false) s.data.toList) λv _=>v=.tuple #[])):=λw1 h1=>by
  rw [ZfA];exact ZgN w1 rb lp cap ts j1 0 s h1 hle1 hl hs
 have hle2:(theP ts (j1,false) s.data.toList).1<=ts.length:=(ZaU ts (j1,false) s.data.toList).le hle1;obtain ⟨RES,hRES⟩:∃ RES,RES=takeS ts (theP ts (j1,b1) s.data.toList) [40]:=⟨_,rfl⟩;rw [<-hRES];clear h
 cases b1 with
 | true =>
  have HY:Hid (RES=(j1,true)):=(by show _=_;rw [hRES,ZdB,ZK]);clear hRES ND hle2 hs;go_enter func40,ntmps40;go_wp2_with fail;refine NO.out.mono ?_;rintro e w1 hr;obtain rfl:=hr.bad rfl;refine ⟨rfl,?_⟩;exact hr.fail (Off.refl _ _) rfl HY.out
 | false =>
  generalize theP ts (j1,false) s.data.toList=s2 at *;obtain ⟨j2,b2⟩:=s2;simp only at hle2;have HR:=hid hRES;have NP:Hid (∀ w1,RdAt w1 rb lp cap ts j2->Calls prog 70 #[.pointer (some ⟨rb,0,none⟩),.slice (some ⟨w1.heap.size,0,none⟩) 1 1] (w1.alloc (.cells #[.string ⟨#[40]⟩] 9)) (Rd ts rb lp cap w1 (takeS ts (j2,false) [40]) λv _=>v=.tuple #[])):=λw1 h1=>ZW w1 rb lp cap ts j2 ⟨#[40]⟩ h1 hle2 hl (by simp);clear hRES hs;go_enter func40,ntmps40;go_wp2_with fail;refine NO.out.mono ?_;rintro e w1 hr;obtain ⟨v,rfl,hp1,rfl⟩:=hr.ok rfl;have P1:=hid hp1;have O1:=hid hr.off;clear hr hp1 NO;go_wp2_with fail;refine (ND.out _ P1.out).mono ?_;rintro e w2 hr
  cases b2 with
  | true =>
   obtain rfl:=hr.bad rfl;refine ⟨rfl,?_⟩;exact hr.fail O1.out rfl (by rw [HR.out,ZK])
  | false =>
   obtain ⟨v,rfl,hp2,rfl⟩:=hr.ok rfl;have P2:=hid hp2;have O2:=hid (O1.out.trans hr.off);have NQ:=hid (NP.out w2 P2.out);generalize takeS ts (j2,false) [40]=s3 at *;obtain ⟨j3,b3⟩:=s3;clear hr hp2 ND NP P1 O1;go_wp2_with fail;refine NQ.out.mono ?_;rintro e w3 hr
   cases b3 with
   | true =>
    obtain rfl:=hr.bad rfl;refine ⟨rfl,?_⟩;exact hr.fail O2.out rfl (by rw [HR.out])
   | false =>
    obtain ⟨v,rfl,hp3,rfl⟩:=hr.ok rfl;have P3:=hid hp3;have O3:=hid (O2.out.trans hr.off);clear hr hp3 NQ;go_wp2;go_end0;rw [HR.out];exact ⟨O3.out,λ_=>⟨_,rfl,P3.out,rfl⟩,λe=>(by cases e)⟩
theorem Zb4 (w:World) (rb:Nat) (lp:Option Addr) (cap:Nat) (ts:List Tok) (i:Nat) (h:RdAt w rb lp cap ts i) (hi:i<=ts.length) (hl:ts.length<=4000) :
 Calls prog 42 #[.pointer (some ⟨rb,0,none⟩)] w (Rd ts rb lp cap w (takeS ts (takeS ts (i,false) [41]) [46]) λv _=>v=.tuple #[]):=by
 have hwb:=h.lt;have KA:Bz w (w.alloc (.cells #[.string ⟨#[41]⟩,.string ⟨#[46]⟩] 9)):=(sqN _ _)
 have NO:Hid (Calls prog 70 #[.pointer (some ⟨rb,0,none⟩),.slice (some ⟨w.heap.size,0,none⟩) 2 2] (w.alloc (.cells #[.string ⟨#[41]⟩,.string ⟨#[46]⟩] 9)) (Rd ts rb lp cap (w.alloc (.cells #[.string ⟨#[41]⟩,.string ⟨#[46]⟩] 9)) (takeS ts (takeS ts (i,false) [41]) [46]) λv _=>v=.tuple #[])) :=
  ZcJ _ rb lp cap ts i w.heap.size 2 [⟨#[41]⟩,⟨#[46]⟩] (h.next KA) hi hl Blk.new (by omega) (λx hx=>by simp only [List.mem_cons,List.not_mem_nil,or_false] at hx;rcases hx with rfl | rfl <;> simp) (by simp)
 have O0:Hid (Off [rb] w (w.alloc (.cells #[.string ⟨#[41]⟩,.string ⟨#[46]⟩] 9))):=Off.of_below KA;generalize takeS ts (takeS ts (i,false) [41]) [46]=s1 at *;obtain ⟨j1,b1⟩:=s1;clear h KA;go_enter func42,ntmps42;go_wp2_with fail;refine NO.out.mono ?_;rintro e w1 hr
 cases b1 with
 | true =>
  obtain rfl:=hr.bad rfl;refine ⟨rfl,?_⟩;exact hr.fail O0.out rfl rfl
 | false =>
  obtain ⟨v,rfl,hp1,rfl⟩:=hr.ok rfl;have P1:=hid hp1;have O1:=hid (O0.out.trans hr.off);clear hr hp1;go_wp2;go_end0;exact ⟨O1.out,λ_=>⟨_,rfl,P1.out,rfl⟩,λe=>(by cases e)⟩
theorem Zii {ts:List Tok} {i:Nat} {k:Int} {s:List UInt8} (hk:k≠3):hit ts i k s=(decide ((lookT ts i).kind=k) && ((lookT ts i).text == s)):=by
 unfold hit lookT
 cases ts[i]? with
 | some t=>rfl
 | none =>
  have:decide ((3:Int)=k)=false:=decide_eq_false (λe=>hk e.symm);simp [this]
theorem Zhs (w:World) (rb:Nat) (lp:Option Addr) (cap:Nat) (ts:List Tok) (i:Nat) (k:Int) (s:ByteArray) (h:RdAt w rb lp cap ts i) (hi:i<=ts.length) (hl:ts.length<=4000) (hs:k≠3) :
 Calls prog 112 #[.pointer (some ⟨rb,0,none⟩),.int .i64 k,.string s] w λe w'=>e=.returned (.bool (hit ts i k s.data.toList))/\Bz w w':=by
 have LK:=hid (Zdy w rb lp cap ts i h hi hl);rw [Zii hs];generalize lookT ts i=T at *;have HB:Hid (((bs T.text).toList == s.toList)=(T.text == s.data.toList)):=ZgA _ _;clear h hi hs;go_enter func112,ntmps112;go_wp2_with fail;refine LK.out.mono ?_;rintro e w1 ⟨rfl,hb⟩;have B1:Hid (Bz w (w1.alloc (.cells #[.int .i64 T.kind,.string (bs T.text),.int .i64 T.n,.int .i64 T.line] 43))):=hb.alloc hb.size _;clear hb LK;by_cases hk:T.kind=k
 . subst hk
   go_wp2;go_ret;exact ⟨by simp [HB.out],B1.out⟩
 . go_wp2_with fail
   go_ret;exact ⟨by simp [hk],B1.out⟩
theorem Zgj (w:World) (rb:Nat) (lp:Option Addr) (cap:Nat) (ts:List Tok) (i:Nat) (k:Int) (s:ByteArray) (h:RdAt w rb lp cap ts i) (hi:i<=ts.length) (hl:ts.length<=4000) (hs:k≠3) :
 Calls prog 99 #[.pointer (some ⟨rb,0,none⟩),.int .i64 k,.string s] w λe w'=>e=.returned (.bool (hit ts i k s.data.toList))/\RdAt w' rb lp cap ts (if hit ts i k s.data.toList then i+1 else i)/\Off [rb] w w':=by
 have AH:=hid (Zhs w rb lp cap ts i k s h hi hl hs);have H:=hid h
 cases hh:hit ts i k s.data.toList with
 | false =>
  rw [hh] at AH;clear h;go_enter func99,ntmps99;go_wp2_with fail;refine AH.out.mono ?_;rintro e w1 ⟨rfl,hb⟩;have FIN:Hid (RdAt w1 rb lp cap ts i/\Off [rb] w w1):=⟨H.out.next hb,Off.of_below hb⟩;clear hb;go_wp2;go_ret;exact ⟨rfl,FIN.out⟩
 | true =>
  have hlt:=ZjB hh;rw [hh] at AH;clear h;go_enter func99,ntmps99;go_wp2_with fail;refine AH.out.mono ?_;rintro e w1 ⟨rfl,hb⟩;have P1:=hid (H.out.next hb);have O1:Hid (Off [rb] w w1):=Off.of_below hb;have x1:w1.cell? ⟨rb,1,none⟩=some (.int .i64 (i:Nat)):=P1.out.blk.cell 1 _ rfl;have f1:=P1.out.blk.frozen 1;have hi2:(i:Int)<4000:=(by omega);clear hb;go_wp2;go_ret;exact ⟨rfl,P1.out.setI (i+1) _ (by go_num),O1.out.trans Off.set1⟩
theorem Zij (w:World) (rb:Nat) (lp:Option Addr) (cap:Nat) (ts:List Tok) (i:Nat) (k:Int) (s:ByteArray) (h:RdAt w rb lp cap ts i) (hi:i<=ts.length) (hl:ts.length<=4000) (hs:k≠3) :
 Calls prog 71 #[.pointer (some ⟨rb,0,none⟩),.int .i64 k,.string s] w (Rd ts rb lp cap w (ZcI ts i k s.data.toList) λv _=>v=.tuple #[]):=by
 have AC:=hid (Zgj w rb lp cap ts i k s h hi hl hs)
 cases hh:hit ts i k s.data.toList with
 | true =>
  rw [hh] at AC;have HN:Hid (ZcI ts i k s.data.toList=(i+1,false)):=(by show _=_;unfold ZcI;rw [hh];rfl);clear h hi hs hh;go_enter func71,ntmps71;go_wp2_with fail;refine AC.out.mono ?_;rintro e w1 ⟨rfl,hp,ho⟩;have FIN:Hid (RdAt w1 rb lp cap ts (i+1)/\Off [rb] w w1):=⟨hp,ho⟩;clear hp ho;go_wp2;go_end0;rw [HN.out];exact ⟨FIN.out.2,λ_=>⟨_,rfl,FIN.out.1,rfl⟩,λe=>(by cases e)⟩
 | false =>
  rw [hh] at AC;have HN:Hid (ZcI ts i k s.data.toList=(i,true)):=(by show _=_;unfold ZcI;rw [hh];rfl);have MF:Hid (∀ w1,RdAt w1 rb lp cap ts i->Calls prog 77 #[.pointer (some ⟨rb,0,none⟩)] w1 λe w'=>e=.returned (.agg #[.int .i64 (misL ts i)])/\Bz w1 w'):=λw1 h1=>ZbG w1 rb lp cap ts i h1 hl;clear h hi hs hh;go_enter func71,ntmps71;go_wp2_with fail;refine AC.out.mono ?_;rintro e w1 ⟨rfl,hp,ho⟩;have H1:=hid hp;have O1:=hid ho;clear hp ho;go_wp2_with fail;refine (MF.out w1 H1.out).mono ?_;rintro e w2 ⟨rfl,hb⟩;have O2:=hid (O1.out.trans (Off.of_below hb));clear hb;go_wp2_with fail;refine ⟨rfl,?_⟩;rw [HN.out];exact ⟨O2.out,λe=>(by cases e),λ_=>rfl⟩
end
end Go.Proofs.YtacioihbhkcdcaaGreatDoor
