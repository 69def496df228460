/- IEntry -/
import Derived.Test.YtjbmgghehdemdaaGreatDoorMT13
import Derived.Test.YtjbmgghehdemdaaGreatDoorMT10
import Derived.Shelf.Slices.Clone
import Derived.Shelf.Slices.Cells
namespace Go.Proofs.YtjbmgghehdemdaaGreatDoor
set_option maxRecDepth 100000
set_option maxHeartbeats 16000000
open _root_.Go.Proofs.Tryz
open Go.RowKit
theorem Qi (xs:List Value) (es:List Ent) (k:Nat):eu (xs.take k) (es.take k)=(eu xs es).take (k*5):=by
 induction k generalizing xs es with
 | zero=>simp[eu]
 | succ k ih =>
  match xs,es with
  | [],_=>simp[eu]
  | x::xs,[]=>simp[eu]
  | x::xs,e::es =>
   show gm x e.el++eu (xs.take k) (es.take k)=(gm x e.el++eu xs es).take ((k+1)*5)
   have e1:((gm x e.el).take ((k+1)*5))=gm x e.el:=List.take_of_length_le (by show 5≤_;omega);have e2:(k+1)*5-(gm x e.el).length=k*5:=by show (k+1)*5-5=_;omega
   rw[ih xs es,List.take_append,e1,e2]
theorem cn (w:World) (o:Obj):Below w.heap.size w (w.alloc o):=bY _
def ar2 (w:World) (es:List Ent) (l:List Int) (i:Value) (wr:World):Prop:=∃ k:Nat,k≤es.length∧i=.int .i64 k∧mn es l k∧Zel wr w.heap.size∧Below w.heap.size w wr
theorem Yx (w:World) (B B' g cap:Nat) (es:List Ent) (vl:Value) (l:List Int) (hE:ac w B (.slice (some ⟨g,0,none⟩) es.length cap) es) (hL:ab w B' vl l) (hn:es.length≤1048576) (hl:l.length≤1048576) (hr:∀ e ∈ es,e.runes.length≤1048576) :
  Calls prog 168 #[.slice (some ⟨g,0,none⟩) es.length cap,vl] w fun e w'=>e=.returned (fo (dj es l))∧Below w.heap.size w w':=by
 go_enter func168,ntmps168;go_wp2;go_loopw [10] (fun i wr=>ar2 w es l i wr) (fun i _=>es.length-(intOf i).toNat)
 case atStart=>exact⟨0,Nat.zero_le _,rfl,fun j e hj=>by omega,heap_alloc_new _ _,bY _⟩
 case round =>
  obtain⟨k,hk,rfl,a6,hz,hb⟩:=hrel;have HN:Hid (mn es l k):=a6;clear a6;by_cases a9:k<es.length
  .obtain⟨e,he⟩:∃ e,es[k]? = some e:=⟨_,List.getElem?_eq_getElem a9⟩
   obtain⟨x,hI,a0,a1,a2,a3,a4⟩:=(hE.below hb).cells k e he;obtain⟨xa,xn,xc,rfl⟩:∃ xa xn xc,x=.slice xa xn xc:=by
    rcases hI.form with ⟨rfl,_⟩|⟨_,_,rfl,_,_⟩
    .exact⟨_,_,_,rfl⟩
    .exact⟨_,_,_,rfl⟩
   have ae:(k:Int)<(es.length:Int):=by omega
   have ad:=hr e (List.mem_of_getElem? he);have hbr:=(Below.refl wr.heap.size wr).alloc bR (.cells #[.slice xa xn xc,.int .i64 e.el.first,.int .i64 e.el.second,.int .i64 e.el.third,.bool e.el.varies] 117);have a7:=hb.trans (hbr.mono hb.size);have SM:=Jv ad hl (hI.below hbr) ((hL.below hb).below hbr);have HZ:Hid (Zel _ _):=hz.below hbr;have aa:=hz.facts.1;have HE:Hid _:=he;clear he hI hE hL hr hz hbr;go_wp2_with fail;refine SM.mono ?_;rintro e' w2 ⟨rfl,n2,rfl⟩;clear SM a0 a1 a2 a3 a4;by_cases c:e.runes=l
   .have HA:Hid (dj es l=some e.el):=Jt HN.out HE.out c
    have c':decide (e.runes=l)=true:=decide_eq_true c;obtain⟨a5,⟨q0,q1,q2,q3⟩,f0⟩:=HZ.out.facts;have af:=hb.size;clear HN HE c HZ;go_wp2;refine bodyPost_ret (v:=.tuple #[.agg #[.int .i64 e.el.first,.int .i64 e.el.second,.int .i64 e.el.third,.bool e.el.varies],.bool true]) ?_ rfl ⟨Dw HA.out,oz (below_drewN a7 n2) bR _ _ _ _⟩;rw[results_cell_tmp rfl];go_simp
   .have a8:Hid (mn es l (k+1)):=HN.out.succ HE.out c
    have c':decide (e.runes=l)=false:=decide_eq_false c;clear HN HE c;go_wp2;exact⟨⟨k+1,by omega,by go_num,a8.out,HZ.out,below_drewN a7 n2⟩,by simp[intOf];omega⟩
  .have HA:Hid (dj es l=none):=Hb HN.out (by omega)
   obtain⟨a5,⟨q0,q1,q2,q3⟩,f0⟩:=hz.facts;clear HN hE hr hz;go_wp2;refine bodyPost_ret (v:=.tuple #[.agg #[.int .i64 0,.int .i64 0,.int .i64 0,.bool false],.bool false]) ?_ rfl ⟨mj HA.out,oz hb bR _ _ _ _⟩;rw[results_cell_tmp rfl];go_simp
theorem Ju (w:World) (vl:Value) (l:List Int) :
  Calls prog 168 #[.slice none 0 0,vl] w fun e w'=>e=.returned (fo (dj [] l))∧Below w.heap.size w w':=by
 have HA:Hid (dj [] l=none):=rfl;have hz:Zel (w.alloc (.cells #[.int .i64 0,.int .i64 0,.int .i64 0,.bool false] 111)) w.heap.size:=heap_alloc_new _ _;obtain⟨a0,⟨q0,q1,q2,q3⟩,f0⟩:=hz.facts;clear hz;go_enter func168,ntmps168;go_wp2;go_loop [10] (fun i=>i=.int .i64 0) (fun _=>0)
 case atStart=>rfl
 case round =>
  subst hrel;go_wp2;refine bodyPost_ret (v:=.tuple #[.agg #[.int .i64 0,.int .i64 0,.int .i64 0,.bool false],.bool false]) ?_ rfl ⟨mj HA.out,?_⟩
  .rw[results_cell_tmp rfl]
   go_simp
  .exact cn w _
theorem Ca {w:World} {B B':Nat} {v vl:Value} {es:List Ent} {l:List Int}(hE:ac w B v es) (hL:ab w B' vl l) (hn:es.length≤1048576) (hl:l.length≤1048576) (hr:∀ e ∈ es,e.runes.length≤1048576) :
  Calls prog 168 #[v,vl] w fun e w'=>e=.returned (fo (dj es l))∧Below w.heap.size w w':=by
 rcases hE.form with ⟨rfl,rfl⟩|⟨g,cap,rfl,_,_,_,_⟩
 .exact Ju w vl l
 .exact Yx w B B' g cap es vl l hE hL hn hl hr
theorem ac.take {w:World} {B g cap:Nat} {es:List Ent}(h:ac w B (.slice (some ⟨g,0,none⟩) es.length cap) es) (k:Nat) (hk:k≤es.length):ac w B (.slice (some ⟨g,0,none⟩) k cap) (es.take k):=by
 obtain⟨xs,hl,⟨h1,h2⟩,h3⟩:=h;have a8:(es.take k).length=k:=by rw[List.length_take];omega
 refine⟨xs.take k,by rw[List.length_take,List.length_take,hl],?_,fun i e he=>?_⟩
 .have a0:eu (xs.take k) (es.take k)=(eu xs es).take (k*5):=Qi xs es k
  rcases h2 with ⟨a,b⟩|⟨g',a7,cur,a,b,c,d,e,f,f2⟩
  .cases a
  .refine⟨by rw[Ue _ _ (by rw[List.length_take,List.length_take,hl])],?_⟩
   rw[a8];injection a with a1 a2 a3;injection a1 with a4;injection a4 with a5;subst a5;subst a3;refine .inr ⟨g,cap,cur,rfl,b,c,by omega,e,f,?_⟩;rw[a0,<- f2,List.take_take,Nat.min_eq_left (Nat.mul_le_mul_right 5 hk)]
 .have a6:i<k:=by
   have:=(List.getElem?_eq_some_iff.1 he).1;omega
  rw[List.getElem?_take_of_lt a6]at he;obtain⟨x,hx,hI⟩:=h3 i e he;exact⟨x,by rw[List.getElem?_take_of_lt a6];exact hx,hI⟩
def il (w:World) (v:Value) (l:List Int):Prop :=
 (∃ a c,v=.slice a 0 c∧l=[])∨∃ g f c,v=.slice (some ⟨g,f,none⟩) l.length c∧g<w.heap.size∧∀ j x,l[j]? = some x→w.cell? ⟨g,f+j,none⟩=some (.int .i64 x)
theorem il.below {w w':World} {v:Value} {l:List Int}(h:il w v l) (hb:Below w.heap.size w w'):il w' v l:=by
 rcases h with h|⟨g,f,c,h1,h2,h3⟩
 .exact .inl h
 .exact .inr ⟨g,f,c,h1,Nat.lt_of_lt_of_le h2 hb.size,fun j x hx=>by rw[hb.cell h2];exact h3 j x hx⟩
theorem ab.rowAt {w:World} {B:Nat} {v:Value} {l:List Int}(h:ab w B v l):il w v l:=by
 rcases h.form with ⟨rfl,rfl⟩|⟨g,cap,rfl,_,_⟩
 .exact .inl ⟨_,_,rfl,rfl⟩
 .refine .inr ⟨g,0,cap,rfl,(World.ownsRow.lt h g rfl).2,fun j x hx=>?_⟩
  have hj:=(List.getElem?_eq_some_iff.1 hx).1;rw[Nat.zero_add,h.cell j hj,hx];rfl
theorem il.slice {w:World} {v:Value} {l:List Int}(h:il w v l):∃ a c,v=.slice a l.length c:=by
 rcases h with ⟨a,c,rfl,rfl⟩|⟨g,f,c,rfl,_,_⟩
 .exact⟨_,_,rfl⟩
 .exact⟨_,_,rfl⟩
theorem a97 (w:World) (g g' f cap a0 n:Nat) (za zb:List Int) (ha:za.length=n) (hb:zb.length=n) (hz:n≤1048576)
  (h1:∀ j,j<n→w.cell? ⟨g,j,none⟩=some (.int .i64 (za[j]?.getD 0)))
  (h2:∀ j,j<n→w.cell? ⟨g',f+j,none⟩=some (.int .i64 (zb[j]?.getD 0))) :
  Calls prog 190 #[.slice (some ⟨g,0,none⟩) n cap,.slice (some ⟨g',f,none⟩) n a0] w fun e w'=>e=.returned (.bool (decide (za=zb)))∧∃ n,w'=w.drewN n:=by
 go_enter func190,ntmps190;go_wp2;go_loopw [13] (fun i wr=>∃ k nq:Nat,k≤n∧i=.int .i64 k∧wr=w.drewN nq∧Hid (Dh za zb k)) (fun i _=>n-(intOf i).toNat)
 case atStart=>exact⟨0,0,Nat.zero_le _,rfl,rfl,fun j hj=>by omega⟩
 case round =>
  obtain⟨k,nq,hk,rfl,rfl,HS⟩:=hrel;by_cases a1:k<n
  .obtain⟨x,hx⟩:∃ x,za[k]? = some x:=⟨_,List.getElem?_eq_getElem (by omega)⟩
   obtain⟨y,hy⟩:∃ y,zb[k]? = some y:=⟨_,List.getElem?_eq_getElem (by omega)⟩
   have g1:=h1 k a1;have g2:=h2 k a1;rw[hx]at g1;rw[hy]at g2;have e1:w.cell? ⟨g,k,none⟩=some (.int .i64 x):=g1;have e2:w.cell? ⟨g',f+k,none⟩=some (.int .i64 y):=g2;have a4:(k:Int)<(n:Int):=by omega
   have HX:Hid _:=hx;have HY:Hid _:=hy;have HA:Hid _:=ha;have HB:Hid _:=hb;clear h1 h2 g1 g2 hx hy ha hb;by_cases e:x=y
   .subst e
    have a2:Hid (Dh za zb (k+1)):=by
     intro j hj;by_cases e:j=k
     .subst e;rw[HX.out,HY.out]
     .exact HS.out j (by omega)
    go_wp2;go_quiet (fail)
    go_wp2;exact⟨⟨k+1,_,by omega,by go_num,rfl,a2⟩,by simp[intOf];omega⟩
   .have a3:(x != y)=true:=by simpa using e
    have HN:Hid (false=decide (za=zb)):=by
     refine (decide_eq_false fun h=>e ?_).symm;have:=HX.out;rw[h,HY.out]at this;exact (Option.some.inj this).symm
    clear e;go_wp2;go_quiet (fail)
    go_wp2;go_ret;exact⟨jj HN.out,_,World.drewN_drewN _ _ _⟩
  .have HN:Hid (true=decide (za=zb)):=by
    refine (decide_eq_true ?_).symm;apply List.ext_getElem?
    intro j;by_cases hj:j<k
    .exact HS.out j hj
    .rw[List.getElem?_eq_none (by omega),List.getElem?_eq_none (by omega)]
   have HA:Hid _:=ha;have HB:Hid _:=hb;clear h1 h2 ha hb;go_wp2;go_ret;exact⟨jj HN.out,_,rfl⟩
theorem Qk {w:World} {B:Nat} {a b:Value} {za zb:List Int}(a1:za.length≤1048576) (ha:ab w B a za) (hb:il w b zb) :
  Calls prog 190 #[a,b] w fun e w'=>e=.returned (.bool (decide (za=zb)))∧∃ n,w'=w.drewN n:=by
 by_cases h:za.length=zb.length
 .rcases ha.form with ⟨rfl,rfl⟩|⟨g,cap,rfl,h1,h2⟩
  .have e:zb=[]:=List.eq_nil_of_length_eq_zero (by simpa using h.symm)
   subst e;obtain⟨x,c,rfl⟩:=hb.slice;exact re w _ _ _ _
  .rcases hb with ⟨x,c,rfl,rfl⟩|⟨g',f,c,rfl,_,hc⟩
   .have e:za=[]:=List.eq_nil_of_length_eq_zero (by simpa using h)
    subst e;exact re w _ _ _ _
   .rw[<- h]
    exact a97 w g g' f cap c za.length za zb rfl h.symm a1 (fun j hj=>ha.cell j hj) (fun j hj=>by
     have a0:j<zb.length:=by omega
     rw[hc j zb[j] (List.getElem?_eq_getElem a0),List.getElem?_eq_getElem a0];rfl)
 .have e:decide (za=zb)=false:=decide_eq_false (fun e=>h (by rw[e]))
  rw[e];obtain⟨x,c,rfl⟩:=hb.slice;rcases ha.form with ⟨rfl,rfl⟩|⟨g,cap,rfl,h1,h2⟩
  .exact tw w _ _ _ _ _ _ (by simpa using h)
  .exact tw w _ _ _ _ _ _ h
theorem Qj (w:World) (B g cap:Nat) (es:List Ent) (vl:Value) (l:List Int) (hE:ac w B (.slice (some ⟨g,0,none⟩) es.length cap) es) (hL:il w vl l) (hn:es.length≤1048576) (hr:∀ e ∈ es,e.runes.length≤1048576) :
  Calls prog 168 #[.slice (some ⟨g,0,none⟩) es.length cap,vl] w fun e w'=>e=.returned (fo (dj es l))∧Below w.heap.size w w':=by
 go_enter func168,ntmps168;go_wp2;go_loopw [10] (fun i wr=>ar2 w es l i wr) (fun i _=>es.length-(intOf i).toNat)
 case atStart=>exact⟨0,Nat.zero_le _,rfl,fun j e hj=>by omega,heap_alloc_new _ _,bY _⟩
 case round =>
  obtain⟨k,hk,rfl,a6,hz,hb⟩:=hrel;have HN:Hid (mn es l k):=a6;clear a6;by_cases a9:k<es.length
  .obtain⟨e,he⟩:∃ e,es[k]? = some e:=⟨_,List.getElem?_eq_getElem a9⟩
   obtain⟨x,hI,a0,a1,a2,a3,a4⟩:=(hE.below hb).cells k e he;obtain⟨xa,xn,xc,rfl⟩:∃ xa xn xc,x=.slice xa xn xc:=by
    rcases hI.form with ⟨rfl,_⟩|⟨_,_,rfl,_,_⟩
    .exact⟨_,_,_,rfl⟩
    .exact⟨_,_,_,rfl⟩
   have ad:(k:Int)<(es.length:Int):=by omega
   have ab:=hr e (List.mem_of_getElem? he);have hbr:=(Below.refl wr.heap.size wr).alloc bR (.cells #[.slice xa xn xc,.int .i64 e.el.first,.int .i64 e.el.second,.int .i64 e.el.third,.bool e.el.varies] 117);have a7:=hb.trans (hbr.mono hb.size);have SM:=Qk ab (hI.below hbr) ((hL.below hb).below hbr);have HZ:Hid (Zel _ _):=hz.below hbr;have aa:=hz.facts.1;have HE:Hid _:=he;clear he hI hE hL hr hz hbr;go_wp2_with fail;refine SM.mono ?_;rintro e' w2 ⟨rfl,n2,rfl⟩;clear SM a0 a1 a2 a3 a4;by_cases c:e.runes=l
   .have HA:Hid (dj es l=some e.el):=Jt HN.out HE.out c
    have c':decide (e.runes=l)=true:=decide_eq_true c;obtain⟨a5,⟨q0,q1,q2,q3⟩,f0⟩:=HZ.out.facts;have ae:=hb.size;clear HN HE c HZ;go_wp2;refine bodyPost_ret (v:=.tuple #[.agg #[.int .i64 e.el.first,.int .i64 e.el.second,.int .i64 e.el.third,.bool e.el.varies],.bool true]) ?_ rfl ⟨Dw HA.out,oz (below_drewN a7 n2) bR _ _ _ _⟩;rw[results_cell_tmp rfl];go_simp
   .have a8:Hid (mn es l (k+1)):=HN.out.succ HE.out c
    have c':decide (e.runes=l)=false:=decide_eq_false c;clear HN HE c;go_wp2;exact⟨⟨k+1,by omega,by go_num,a8.out,HZ.out,below_drewN a7 n2⟩,by simp[intOf];omega⟩
  .have HA:Hid (dj es l=none):=Hb HN.out (by omega)
   obtain⟨a5,⟨q0,q1,q2,q3⟩,f0⟩:=hz.facts;clear HN hE hr hz;go_wp2;refine bodyPost_ret (v:=.tuple #[.agg #[.int .i64 0,.int .i64 0,.int .i64 0,.bool false],.bool false]) ?_ rfl ⟨mj HA.out,oz hb bR _ _ _ _⟩;rw[results_cell_tmp rfl];go_simp
theorem yz {w:World} {B:Nat} {v vl:Value} {es:List Ent} {l:List Int}(hE:ac w B v es) (hL:il w vl l) (hn:es.length≤1048576) (hr:∀ e ∈ es,e.runes.length≤1048576) :
  Calls prog 168 #[v,vl] w fun e w'=>e=.returned (fo (dj es l))∧Below w.heap.size w w':=by
 rcases hE.form with ⟨rfl,rfl⟩|⟨g,cap,rfl,_,_,_,_⟩
 .exact Ju w vl l
 .exact Qj w B g cap es vl l hE hL hn hr
theorem G6 {P:Program}(w:World) (t ty e:TypeId) (i:TypeInfo) (ht:P.underlying t=some (.slice e)) (hi:P.info? e=some i) (b:Option Addr) (n c c':Nat) (a0:n≤c) :
  (Builtin.append_ #[t,t] ty #[.slice b n c,.slice none 0 c']).run P w=.ok (.slice b n c) w:=by
 cases b <;> simp[Builtin.append_,run_underlying ht,sizeOf,typeInfo,hi,a0,storeCells,Builtin.lenOf,Builtin.firstCells]
theorem A3 {w:World} {o:Oper} {a:Act} {K:Act→World→Prop} {Q:Exit→Act→World→Prop}(s x:Operand)
  (ho:o.op=.call { callee:=.builtin .append,args:=#[s,x],argTypes:=#[39,39] }) (B:Nat) (v vx:Value) (l l':List Int) (hs:a.eval s=v) (hx:a.eval x=vx) (hI:ab w B v l) (hR:il w vx l')
  (a5:l.length+l'.length≤1048576) (a0:B≤w.heap.size) (h:∀ v' w',ab w' B v' (l++l')→w.grownBy w' v.ownBlock→K (a.put o.dst v') w'):Oper.wp prog o a w K Q:=by
 obtain⟨i0,hi,a4,a2,a3⟩:=info_parts dv;have app:∀ (ad:Addr) (c:Nat),vx=.slice (some ad) l'.length c→(∀ j u,(l'.map (Value.int .i64))[j]? = some u→w.cell? (ad.add j)=some u)→Oper.wp prog o a w K Q:=fun ad c hv hc=>by
  refine wp_append_own w s x 39 ho B 3 i0 (.int .i64 0) 1 8 underlying39 hi a4 a2 a3 rfl (by decide) v l.length (l.map (Value.int .i64)) hs hI ad l'.length c (l'.map (Value.int .i64)) (hx.trans hv) (by simp) hc (fun u hu=>by obtain⟨y,_,rfl⟩:=List.mem_map.1 hu;rfl) (by unfold maxLen;omega) (by omega) a0 fun v' w' h1 h2 _=>h v' w' ?_ h2
  unfold ab;rw[List.length_append,List.map_append];exact h1
 rcases hR with ⟨b,c,hv,rfl⟩|⟨g,f,c,hv,_,hc⟩
 .cases b with
  | none =>
   obtain⟨b,n,c',rfl,a1⟩:∃ b n c,v=.slice b n c∧n≤c:=by
    rcases hI.form with ⟨rfl,rfl⟩|⟨g,cap,rfl,h1,_⟩
    .exact⟨_,_,_,rfl,bR⟩
    .exact⟨_,_,_,rfl,h1⟩
   refine Go.Lib.wp_append_run w s x 39 39 ho _ _ hs (hx.trans hv) _ _ (G6 w _ _ _ i0 underlying39 hi b n c' c a1) ?_;refine h _ _ ?_ ⟨rfl,rfl,rfl,bR,fun _ _ _=>rfl⟩;rw[List.append_nil];exact hI
  | some ad=>exact app ad c hv (fun j u hj=>by simp at hj)
 .refine app ⟨g,f,none⟩ c hv fun j u hj=>?_
  rw[List.getElem?_map,Option.map_eq_some_iff]at hj;obtain⟨y,hy,rfl⟩:=hj;rw[Addr.add_mid];exact hc j y hy
theorem sq {w:World} {a1:Array Oper} {rest:List Oper} {o:Oper} {a:Act} {Q:Exit→Act→World→Prop}(a3:o.guard=none) (s x:Operand)
  (ho:o.op=.call { callee:=.builtin .append,args:=#[s,x],argTypes:=#[39,39] }) (B:Nat) (v vx:Value) (l l':List Int) (hs:a.eval s=v) (hx:a.eval x=vx) (hI:ab w B v l) (hR:il w vx l')
  (a2:l.length+l'.length≤1048576) (a0:B≤w.heap.size) (h:∀ v' w',ab w' B v' (l++l')→w.grownBy w' v.ownBlock→wpList prog a1 Q rest (a.put o.dst v') w'):wpList prog a1 Q (o::rest) a w :=
 wpList_plain a3 fun _ hK=>A3 s x ho B v vx l l' hs hx hI hR a2 a0 fun v' w' h1 h2=>hK _ _ (h v' w' h1 h2)
theorem ng {w:World} {a3:Array Oper} {o:Oper} {a:Act} {K:Act→World→Prop} {Q:Exit→Act→World→Prop} {E:Prop}(a2:o.guard=none) (s x:Operand)
  (ho:o.op=.call { callee:=.builtin .append,args:=#[s,x],argTypes:=#[39,39] }) (B:Nat) (v vx:Value) (l l':List Int) (hs:a.eval s=v) (hx:a.eval x=vx) (hI:ab w B v l) (hR:il w vx l')
  (a1:l.length+l'.length≤1048576) (a0:B≤w.heap.size) (h:∀ v' w',ab w' B v' (l++l')→w.grownBy w' v.ownBlock→K (a.put o.dst v') w') :
  if Region.wanted o (yielded a3 a.tmps)=true then Oper.wp prog o a w K Q else E:=by
 rw[if_pos (by simp[Region.wanted,a2])];exact A3 s x ho B v vx l l' hs hx hI hR a1 a0 h
theorem ab.take {w:World} {B g cap:Nat} {l:List Int}(h:ab w B (.slice (some ⟨g,0,none⟩) l.length cap) l) (k:Nat) (hk:k≤l.length):ab w B (.slice (some ⟨g,0,none⟩) k cap) (l.take k):=by
 have a0:(l.take k).length=k:=by rw[List.length_take];omega
 rcases h.2 with ⟨a,_⟩|⟨g',a6,cur,a,b,c,d,e,f,f2⟩
 .cases a
 .injection a with a1 a2 a3
  injection a1 with a4;injection a4 with a5;subst a5;subst a3;refine⟨by simp,.inr ⟨g,cap,cur,by rw[a0],b,c,by omega,e,f,?_⟩⟩;rw[a0,List.map_take,<- f2,List.take_take];simp
  omega
def ah1:Go.Shelf.Ren:=⟨fun|15=>200|n=>n,fun|3=>3|4=>4|22=>39|n=>n,fun|n=>n⟩
theorem b35:Go.Proofs.Lays2.n15 prog ah1:={
 mixed:=by kernel_rfl
 f15:=Tryz.func200.trans (congrArg some (by kernel_rfl))
 t3:=underlying3
 a3:=Tryz.isAgg3
 z3:=Tryz.sizeOf3
 v3:=Tryz.zeroValue3
 t4:=underlying4
 a4:=Tryz.isAgg4
 z4:=Tryz.sizeOf4
 v4:=Tryz.zeroValue4
 t22:=underlying39
 a22:=Tryz.isAgg39
 z22:=Tryz.sizeOf39
 v22:=Tryz.zeroValue39
 i3:=dv }
def ah2:Go.Shelf.Ren:=⟨fun|23=>202|n=>n,fun|0=>0|3=>3|4=>4|22=>39|n=>n,fun|n=>n⟩
theorem b36:Go.Proofs.Lays2.n23 prog ah2:={
 mixed:=by kernel_rfl
 f23:=Tryz.func202.trans (congrArg some (by kernel_rfl))
 t0:=underlying0
 a0:=Tryz.isAgg0
 z0:=Tryz.sizeOf0
 v0:=Tryz.zeroValue0
 t3:=underlying3
 a3:=Tryz.isAgg3
 z3:=Tryz.sizeOf3
 v3:=Tryz.zeroValue3
 t4:=underlying4
 a4:=Tryz.isAgg4
 z4:=Tryz.sizeOf4
 v4:=Tryz.zeroValue4
 t22:=underlying39
 a22:=Tryz.isAgg39
 z22:=Tryz.sizeOf39
 v22:=Tryz.zeroValue39
 i3:=dv }
theorem a83 (w:World) (g f c:Nat) (l:List Int) (hl:l.length≤1048576) (hc:∀ j x,l[j]? = some x→w.cell? ⟨g,f+j,none⟩=some (.int .i64 x)) :
  Calls prog 200 #[.slice (some ⟨g,f,none⟩) l.length c] w fun e w'=>∃ v,e=.returned v∧ab w' w.heap.size v l∧Below w.heap.size w w':=by
 refine (Go.Proofs.Any.slices_Clone_int b35 g f l.length c l w bR (by omega) (fun j hj=>by
  rw[hc j l[j] (List.getElem?_eq_getElem hj),List.getD_eq_getElem?_getD,List.getElem?_eq_getElem hj];rfl)).mono ?_
 rintro e w' ⟨v,rfl,h1,_,h2⟩;rw[List.take_length]at h1;exact⟨v,rfl,h1,h2⟩
theorem Yh (w:World) (g f c k:Nat) (l:List Int) (hk:k<l.length) (a0:l.length≤c) (hm:c≤maxLen) (hc:∀ j x,l[j]? = some x→w.cell? ⟨g,f+j,none⟩=some (.int .i64 x)) (hf:∀ j,w.frozen? ⟨g,j,none⟩=false) :
  Calls prog 202 #[.slice (some ⟨g,f,none⟩) l.length c,.int .i64 k,.int .i64 ((k:Int)+1)] w fun e w'=>e=.returned (.slice (some ⟨g,f,none⟩) (l.eraseIdx k).length c)∧∃ q,w'=(w.drewN q).setCells g f ((l.eraseIdx k++[0]).map (Value.int .i64)):=by
 have h:=Go.Proofs.Any.slices_Delete_int_cells b36 g f l.length c k (k+1) l w bR a0 (by unfold maxLen at hm;omega) (by omega) (by omega) (fun j hj=>by
  rw[hc j l[j] (List.getElem?_eq_getElem hj),List.getD_eq_getElem?_getD,List.getElem?_eq_getElem hj];rfl) (fun j _=>hf _)
 have e1:(((k+1:Nat):Int))=(k:Int)+1:=by omega
 rw[e1]at h;refine h.mono ?_;rintro e w' ⟨rfl,q,rfl⟩;refine⟨?_,q,?_⟩
 .rw[List.length_eraseIdx_of_lt hk]
  have:l.length-(k+1-k)=l.length-1:=by omega
  rw[this]
 .rw[List.take_length,List.eraseIdx_eq_take_drop_succ]
  have:k+1-k=1:=by omega
  rw[this];rfl
theorem aa6 (w:World) (n:Nat) (h0:0<n) (hn:n≤1048576) :
  Calls prog 226 #[.slice none 0 0,.int .i64 n] w fun e w'=>∃ v,e=.returned v∧ab w' w.heap.size v []∧Below w.heap.size w w':=by
 obtain⟨i0,hi,a2,a0,a1⟩:=info_parts dv;have a3:(0:Int)<(n:Int):=by omega
 go_enter func226,ntmps226;go_wp2_with (at_builtin;refine Go.Lib.wpList_append_run _ rfl _ _ 39 3 rfl _ _ rfl rfl _ _ (Go.Lib.run_append_nil_zeros _ 39 3 _ 3 i0 (.int .i64 0) .i64 .i64 underlying39 underlying3 hi a2 n h0 (by rw[a0];decide) (by omega) (by rw[a1];omega)) ?_)
 go_ret;refine⟨_,rfl,⟨rfl,.inr ⟨w.heap.size,_,_,rfl,bR,heap_alloc_new _ _,Nat.zero_le _,grownCap_le_maxLen w n 0 _ (by unfold maxLen;omega),?_,rfl⟩⟩,(bY _).drew⟩;have:=grownCap_ge w n 0 3;rw[Array.size_append,size_zeroCells,size_zeroCells];simp
 omega
theorem Jl {w:World} {g f:Nat} {l:List Int}(hc:∀ j x,l[j]? = some x→w.cell? ⟨g,f+j,none⟩=some (.int .i64 x)):∀ j u,(l.map (Value.int .i64))[j]? = some u→w.cell? ((⟨g,f,none⟩:Addr).add j)=some u:=by
 intro j u hj;rw[List.getElem?_map,Option.map_eq_some_iff]at hj;obtain⟨x,hx,rfl⟩:=hj;rw[Addr.add_mid];exact hc j x hx
theorem ab.app {w:World} {B:Nat} {v:Value} {l l':List Int} {n:Nat}(hn:l.length=n) (h:w.ownsRow B 3 1 v (n+l'.length) (l.map (Value.int .i64)++l'.map (Value.int .i64))):ab w B v (l++l'):=by
 unfold ab;rw[List.length_append,List.map_append,hn];exact h
theorem U5 (w:World) (tb g1 f1 c1 g2 f2 c2:Nat) (l1 l2:List Int) (hh:w.heap[tb]? = some (.cells #[.slice (some ⟨g1,f1,none⟩) l1.length c1,.slice (some ⟨g2,f2,none⟩) l2.length c2] 39))
  (ac:g1<w.heap.size) (ad:g2<w.heap.size) (h1:1≤l1.length) (af:l1.length≤4000) (ag:l2.length≤4000)
  (a4:∀ j x,l1[j]? = some x→w.cell? ⟨g1,f1+j,none⟩=some (.int .i64 x)) (a5:∀ j x,l2[j]? = some x→w.cell? ⟨g2,f2+j,none⟩=some (.int .i64 x)) :
  Calls prog 215 #[.slice (some ⟨tb,0,none⟩) 2 2] w fun e w'=>∃ v,e=.returned v∧ab w' w.heap.size v (l1++l2)∧Below w.heap.size w w':=by
 obtain⟨i0,hi,a8,a6,a7⟩:=info_parts dv;have q0:=cell_of_row _ _ 0 _ _ _ hh;have q1:=cell_of_row _ _ 1 _ _ _ hh;have a3:tb<w.heap.size:=(Array.getElem?_eq_some_iff.1 hh).1;have a9:Hid _:=a4;have aa:Hid _:=a5;have G:=fun u=>aa6 u (l1.length+l2.length) (by omega) (by omega)
 rw[show ((l1.length+l2.length:Nat):Int)=(l1.length:Int)+(l2.length:Int) by omega]at G;clear a4 a5 hh;go_enter func215,ntmps215;go_wp2;go_loop [3,11] (fun s i=>(s=.int .i64 0∧i=.int .i64 0)∨(s=.int .i64 (l1.length:Int)∧i=.int .i64 1)∨(s=.int .i64 ((l1.length:Int)+(l2.length:Int))∧i=.int .i64 2)) (fun _ i=>2-(intOf i).toNat)
 case atStart=>exact .inl ⟨rfl,rfl⟩
 case round =>
  rcases hrel with ⟨rfl,rfl⟩|⟨rfl,rfl⟩|⟨rfl,rfl⟩
  .go_wp2
   exact⟨.inr (.inl ⟨by go_num,rfl⟩),by simp[intOf]⟩
  .go_wp2
   exact⟨.inr (.inr ⟨by go_num,rfl⟩),by simp[intOf]⟩
  .go_wp2_with fail
   refine (G _).mono ?_;rintro e w1 ⟨v1,rfl,i1,b1⟩;clear G;have r0:w1.cell? ⟨tb,0,none⟩=_:=(b1.cell a3).trans q0;have r1:w1.cell? ⟨tb,1,none⟩=_:=(b1.cell a3).trans q1;go_wp2_with fail;go_loopw [6,27] (fun v i wr=>(i=.int .i64 0∧ab wr w.heap.size v []∧Below w.heap.size w wr)∨(i=.int .i64 1∧ab wr w.heap.size v l1∧Below w.heap.size w wr)∨(i=.int .i64 2∧ab wr w.heap.size v (l1++l2)∧Below w.heap.size w wr)) (fun _ i _=>2-(intOf i).toNat)
   case atStart=>exact .inl ⟨rfl,i1,b1⟩
   case round =>
    clear i1 b1 r0 r1;rcases hrel with ⟨rfl,i2,b2⟩|⟨rfl,i2,b2⟩|⟨rfl,i2,b2⟩
    .have r0:wr.cell? ⟨tb,0,none⟩=_:=(b2.cell a3).trans q0
     have a0:=Jl (w:=wr) (fun j x hx=>(b2.cell ac).trans (a9.out j x hx));have ae:=b2.size;go_wp2_with (at_builtin;refine wpList_append_own _ rfl _ _ 39 rfl w.heap.size 3 i0 (.int .i64 0) 1 8 underlying39 hi a8 a6 a7 rfl (by decide) _ _ _ rfl i2 ⟨g1,f1,none⟩ l1.length c1 (l1.map (Value.int .i64)) rfl (by simp) a0 (fun u hu=>by obtain⟨x,_,rfl⟩:=List.mem_map.1 hu;rfl) (by unfold maxLen;simp;omega) (by simp;omega) (by omega) ?_)
     intro v3 w3 a2 a1 _;have i3:ab w3 w.heap.size v3 l1:=a2;have b3:Below w.heap.size w w3:=Below.grown b2 a1 b2.size (fun j hj=>(World.ownsRow.lt i2 j hj).1);have I3:Hid (ab _ _ _ _):=i3;have B3:Hid _:=b3;clear a2 a1 i3 b3 i2 b2 a0 r0;go_wp2;exact⟨.inr (.inl ⟨rfl,I3.out,B3.out⟩),by simp[intOf]⟩
    .have r1:wr.cell? ⟨tb,1,none⟩=_:=(b2.cell a3).trans q1
     have a0:=Jl (w:=wr) (fun j x hx=>(b2.cell ad).trans (aa.out j x hx));have ae:=b2.size;go_wp2_with (at_builtin;refine wpList_append_own _ rfl _ _ 39 rfl w.heap.size 3 i0 (.int .i64 0) 1 8 underlying39 hi a8 a6 a7 rfl (by decide) _ _ _ rfl i2 ⟨g2,f2,none⟩ l2.length c2 (l2.map (Value.int .i64)) rfl (by simp) a0 (fun u hu=>by obtain⟨x,_,rfl⟩:=List.mem_map.1 hu;rfl) (by unfold maxLen;omega) (by omega) (by omega) ?_)
     intro v3 w3 a2 a1 _;have i3:ab w3 w.heap.size v3 (l1++l2):=ab.app rfl a2;have b3:Below w.heap.size w w3:=Below.grown b2 a1 b2.size (fun j hj=>(World.ownsRow.lt i2 j hj).1);have I3:Hid (ab _ _ _ _):=i3;have B3:Hid _:=b3;clear a2 a1 i3 b3 i2 b2 a0 r1;go_wp2;exact⟨.inr (.inr ⟨rfl,I3.out,B3.out⟩),by simp[intOf]⟩
    .have I3:Hid (ab _ _ _ _):=i2
     have B3:Hid _:=b2;clear i2 b2;go_wp2;go_ret;exact⟨_,rfl,I3.out,B3.out⟩
def ry (rest:List Int) (k:Nat):Prop:=∀ j x,j<k→rest[j]? = some x→cls x≠0
theorem ry.succ {rest:List Int} {k:Nat} {m:Int}(h:ry rest k) (hm:rest[k]? = some m) (hc:cls m≠0):ry rest (k+1):=by
 intro j x hj hx;by_cases e:j=k
 .subst e;rw[hm]at hx;cases hx;exact hc
 .exact h j x (by omega) hx
theorem a76 {rest:List Int} {k:Nat} {m:Int}(h:ry rest k):blk (rest.take k) m=qd rest k (cls m):=by
 unfold blk qd;rw[Bool.eq_iff_iff,List.any_eq_true,List.any_eq_true];constructor
 .rintro⟨b,hb,hp⟩
  refine⟨b,hb,?_⟩;obtain⟨j,hj⟩:=List.mem_iff_getElem?.1 hb;have a0:j<k:=by
   have:=(List.getElem?_eq_some_iff.1 hj).1;rw[List.length_take]at this;omega
  rw[List.getElem?_take_of_lt a0]at hj;have:=h j b a0 hj;simpa [this] using hp
 .rintro⟨b,hb,hp⟩
  exact⟨b,hb,by simp only[Bool.or_eq_true];exact .inr hp⟩
def Bx (n:Int):Value:=.tuple #[.int .i64 (if n<0 then 0 else n),.bool (decide (0≤n))]
theorem Fz {n:Int}(h:n=-1):Ending.returned (.tuple #[.int .i64 0,.bool false])=.returned (Bx n):=by subst h;rfl
theorem af6 {n:Int} {k:Nat}(h:n=(k:Int)):Ending.returned (.tuple #[.int .i64 (k:Int),.bool true])=.returned (Bx n):=by
 subst h;unfold Bx;rw[if_neg (by omega),decide_eq_true (by omega)]
def ay8 (w:World) (es:List Ent) (run rest:List Int) (ans:Int) (i:Value) (wr:World):Prop :=
 ∃ k:Nat,k≤rest.length∧i=.int .i64 k∧ry rest k∧iu es run rest (rest.drop k) k=ans∧Below w.heap.size w wr
theorem O3 (w:World) (B g1 f1 c1 g2 f2 c2:Nat) (ve:Value) (es:List Ent) (run rest:List Int) (hE:ac w B ve es) (hn:es.length≤1048576) (hr:∀ e ∈ es,e.runes.length≤1048576) (ht:dr w)
  (an:g1<w.heap.size) (ab:g2<w.heap.size) (h1:1≤run.length) (az:run.length≤3000) (aA:rest.length≤3000) (am:rest.length≤c2)
  (aj:∀ j x,run[j]? = some x→w.cell? ⟨g1,f1+j,none⟩=some (.int .i64 x)) (ak:∀ j x,rest[j]? = some x→w.cell? ⟨g2,f2+j,none⟩=some (.int .i64 x)) :
  Calls prog 201 #[ve,.slice (some ⟨g1,f1,none⟩) run.length c1,.slice (some ⟨g2,f2,none⟩) rest.length c2] w fun e w'=>e=.returned (Bx (kn es run rest))∧Below w.heap.size w w':=by
 obtain⟨ans,a1⟩:∃ ans,Hid (kn es run rest=ans):=⟨_,rfl⟩
 rw[a1.out];obtain⟨va,vn,vc,rfl⟩:∃ a n c,ve=.slice a n c:=by
  rcases hE.form with ⟨rfl,_⟩|⟨_,_,rfl,_,_,_,_⟩
  .exact⟨_,_,_,rfl⟩
  .exact⟨_,_,_,rfl⟩
 have al:Hid _:=aj;have ad:Hid _:=ak;have HE:Hid (ac _ _ _ _):=hE;have HT:Hid (dr _):=ht;clear aj ak hE ht;go_enter func201,ntmps201;go_wp2;go_loopw [14] (fun i wr=>ay8 w es run rest ans i wr) (fun i _=>rest.length-(intOf i).toNat)
 case atStart=>exact⟨0,Nat.zero_le _,rfl,fun j x hj=>by omega,by rw[List.drop_zero];exact a1.out,bX⟩
 case round =>
  clear a1;obtain⟨k,hk,rfl,hM,hA,hb⟩:=hrel;have HA:Hid _:=hA;have HM:Hid (ry _ _):=hM;clear hA hM;by_cases ae:k<rest.length
  .obtain⟨m,hm⟩:∃ m,rest[k]? = some m:=⟨_,List.getElem?_eq_getElem ae⟩
   have c0:wr.cell? ⟨g2,f2+k,none⟩=some (.int .i64 m):=(hb.cell ab).trans (ad.out k m hm);have ax:(k:Int)<(rest.length:Int):=by omega
   have ay:k<c2:=by omega
   have a7:Hid ((if cls m=0 then -1 else if qd rest k (cls m)=false∧0≤atE es (run++[m]) then (k:Int) else iu es run rest (rest.drop (k+1)) (k+1))=ans):=by
    show _=_
    rw[<- HA.out,Nm hm];rfl
   have ai:Hid (rest[k]? = some m):=hm;clear HA hm;have CL:=nj m wr ((HT.out.below hb).1);by_cases hc:cls m=0
   .have HF:Hid (-1=ans):=by show _=_;rw[<- a7.out,if_pos hc]
    rw[hc]at CL;clear a7;go_wp2_with fail;refine CL.mono ?_;rintro e w3 ⟨rfl,b3⟩;clear CL c0;go_wp2;go_ret2;exact⟨Fz HF.out.symm,hb.trans (b3.mono hb.size)⟩
   .have a2:Hid ((if qd rest k (cls m)=false∧0≤atE es (run++[m]) then (k:Int) else iu es run rest (rest.drop (k+1)) (k+1))=ans):=by show _=_;rw[<- a7.out,if_neg hc]
    have aw:(cls m == 0)=false:=by simpa using hc
    have ah:Hid (ry rest (k+1)):=HM.out.succ ai.out hc;have ag:Hid (blk (rest.take k) m=qd rest k (cls m)):=a76 HM.out;clear a7 HM;go_wp2_with fail;refine CL.mono ?_;rintro e w3 ⟨rfl,b3⟩;clear CL c0;have a0:=hb.trans (b3.mono hb.size);have a3:g2<w3.heap.size:=Nat.lt_of_lt_of_le ab a0.size;have BL:=Q7 w3 g2 f2 c2 (rest.take k) m (by rw[List.length_take];omega) a3 (fun j x hx=>by
     have ap:j<k:=by
      have:=(List.getElem?_eq_some_iff.1 hx).1;rw[List.length_take]at this;omega
     rw[List.getElem?_take_of_lt ap]at hx;exact (a0.cell ab).trans (ad.out j x hx)) ((HT.out.below a0).1)
    rw[ag.out,show (rest.take k).length=k by rw[List.length_take];omega]at BL;have ar:k≤c2:=by omega
    clear ag b3 hb;generalize hbb:qd rest k (cls m)=bb at *
    cases bb
    .go_wp2_with fail
     refine BL.mono ?_;rintro e w4 ⟨rfl,b4⟩;have a8:=a0.trans (b4.mono a0.size);clear BL b4 a0 a3;have au:=a8.size;have a6:∀ o:Obj,Below w.heap.size w (w4.alloc o):=fun o=>a8.alloc a8.size o
     have CC:=fun (tb:Nat) (u:World) (av:tb=w4.heap.size) (hu:u=w4.alloc (.cells #[.slice (some ⟨g1,f1,none⟩) run.length c1,.slice (some ⟨g2,f2+k,none⟩) ([m]:List Int).length (c2-k)] 39))=>U5 u tb g1 f1 c1 g2 (f2+k) (c2-k) run [m] (by subst av;rw[hu];exact heap_alloc_new _ _) (by rw[hu];simp;omega) (by rw[hu];simp;omega) h1 (by omega) (by simp) (fun j x hx=>by rw[hu];exact ((a6 _).cell an).trans (al.out j x hx)) (fun j x hx=>by
      have ao:j=0:=by
       have:=(List.getElem?_eq_some_iff.1 hx).1;simp at this;omega
      subst ao;simp at hx;subst hx;rw[hu,Nat.add_zero];exact ((a6 _).cell ab).trans (ad.out k m ai.out))
     have af:=CC w4.heap.size _ rfl rfl;clear CC;go_wp2_with fail;refine af.mono ?_;rintro e w5 ⟨v5,rfl,i5,b5⟩;have a9:Below w.heap.size w w5:=(a6 _).trans (b5.mono (a6 _).size);clear af b5 a8 a6;have EN:=yz (HE.out.below a9) i5.rowAt hn hr;obtain⟨o,ho⟩:∃ o,dj es (run++[m])=o:=⟨_,rfl⟩
     have HO:Hid (o.isSome=decide (0≤atE es (run++[m]))):=by show _=_;rw[<- ho];exact Aj
     rw[ho]at EN;clear ho i5;unfold fo elV at EN;generalize ph o=eo at *;generalize o.isSome=ob at *;go_wp2_with fail;refine EN.mono ?_;rintro e w6 ⟨rfl,b6⟩;have aa:=a9.trans (b6.mono a9.size);clear EN b6 a9
     cases ob
     .have a4:¬ 0≤atE es (run++[m]):=of_decide_eq_false HO.out.symm
      have HF:Hid (iu es run rest (rest.drop (k+1)) (k+1)=ans):=by show _=_;rw[<- a2.out,if_neg (fun c=>a4 c.2)]
      clear a2 HO a4;go_wp2;exact⟨⟨k+1,ae,by go_num,ah.out,HF.out,aa.alloc aa.size _⟩,by simp[intOf];omega⟩
     .have a5:0≤atE es (run++[m]):=of_decide_eq_true HO.out.symm
      have HF:Hid ((k:Int)=ans):=by show _=_;rw[<- a2.out,if_pos (by simp[a5])]
      clear a2 HO a5;go_wp2;go_ret2;exact⟨af6 HF.out.symm,aa.alloc aa.size _⟩
    .have HF:Hid (iu es run rest (rest.drop (k+1)) (k+1)=ans):=by show _=_;rw[<- a2.out,if_neg (fun c=>by cases c.1)]
     clear a2;go_wp2_with fail;refine BL.mono ?_;rintro e w4 ⟨rfl,b4⟩;clear BL;go_wp2;exact⟨⟨k+1,ae,by go_num,ah.out,HF.out,a0.trans (b4.mono a0.size)⟩,by simp[intOf];omega⟩
  .have aq:k=rest.length:=by omega
   subst aq;have HF:Hid (-1=ans):=by show _=_;rw[<- HA.out,List.drop_length];rfl
   clear HA;go_wp2;go_ret2;exact⟨Fz HF.out.symm,hb⟩
theorem O2 (w:World) (ve vr:Value) (a:Option Addr) (c:Nat) (es:List Ent) (run:List Int):Calls prog 201 #[ve,vr,.slice a 0 c] w fun e w'=>e=.returned (Bx (kn es run []))∧Below w.heap.size w w':=by
 have HF:Hid (kn es run []=-1):=rfl;go_enter func201,ntmps201;go_wp2;go_loopw [14] (fun i wr=>i=.int .i64 0∧wr=w) (fun _ _=>0)
 case atStart=>exact⟨rfl,rfl⟩
 case round =>
  obtain⟨rfl,rfl⟩:=hrel;go_wp2;go_ret2;exact⟨Fz HF.out,bX⟩
def b21 (w:World) (B:Nat) (v:Value) (l:List Int):Prop :=
 (∃ a c,v=.slice a 0 c∧l=[])∨∃ g f c cs,v=.slice (some ⟨g,f,none⟩) l.length c∧l.length≤c∧c≤maxLen∧B≤g∧w.heap[g]? = some (.cells cs 3)∧∀ j x,l[j]? = some x→w.cell? ⟨g,f+j,none⟩=some (.int .i64 x)
theorem ab.midI {w:World} {B:Nat} {v:Value} {l:List Int}(h:ab w B v l):b21 w B v l:=by
 rcases h.2 with ⟨a,b⟩|⟨g,cap,cur,a,b,c,d,e,_⟩
 .exact .inl ⟨_,_,a,by simpa using b⟩
 .subst a
  refine .inr ⟨g,0,cap,cur,rfl,d,e,b,c,fun j x hx=>?_⟩;have hj:=(List.getElem?_eq_some_iff.1 hx).1;rw[Nat.zero_add,h.cell j hj,hx];rfl
def az2 (es:List Ent) (l:List Int) (w:World) (i:Value) (wr:World):Prop :=
 ∃ n:Nat,1≤n∧n≤4∧n≤l.length∧i=.int .i64 n∧(∀ j,n<j→j≤4→o4 es l j=false)∧Below w.heap.size w wr
theorem we {w:World} {g f c:Nat} {l:List Int}(n:Nat) (hn:n≤l.length) (hg:g<w.heap.size) (hc:∀ j x,l[j]? = some x→w.cell? ⟨g,f+j,none⟩=some (.int .i64 x)):il w (.slice (some ⟨g,f,none⟩) n c) (l.take n):=by
 refine .inr ⟨g,f,c,?_,hg,fun j x hx=>?_⟩
 .rw[List.length_take,Nat.min_eq_left hn]
 .have a0:j<n:=by
   have:=(List.getElem?_eq_some_iff.1 hx).1;rw[List.length_take]at this;omega
  rw[List.getElem?_take_of_lt a0]at hx;exact hc j x hx
theorem a28 (w:World) (B g f c:Nat) (ve:Value) (es:List Ent) (l:List Int) (hE:ac w B ve es) (hn:es.length≤1048576) (hr:∀ e ∈ es,e.runes.length≤1048576)
  (hg:g<w.heap.size) (h1:1≤l.length) (hl:l.length≤3000) (a7:l.length≤c) (hc:∀ j x,l[j]? = some x→w.cell? ⟨g,f+j,none⟩=some (.int .i64 x)) :
  Calls prog 199 #[ve,.slice (some ⟨g,f,none⟩) l.length c] w fun e w'=>e=.returned (.int .i64 (mw es l))∧Below w.heap.size w w':=by
 obtain⟨va,vn,vc,rfl⟩:∃ a n c,ve=.slice a n c:=by
  rcases hE.form with ⟨rfl,_⟩|⟨_,_,rfl,_,_,_,_⟩
  .exact⟨_,_,_,rfl⟩
  .exact⟨_,_,_,rfl⟩
 have HC:Hid _:=hc;have HE:Hid (ac _ _ _ _):=hE;clear hc hE;obtain⟨s0,a3,a4,a5,HS⟩:∃ s0:Nat,min (4:Int) (l.length:Int)=(s0:Int)∧1≤s0∧s0≤4∧Hid (s0≤l.length∧(s0=4∨s0=l.length)):=⟨min 4 l.length,by omega,by omega,by omega,by show _∧_;omega⟩
 go_enter func199,ntmps199;go_wp2;go_loopw [5] (fun i wr=>az2 es l w i wr) (fun i _=>(intOf i).toNat)
 case atStart =>
  refine⟨s0,a4,a5,HS.out.1,?_,fun j h1 h2=>Nc ?_,bX⟩
  .rw[<- a3]
  .have:=HS.out
   omega
 case round =>
  clear a3 HS a4 a5;obtain⟨n,ae,aa,a2,rfl,a1,hb⟩:=hrel;have HN:Hid (∀ j,n<j→j≤4→o4 es l j=false):=a1;clear a1;by_cases ad:1<n
  .have ab:(1:Int)<(n:Int):=by omega
   have af:n≤c:=by omega
   have a8:g<wr.heap.size:=Nat.lt_of_lt_of_le hg hb.size;have EN:=yz (HE.out.below hb) (we (c:=c) n a2 a8 (fun j x hx=>(hb.cell hg).trans (HC.out j x hx))) hn hr;obtain⟨o,ho⟩:∃ o,dj es (l.take n)=o:=⟨_,rfl⟩
   have HO:Hid (o.isSome=o4 es l n):=by show _=_;rw[Ka a2,<- ho];exact Aj
   rw[ho]at EN;clear ho;unfold fo elV at EN;generalize ph o=eo at *;generalize o.isSome=ob at *;go_wp2_with fail;refine EN.mono ?_;rintro e w6 ⟨rfl,b6⟩;have a0:=hb.trans (b6.mono hb.size);clear EN b6 hb
   cases ob
   .have a6:Hid (∀ j,n-1<j→j≤4→o4 es l j=false):=fun j h3 h4=>by
     by_cases e:j=n
     .subst e;exact HO.out.symm
     .exact HN.out j (by omega) h4
    clear HN HO;go_wp2;exact⟨⟨n-1,by omega,by omega,by omega,by go_num,a6.out,a0.alloc a0.size _⟩,by simp[intOf];omega⟩
   .have HF:Hid (mw es l=n):=ag3 (by omega) aa HO.out.symm HN.out
    clear HN HO;go_wp2;go_ret;rw[HF.out];exact⟨rfl,a0.alloc a0.size _⟩
  .have a9:n=1:=by omega
   subst a9;have HF:Hid (mw es l=1):=ag4 HN.out;clear HN;go_wp2;go_ret;rw[HF.out];exact⟨rfl,hb⟩
def Gin (w0:World) (b1 b4:Nat) (v x:Value) (u:World):Prop:=u.cell? ⟨b1,0,none⟩=some v∧u.cell? ⟨b4,0,none⟩=some x∧Below w0.heap.size w0 u
theorem Gin.keep {w0 w1 w2:World} {b1 b4:Nat} {v x:Value}(h1:b1<w0.heap.size) (h4:b4<w0.heap.size) (hb:Below w1.heap.size w1 w2) (h:Gin w0 b1 b4 v x w1):Gin w0 b1 b4 v x w2:=by
 obtain⟨a,b,c⟩:=h;exact⟨by rw[hb.cell (Nat.lt_of_lt_of_le h1 c.size)];exact a,by rw[hb.cell (Nat.lt_of_lt_of_le h4 c.size)];exact b,c.trans (hb.mono c.size)⟩
theorem Gin.set4 {w0 u:World} {b1 b4:Nat} {v x:Value}(h1:b1<w0.heap.size) (h4:b4<w0.heap.size) (a b c d:Value) (h:Gin w0 b1 b4 v x u):Gin w0 b1 b4 v x ((((u.setCell ⟨w0.heap.size,0,none⟩ a).setCell ⟨w0.heap.size,1,none⟩ b).setCell ⟨w0.heap.size,2,none⟩ c).setCell ⟨w0.heap.size,3,none⟩ d):=by
 obtain⟨p,q,r⟩:=h;have n1:∀ (m:World) (o:Nat) (y:Value),(m.setCell ⟨w0.heap.size,o,none⟩ y).cell? ⟨b1,0,none⟩=m.cell? ⟨b1,0,none⟩:=fun m o y=>World.cell?_setCell_other _ _ _ _ (fun e=>by injection e;omega)
 have n4:∀ (m:World) (o:Nat) (y:Value),(m.setCell ⟨w0.heap.size,o,none⟩ y).cell? ⟨b4,0,none⟩=m.cell? ⟨b4,0,none⟩:=fun m o y=>World.cell?_setCell_other _ _ _ _ (fun e=>by injection e;omega)
 exact⟨by rw[n1,n1,n1,n1];exact p,by rw[n4,n4,n4,n4];exact q,(((r.setCell bR _).setCell bR _).setCell bR _).setCell bR _⟩
theorem Uf {u:World} {B B' n:Nat} {v vl:Value} {es:List Ent} {l:List Int}(hE:ac u B v es) (hL:ab u B' vl l) (hn:es.length≤1048576) (hl:l.length≤1048576) (hr:∀ e ∈ es,e.runes.length≤1048576) :
  Calls prog 168 #[v,vl] u fun e w'=>e=.returned (fo (dj es l))∧Below u.heap.size u w'∧(∀ j,n<u.heap.size→w'.cell? ⟨n,j,none⟩=u.cell? ⟨n,j,none⟩)∧∀ j,n<u.heap.size→w'.frozen? ⟨n,j,none⟩=u.frozen? ⟨n,j,none⟩ :=
 (Ca hE hL hn hl hr).mono fun _ _ h=>⟨h.1,h.2,fun _ hj=>h.2.cell hj,fun j hj=>h.2.frozen (p:=⟨n,j,none⟩) hj⟩
theorem t6 (es:List Ent) (i:Nat) (e:Ent):mo es i e=(bd e.runes && (decide (atE es e.runes=(i:Int)) && Ms e.el)):=rfl
theorem Qu (w:World) (a:Option Addr) (n c:Nat) (sh:Bool) (lv:Int) (h:40<n):Calls prog 153 #[.agg #[.slice a n c,.bool sh,.int .i64 lv]] w fun e w'=>e=.returned (.bool false)∧Below w.heap.size w w':=by
 have h2:(40:Int)<(n:Int):=by omega
 go_enter func153,ntmps153;go_wp2;go_ret;exact⟨rfl,bY _⟩
theorem V3 (w:World) (a:Option Addr) (n c:Nat) (sh:Bool) (lv:Int) (h:n≤40) (hl:¬ (1≤lv∧lv≤4)):Calls prog 153 #[.agg #[.slice a n c,.bool sh,.int .i64 lv]] w fun e w'=>e=.returned (.bool false)∧Below w.heap.size w w':=by
 have h2:¬ (40:Int)<(n:Int):=by omega
 by_cases h3:lv<1
 .clear hl
  go_enter func153,ntmps153;go_wp2;go_ret;exact⟨rfl,bY _⟩
 .have h4:4<lv:=by omega
  clear hl;go_enter func153,ntmps153;go_wp2;go_ret;exact⟨rfl,bY _⟩
theorem V4 (w:World) (sh:Bool) (lv:Int) (hl:1≤lv∧lv≤4):Calls prog 153 #[.agg #[.slice none 0 0,.bool sh,.int .i64 lv]] w fun e w'=>e=.returned (.bool true)∧Below w.heap.size w w':=by
 obtain⟨h3,h4⟩:=hl;go_enter func153,ntmps153;go_wp2;go_loop [24] (fun i=>i=.int .i64 0) (fun _=>0)
 case atStart=>rfl
 case round =>
  subst hrel;go_wp2;go_ret;exact⟨rfl,bY _⟩
def Eb (u:World) (b:Nat) (x:Value) (e:El):Prop:=u.heap[b]? = some (.cells #[x,.int .i64 e.first,.int .i64 e.second,.int .i64 e.third,.bool e.varies] 117)
theorem Eb.facts {u:World} {b:Nat} {x:Value} {e:El}(h:Eb u b x e):b<u.heap.size∧u.cell? ⟨b,0,none⟩=some x∧u.cell? ⟨b,1,none⟩=some (.int .i64 e.first)∧u.cell? ⟨b,2,none⟩=some (.int .i64 e.second)∧u.cell? ⟨b,3,none⟩=some (.int .i64 e.third)∧u.cell? ⟨b,4,none⟩=some (.bool e.varies) :=
 ⟨(Array.getElem?_eq_some_iff.1 h).1,cell_of_row _ _ 0 _ _ _ h,cell_of_row _ _ 1 _ _ _ h,cell_of_row _ _ 2 _ _ _ h,cell_of_row _ _ 3 _ _ _ h,cell_of_row _ _ 4 _ _ _ h⟩
theorem Eb.below {u u':World} {b:Nat} {x:Value} {e:El}(h:Eb u b x e) (hb:Below u.heap.size u u'):Eb u' b x e:=(hb.block _ h.facts.1).trans h
theorem V5 (w:World) (B g cap:Nat) (es:List Ent) (sh:Bool) (lv:Int) (hE:ac w B (.slice (some ⟨g,0,none⟩) es.length cap) es) (hn:es.length≤40) (hl:1≤lv∧lv≤4) (hr:∀ e ∈ es,e.runes.length≤1048576) (ht:dr w) :
  Calls prog 153 #[.agg #[.slice (some ⟨g,0,none⟩) es.length cap,.bool sh,.int .i64 lv]] w fun e w'=>e=.returned (.bool (ay es lv))∧Below w.heap.size w w':=by
 obtain⟨ap,aq⟩:=hl;have aA:¬ (40:Int)<(es.length:Int):=by omega
 have HT:Hid (dr w):=ht;have ae:es.length≤cap∧cap≤maxLen:=by
  rcases hE.form with ⟨h,_⟩|⟨_,_,h,h2,h3,_,_⟩
  .cases h
  .cases h;exact⟨h2,h3⟩
 unfold maxLen at ae;clear ht;go_enter func153,ntmps153;go_wp2;go_loopw [24] (fun i wr=>ar4 w (.slice (some ⟨g,0,none⟩) es.length cap) sh lv es i wr) (fun i _=>es.length-(intOf i).toNat)
 case atStart=>exact⟨0,Nat.zero_le _,rfl,fun i e hi=>by omega,⟨by simp,by simp[World.cell?_alloc_new],by simp[World.cell?_alloc_new],by simp[World.cell?_alloc_new]⟩,bY _⟩
 case round =>
  obtain⟨k,hk,rfl,ah,am,hb⟩:=hrel;have HN:Hid (pm es k):=ah;clear ah;by_cases ar:k<es.length
  .obtain⟨e,he⟩:∃ e,es[k]? = some e:=⟨_,List.getElem?_eq_getElem ar⟩
   obtain⟨x,hI,a0,a1,a2,a3,a4⟩:=(hE.below hb).cells k e he;obtain⟨xa,xn,xc,rfl⟩:∃ xa xn xc,x=.slice xa xn xc:=by
    rcases hI.form with ⟨rfl,_⟩|⟨_,_,rfl,_,_⟩
    .exact⟨_,_,_,rfl⟩
    .exact⟨_,_,_,rfl⟩
   have ax:(k:Int)<(es.length:Int):=by omega
   have an:=hr e (List.mem_of_getElem? he);have hbr:=(Below.refl wr.heap.size wr).alloc bR (.cells #[.slice xa xn xc,.int .i64 e.el.first,.int .i64 e.el.second,.int .i64 e.el.third,.bool e.el.varies] 117);have al:=hb.trans (hbr.mono hb.size);have ak:=(hE.below hb).below hbr;have JN:=Au an (hI.below hbr) ((HT.out.below hb).below hbr);have HE:Hid _:=he;have ag:Hid (ab _ _ _ _):=hI.below hbr;have af:Hid (ac _ _ _ _):=ak;have HB:Hid _:=al;have HX:Hid (ul _ _ _ _ _):=am.below hbr;have HG:Hid (Eb _ _ _ _):=show Eb (wr.alloc _) wr.heap.size (.slice xa xn xc) e.el from heap_alloc_new _ _
   clear he hI ak al hbr am hb HT;go_wp2_with fail;refine JN.mono ?_;rintro e' w2 ⟨rfl,b2⟩;have c2:Hid _:=HB.out.trans (b2.mono HB.out.size);have g2:Hid (Eb _ _ _ _):=HG.out.below b2;have x2:Hid (ul _ _ _ _ _):=HX.out.below b2;have i2:Hid (ab _ _ _ _):=ag.out.below b2;have ai:Hid (ac _ _ _ _):=af.out.below b2;clear JN a0 a1 a2 a3 a4 HB HX HG ag af b2
   cases r1:bd e.runes
   .have HF:Hid (ay es lv=false):=kc HE.out (by rw[t6,r1,Bool.false_and])
    clear HN HE hE hr;go_wp2;go_ret;rw[HF.out];exact⟨rfl,c2.out⟩
   .obtain⟨_,d0,d1,d2,d3,d4⟩:=g2.out.facts
    have GE:=fun w=>N8 e.el w
    go_wp2_with fail;refine (GE _).mono ?_;rintro e' w3 ⟨rfl,b3⟩;have c3:Hid _:=c2.out.trans (b3.mono c2.out.size);have g3:Hid (Eb _ _ _ _):=g2.out.below b3;have x3:Hid (ul _ _ _ _ _):=x2.out.below b3;have i3:Hid (ab _ _ _ _):=i2.out.below b3;have aj:Hid (ac _ _ _ _):=ai.out.below b3;clear GE d0 d1 d2 d3 d4 c2 g2 x2 i2 ai b3
    cases r2:Ms e.el
    .have HF:Hid (ay es lv=false):=kc HE.out (by rw[t6,r2];simp)
     clear HN HE hE hr;go_wp2;go_ret;rw[HF.out];exact⟨rfl,c3.out⟩
    .have az:(k:Int)≤(cap:Int):=by omega
     have a8:=g3.out.facts.1;have a7:=x3.out.1;have hS:w3.cell? ⟨w.heap.size,0,none⟩=some (.slice (some ⟨g,0,none⟩) es.length cap)∧w3.cell? ⟨wr.heap.size,0,none⟩=some (.slice xa xn xc)∧Below w3.heap.size w3 w3:=⟨x3.out.2.1,g3.out.facts.2.1,bX⟩;have a6:=Gin.keep a7 a8 ((Below.refl w3.heap.size w3).drew) hS;have K:=fun (u1 u2:World) (hb:Below u1.heap.size u1 u2) (hu:u1.cell? ⟨w.heap.size,0,none⟩=some (.slice (some ⟨g,0,none⟩) es.length cap)∧u1.cell? ⟨wr.heap.size,0,none⟩=some (.slice xa xn xc)∧Below w3.heap.size w3 u1)=>Gin.keep a7 a8 hb hu
     have ad:=Gin.keep a7 a8 (((Below.refl w3.heap.size w3).alloc bR (.cells #[.int .i64 0,.int .i64 0,.int .i64 0,.bool false] 111)).drew) hS;have K4:=fun (u:World) (a b c d:Value) (hu:u.cell? ⟨w.heap.size,0,none⟩=some (.slice (some ⟨g,0,none⟩) es.length cap)∧u.cell? ⟨wr.heap.size,0,none⟩=some (.slice xa xn xc)∧Below w3.heap.size w3 u)=>Gin.set4 a7 a8 a b c d hu
     unfold Gin at a6 ad K K4;have EN:=fun (u:World) (hu:u.cell? ⟨w.heap.size,0,none⟩=some (.slice (some ⟨g,0,none⟩) es.length cap)∧u.cell? ⟨wr.heap.size,0,none⟩=some (.slice xa xn xc)∧Below w3.heap.size w3 u)=>Uf (n:=w3.heap.size) ((aj.out.below hu.2.2).take k hk) (i3.out.below hu.2.2) (by rw[List.length_take];omega) an (fun x hx=>hr x (List.mem_of_mem_take hx))
     have HW:Hid (dj (es.take k) e.runes=none↔atE es e.runes=(k:Int)):=a68 HE.out;obtain⟨o,ho⟩:∃ o,dj (es.take k) e.runes=o:=⟨_,rfl⟩
     rw[ho]at EN;unfold fo elV at EN;have HO:Hid (dj (es.take k) e.runes=o):=ho;clear ho;have a9:Hid (o.isSome=false→pm es (k+1)):=fun c=>HN.out.succ HE.out (by rw[t6,r1,r2,decide_eq_true (HW.out.1 (by rw[HO.out];simpa using c))];rfl)
     have aa:Hid (o.isSome=true→ay es lv=false):=fun c=>kc HE.out (by
      have:¬ atE es e.runes=(k:Int):=fun d=>by rw[HW.out.2 d]at HO;have:=HO.out;rw[<- this]at c;simp at c
      rw[t6,decide_eq_false this];simp)
     clear HW HO HE HN r1 r2 aj i3;generalize ph o=x0 at *;generalize o.isSome=ob at *;go_wp2_with fail;go_region_held3 (fun u=>u.cell? ⟨w.heap.size,0,none⟩=some (.slice (some ⟨g,0,none⟩) es.length cap)∧u.cell? ⟨wr.heap.size,0,none⟩=some (.slice xa xn xc)∧Below w3.heap.size w3 u)
      (first
       | with_reducible exact a6
       | with_reducible exact ad
       | with_reducible exact K _ _ (by assumption) (by assumption)
       | (with_reducible refine K4 _ _ _ _ _ ?_;first|assumption|exact K _ _ (by assumption) (by assumption))
       | (with_reducible refine K _ _ (bY _) ?_;first|assumption|exact a6|exact K _ _ (by assumption) (by assumption)))
      ((go_at_call 168;refine (EN _ (by assumption)).mono ?_;rintro e' w' ⟨rfl,au,av,aw⟩))
     all_goals
      clear hS a6 ad K K4 EN;obtain⟨_,_,a5⟩:=(show _∧_∧Below w3.heap.size w3 _ by assumption);have x4:Hid (ul _ _ _ _ _):=x3.out.below a5;have c4:Hid _:=c3.out.trans (a5.mono c3.out.size)
      cases ob
      .have ao:Hid (pm es (k+1)):=a9.out rfl
       clear a9 aa a5 hr hE;go_wp2;exact⟨⟨k+1,by omega,by go_num,ao.out,x4.out,c4.out⟩,by simp[intOf];omega⟩
      .have HF:Hid (ay es lv=false):=aa.out rfl
       clear a9 aa a5 hr hE;go_wp2;go_ret;rw[HF.out];exact⟨rfl,c4.out⟩
  .have HA:Hid (ay es lv=true):=F8 HN.out (by omega) hn ⟨ap,aq⟩
   clear HN hE hr;go_wp2;go_ret;rw[HA.out];exact⟨rfl,hb⟩
theorem ut {w:World} {B:Nat} {v:Value} {es:List Ent} {sh:Bool} {lv:Int}(hE:ac w B v es) (hr:∀ e ∈ es,e.runes.length≤1048576) (ht:dr w) :
  Calls prog 153 #[.agg #[v,.bool sh,.int .i64 lv]] w fun e w'=>e=.returned (.bool (ay es lv))∧Below w.heap.size w w':=by
 obtain⟨a,c,rfl⟩:∃ a c,v=.slice a es.length c:=by
  rcases hE.form with ⟨rfl,rfl⟩|⟨g,cap,rfl,_,_,_,_⟩
  .exact⟨_,_,rfl⟩
  .exact⟨_,_,rfl⟩
 by_cases h1:es.length≤40
 .by_cases h2:1≤lv∧lv≤4
  .rcases hE.form with ⟨h,rfl⟩|⟨g,cap,h,_,_,_,_⟩
   .rw[h]
    have e0:ay [] lv=true:=decide_eq_true ⟨by simp,h2,rfl⟩;rw[e0];exact V4 w sh lv h2
   .rw[h]at hE ⊢
    exact V5 w B g cap es sh lv hE h1 h2 hr ht
  .rw[rl (fun h=>h2 h.2)]
   exact V3 w a es.length c sh lv h1 h2
 .rw[rl (fun h=>h1 h.1)]
  exact Qu w a es.length c sh lv (by omega)
end Go.Proofs.YtjbmgghehdemdaaGreatDoor
