/- SRule2 -/
import Derived.Test.YtjbmgghehdemdaaGreatDoorMR3
import Derived.Test.YtjbmgghehdemdaaGreatDoorMR4
import Derived.Deep.Cut
import Derived.Deep.CutRange
import Derived.Deep.RegionLaw
import Derived.Deep.DrawnRows
import Derived.Deep.MidRow
import Derived.Test.YtjbmgghehdemdaaGreatDoorMR8
import Derived.Laws.BytesString
namespace Go.Proofs.YtjbmgghehdemdaaGreatDoor
set_option maxRecDepth 100000
set_option maxHeartbeats 16000000
open _root_.Go.Proofs.Tryz
open Go.RowKit
def mo (es:List Ent) (i:Nat) (e:Ent):Bool :=
 bd e.runes && (decide (atE es e.runes=(i:Int)) && (decide (1<=e.el.first/\e.el.first<=65535) && (decide (32<=e.el.second/\e.el.second<=999) && (decide (2<=e.el.third/\e.el.third<=99) && !e.el.varies))))
def ay (es:List Ent) (lv:Int):Bool:=decide (es.length<=40/\(1<=lv/\lv<=4)/\(es.zipIdx.all fun p=>mo es p.2 p.1)=true)
theorem vh (es:List Ent):(es.zipIdx.all fun p=>mo es p.2 p.1)=true↔∀ i e,es[i]? = some e->mo es i e=true:=by
 rw[List.all_eq_true];exact⟨fun h i e he=>h (e,i) (List.mem_zipIdx_iff_getElem?.2 he),fun h p hp=>h p.2 p.1 (List.mem_zipIdx_iff_getElem?.1 hp)⟩
theorem rl {es:List Ent} {lv:Int}(h:¬ (es.length<=40/\1<=lv/\lv<=4)):ay es lv=false:=decide_eq_false fun c=>h ⟨c.1,c.2.1⟩
theorem kc {es:List Ent} {lv:Int} {i:Nat} {e:Ent}(a:es[i]? = some e) (h:mo es i e=false):ay es lv=false:=decide_eq_false fun c=>by
 have:=(vh es).1 c.2.2 i e a;rw[h]at this;cases this
def pm (es:List Ent) (k:Nat):Prop:=∀ i e,i<k->es[i]? = some e->mo es i e=true
theorem pm.succ {es:List Ent} {k:Nat} {e:Ent}(h:pm es k) (b:es[k]? = some e) (d:mo es k e=true):pm es (k+1):=by
 intro i x f a;by_cases c:i=k
 .subst c;rw[b]at a;cases a;exact d
 .exact h i x (by omega) a
theorem F8 {es:List Ent} {lv:Int} {k:Nat}(h:pm es k) (a:es.length<=k) (h1:es.length<=40) (h2:1<=lv/\lv<=4):ay es lv=true:=decide_eq_true ⟨h1,h2,(vh es).2 fun i e he=>h i e (by have:=(List.getElem?_eq_some_iff.1 he).1;omega) he⟩
def GC (u:World) (b1 b4 b5:Nat) (v:Value) (sh:Bool) (lv:Int) (x:Value) (e:El):Prop :=
 (b1<u.heap.size/\b4<u.heap.size/\b5<u.heap.size)/\(u.cell? ⟨b1,0,none⟩=some v/\u.cell? ⟨b1,1,none⟩=some (.bool sh)/\u.cell? ⟨b1,2,none⟩=some (.int .i64 lv)) /\
  u.cell? ⟨b4,0,none⟩=some x /\
  (u.cell? ⟨b5,0,none⟩=some (.int .i64 e.first)/\u.cell? ⟨b5,1,none⟩=some (.int .i64 e.second)/\u.cell? ⟨b5,2,none⟩=some (.int .i64 e.third)/\u.cell? ⟨b5,3,none⟩=some (.bool e.varies))
theorem GC.below {u u':World} {d f g:Nat} {v:Value} {sh:Bool} {lv:Int} {x:Value} {e:El}(h:GC u d f g v sh lv x e) (a:Below u.heap.size u u'):GC u' d f g v sh lv x e:=by
 obtain⟨⟨c,i,b⟩,⟨j,k,l⟩,m,n,o,p,q⟩:=h;exact⟨⟨Nat.lt_of_lt_of_le c a.size,Nat.lt_of_lt_of_le i a.size,Nat.lt_of_lt_of_le b a.size⟩,⟨by rw[a.cell c];exact j,by rw[a.cell c];exact k,by rw[a.cell c];exact l⟩,by rw[a.cell i];exact m,by rw[a.cell b];exact n,by rw[a.cell b];exact o,by rw[a.cell b];exact p,by rw[a.cell b];exact q⟩
def ul (w wr:World) (v:Value) (sh:Bool) (lv:Int):Prop:=w.heap.size<wr.heap.size/\wr.cell? ⟨w.heap.size,0,none⟩=some v/\wr.cell? ⟨w.heap.size,1,none⟩=some (.bool sh)/\wr.cell? ⟨w.heap.size,2,none⟩=some (.int .i64 lv)
theorem ul.below {w wr w':World} {v:Value} {sh:Bool} {lv:Int}(h:ul w wr v sh lv) (b:Below wr.heap.size wr w'):ul w w' v sh lv:=by
 obtain⟨a,c,d,e⟩:=h;exact⟨Nat.lt_of_lt_of_le a b.size,by rw[b.cell a];exact c,by rw[b.cell a];exact d,by rw[b.cell a];exact e⟩
theorem at9 {w wr:World} {v:Value} {sh:Bool} {lv:Int}(h:ul w wr v sh lv) (x:Value) (e:El) (a:TypeId) (b:TypeId) :
  GC ((wr.alloc (.cells #[x,.int .i64 e.first,.int .i64 e.second,.int .i64 e.third,.bool e.varies] a)).alloc (.cells #[.int .i64 e.first,.int .i64 e.second,.int .i64 e.third,.bool e.varies] b)) w.heap.size wr.heap.size (wr.heap.size+1) v sh lv x e:=by
 have k:=((Below.refl wr.heap.size wr).alloc bR (.cells #[x,.int .i64 e.first,.int .i64 e.second,.int .i64 e.third,.bool e.varies] a)).alloc (by simp) (.cells #[.int .i64 e.first,.int .i64 e.second,.int .i64 e.third,.bool e.varies] b);obtain⟨j,d,f,g⟩:=h.below k;have i:((wr.alloc (.cells #[x,.int .i64 e.first,.int .i64 e.second,.int .i64 e.third,.bool e.varies] a)).alloc (.cells #[.int .i64 e.first,.int .i64 e.second,.int .i64 e.third,.bool e.varies] b)).heap[wr.heap.size]? = some (.cells #[x,.int .i64 e.first,.int .i64 e.second,.int .i64 e.third,.bool e.varies] a):=by
  rw[Below.heap_alloc _ _ _ (by simp)];exact heap_alloc_new wr _
 have c:=heap_alloc2_new wr (.cells #[x,.int .i64 e.first,.int .i64 e.second,.int .i64 e.third,.bool e.varies] a) (.cells #[.int .i64 e.first,.int .i64 e.second,.int .i64 e.third,.bool e.varies] b);exact⟨⟨j,by simp;omega,by simp⟩,⟨d,f,g⟩,cell_of_row _ _ 0 _ _ _ i,cell_of_row _ _ 0 _ _ _ c,cell_of_row _ _ 1 _ _ _ c,cell_of_row _ _ 2 _ _ _ c,cell_of_row _ _ 3 _ _ _ c⟩
def ar5 (w:World) (v:Value) (sh:Bool) (lv:Int) (es:List Ent) (i:Value) (wr:World):Prop:=∃ k:Nat,k<=es.length/\i=.int .i64 k/\pm es k/\ul w wr v sh lv/\Below w.heap.size w wr
theorem V2 (w:World) (a:Option Addr) (n c:Nat) (sh:Bool) (lv:Int) (h:40<n):Calls prog 59 #[.agg #[.slice a n c,.bool sh,.int .i64 lv]] w fun e w'=>e=.returned (.bool false)/\Below w.heap.size w w':=by
 have b:(40:Int)<(n:Int):=by omega
 go_enter func59,ntmps59;go_wp2;go_ret;exact⟨rfl,bY _⟩
theorem Zb (w:World) (a:Option Addr) (n c:Nat) (sh:Bool) (lv:Int) (h:n<=40) (b:¬ (1<=lv/\lv<=4)):Calls prog 59 #[.agg #[.slice a n c,.bool sh,.int .i64 lv]] w fun e w'=>e=.returned (.bool false)/\Below w.heap.size w w':=by
 have d:¬ (40:Int)<(n:Int):=by omega
 have N:=fun w=>jn lv 1 4 b w
 go_enter func59,ntmps59;go_wp2_with (go_at_call 34;refine (N _).mono ?_;rintro e f ⟨rfl,rfl⟩)
 go_ret;exact⟨rfl,bY _⟩
theorem Zd (w:World) (B g cap:Nat) (es:List Ent) (sh:Bool) (lv:Int) (j:ac w B (.slice (some ⟨g,0,none⟩) es.length cap) es) (hn:es.length<=40) (hl:1<=lv/\lv<=4) (l:∀ e ∈ es,e.runes.length<=1048576) :
  Calls prog 59 #[.agg #[.slice (some ⟨g,0,none⟩) es.length cap,.bool sh,.int .i64 lv]] w fun e w'=>e=.returned (.bool (ay es lv))/\Below w.heap.size w w':=by
 have Y:=fun w=>oj lv 1 4 hl w
 have a8:¬ (40:Int)<(es.length:Int):=by omega
 go_enter func59,ntmps59;go_wp2_with (go_at_call 34;refine (Y _).mono ?_;rintro e w1 ⟨rfl,rfl⟩)
 go_loopw [19] (fun i wr=>ar5 w (.slice (some ⟨g,0,none⟩) es.length cap) sh lv es i wr) (fun i _=>es.length-(intOf i).toNat)
 case atStart=>exact⟨0,Nat.zero_le _,rfl,fun i e hi=>by omega,⟨by simp,by simp[World.cell?_alloc_new],by simp[World.cell?_alloc_new],by simp[World.cell?_alloc_new]⟩,bY _⟩
 case round =>
  obtain⟨k,hk,rfl,M,G,p⟩:=hrel;have h:=hZ M;clear M Y;by_cases a5:k<es.length
  .obtain⟨e,E⟩:∃ e,es[k]? = some e:=⟨_,List.getElem?_eq_getElem a5⟩
   obtain⟨x,J,a0,a1,a2,a3,a4⟩:=(j.below p).cells k e E;obtain⟨v,y,xc,rfl⟩:∃ v y xc,x=.slice v y xc:=by
    rcases J.form with ⟨rfl,_⟩|⟨_,_,rfl,_,_⟩
    .exact⟨_,_,_,rfl⟩
    .exact⟨_,_,_,rfl⟩
   have a7:(k:Int)<(es.length:Int):=by omega
   have S:=l e (List.mem_of_getElem? E);have R:=at9 G (.slice v y xc) e.el 117 111;have P:=(p.alloc p.size (.cells #[.slice v y xc,.int .i64 e.el.first,.int .i64 e.el.second,.int .i64 e.el.third,.bool e.el.varies] 117)).alloc (p.alloc p.size _).size (.cells #[.int .i64 e.el.first,.int .i64 e.el.second,.int .i64 e.el.third,.bool e.el.varies] 111);have z:=((Below.refl wr.heap.size wr).alloc bR (.cells #[.slice v y xc,.int .i64 e.el.first,.int .i64 e.el.second,.int .i64 e.el.third,.bool e.el.varies] 117)).alloc (by simp) (.cells #[.int .i64 e.el.first,.int .i64 e.el.second,.int .i64 e.el.third,.bool e.el.varies] 111);have Q:=G.below z;have F:=J.below z;have O:=(j.below p).below z;have W:=rn S F;have a:Hid _:=E;have L:Hid (ab _ _ _ _):=F;have K:Hid (ac _ _ _ _):=O;have H:Hid _:=P
   have V:Hid (ul _ _ _ _ _):=Q;have U:Hid (GC _ _ _ _ _ _ _ _ _):=R;clear E J F O P z Q R G p;go_wp2_with fail;refine W.mono ?_;rintro b w2 ⟨rfl,t⟩;have C:Hid _:=H.out.trans (t.mono H.out.size);have I:Hid (GC _ _ _ _ _ _ _ _ _):=U.out.below t;have x2:Hid (ul _ _ _ _ _):=V.out.below t;have i2:Hid (ab _ _ _ _):=L.out.below t;have N:Hid (ac _ _ _ _):=K.out.below t;clear W a0 a1 a2 a3 a4 H V U L K t
   cases r1:bd e.runes
   .have d:Hid (ay es lv=false):=kc a.out (by unfold mo;rw[r1,Bool.false_and])
    clear h a j l;go_wp2;go_ret;rw[d.out];exact⟨rfl,C.out⟩
   .obtain⟨_,⟨p0,p1,p2⟩,q0,X,Z,d2,D⟩:=I.out
    have T:=ql (sh:=sh) (lv:=lv) N.out i2.out (by omega) S l;go_wp2_with fail;refine T.mono ?_;rintro b w3 ⟨rfl,A⟩;have u:Hid _:=C.out.trans (A.mono C.out.size);have g3:=I.out.below A;have x3:Hid (ul _ _ _ _ _):=x2.out.below A;clear T p0 p1 p2 q0 X Z d2 D C I x2 i2 N A;obtain⟨_,⟨p0,p1,p2⟩,q0,X,Z,d2,D⟩:=g3;by_cases m:atE es e.runes=(k:Int)
    .have a6:(atE es e.runes != (k:Int))=false:=by simp[m]
     by_cases o:1<=e.el.first/\e.el.first<=65535
     .have c:=fun w=>oj e.el.first 1 65535 o w
      by_cases q:32<=e.el.second/\e.el.second<=999
      .have n:=fun w=>oj e.el.second 32 999 q w
       by_cases s:2<=e.el.third/\e.el.third<=99
       .have r:=fun w=>oj e.el.third 2 99 s w
        cases r6:e.el.varies
        .have HO:Hid (pm es (k+1)):=h.out.succ a.out (by unfold mo;rw[r1,decide_eq_true m,decide_eq_true o,decide_eq_true q,decide_eq_true s,r6];rfl)
         rw[r6]at D;clear h a j l r1 m o q s r6;go_wp2_with fail;refine (c _).mono ?_;rintro b f ⟨rfl,rfl⟩;go_wp2_with fail;refine (n _).mono ?_;rintro b f ⟨rfl,rfl⟩;go_wp2_with fail;refine (r _).mono ?_;rintro b f ⟨rfl,rfl⟩;clear c n r;go_wp2;exact⟨⟨k+1,by omega,by go_num,HO.out,x3.out,u.out⟩,by simp[intOf];omega⟩
        .have d:Hid (ay es lv=false):=kc a.out (by unfold mo;rw[r6];simp)
         rw[r6]at D;clear h a j l r1 m o q s r6;go_wp2_with fail;refine (c _).mono ?_;rintro b f ⟨rfl,rfl⟩;go_wp2_with fail;refine (n _).mono ?_;rintro b f ⟨rfl,rfl⟩;go_wp2_with fail;refine (r _).mono ?_;rintro b f ⟨rfl,rfl⟩;clear c n r;go_wp2;go_ret;rw[d.out];exact⟨rfl,u.out⟩
       .have r:=fun w=>jn e.el.third 2 99 s w
        have d:Hid (ay es lv=false):=kc a.out (by unfold mo;rw[decide_eq_false s];simp);clear h a j l r1 m o q s;go_wp2_with fail;refine (c _).mono ?_;rintro b f ⟨rfl,rfl⟩;go_wp2_with fail;refine (n _).mono ?_;rintro b f ⟨rfl,rfl⟩;go_wp2_with fail;refine (r _).mono ?_;rintro b f ⟨rfl,rfl⟩;clear c n r;go_wp2;go_ret;rw[d.out];exact⟨rfl,u.out⟩
      .have n:=fun w=>jn e.el.second 32 999 q w
       have d:Hid (ay es lv=false):=kc a.out (by unfold mo;rw[decide_eq_false q];simp);clear h a j l r1 m o q;go_wp2_with fail;refine (c _).mono ?_;rintro b f ⟨rfl,rfl⟩;go_wp2_with fail;refine (n _).mono ?_;rintro b f ⟨rfl,rfl⟩;clear c n;go_wp2;go_ret;rw[d.out];exact⟨rfl,u.out⟩
     .have c:=fun w=>jn e.el.first 1 65535 o w
      have d:Hid (ay es lv=false):=kc a.out (by unfold mo;rw[decide_eq_false o];simp);clear h a j l r1 m o;go_wp2_with fail;refine (c _).mono ?_;rintro b f ⟨rfl,rfl⟩;clear c;go_wp2;go_ret;rw[d.out];exact⟨rfl,u.out⟩
    .have a6:(atE es e.runes != (k:Int))=true:=by simpa using m
     have d:Hid (ay es lv=false):=kc a.out (by unfold mo;rw[decide_eq_false m];simp);clear h a j l r1 m;go_wp2;go_ret;rw[d.out];exact⟨rfl,u.out⟩
  .have HA:Hid (ay es lv=true):=F8 h.out (by omega) hn hl
   clear h j l;go_wp2;go_ret;rw[HA.out];exact⟨rfl,p⟩
theorem Zc (w:World) (sh:Bool) (lv:Int) (a:1<=lv/\lv<=4):Calls prog 59 #[.agg #[.slice none 0 0,.bool sh,.int .i64 lv]] w fun e w'=>e=.returned (.bool true)/\Below w.heap.size w w':=by
 have Y:=fun w=>oj lv 1 4 a w
 go_enter func59,ntmps59;go_wp2_with (go_at_call 34;refine (Y _).mono ?_;rintro e b ⟨rfl,rfl⟩)
 go_loop [19] (fun i=>i=.int .i64 0) (fun _=>0)
 case atStart=>rfl
 case round =>
  subst hrel;go_wp2;go_ret;exact⟨rfl,bY _⟩
theorem yd {w:World} {B:Nat} {v:Value} {es:List Ent} {sh:Bool} {lv:Int}(d:ac w B v es) (k:∀ e ∈ es,e.runes.length<=1048576) :
  Calls prog 59 #[.agg #[v,.bool sh,.int .i64 lv]] w fun e w'=>e=.returned (.bool (ay es lv))/\Below w.heap.size w w':=by
 obtain⟨a,c,rfl⟩:∃ a c,v=.slice a es.length c:=by
  rcases d.form with ⟨rfl,rfl⟩|⟨g,i,rfl,_,_,_,_⟩
  .exact⟨_,_,rfl⟩
  .exact⟨_,_,rfl⟩
 by_cases f:es.length<=40
 .by_cases b:1<=lv/\lv<=4
  .rcases d.form with ⟨h,rfl⟩|⟨g,i,h,_,_,_,_⟩
   .rw[h]
    have j:ay [] lv=true:=decide_eq_true ⟨by simp,b,rfl⟩;rw[j];exact Zc w sh lv b
   .rw[h]at d ⊢
    exact Zd w B g i es sh lv d f b k
  .rw[rl (fun h=>b h.2)]
   exact Zb w a es.length c sh lv f b
 .rw[rl (fun h=>f h.1)]
  exact V2 w a es.length c sh lv (by omega)
def mk:List El->Option El
 | [e]=>if e.first=0 then none else some e
 | _=>none
def fj (es:List Ent) (l:List Int):Option El :=
 if 0<=atE es l then (es[(atE es l).toNat]?).map (·.el)
 else match l with
  | [r]=>mk (base r)
  | _=>none
def ph (o:Option El):El:=o.getD ⟨0,0,0,false⟩
theorem tn (es:List Ent) (l:List Int):atE es l=-1\/∃ (i:Nat) (e:Ent),es[i]? = some e/\atE es l=(i:Int):=by
 unfold atE
 cases h:es.findIdx? (fun e=>decide (e.runes=l)) with
 | none=>exact .inl rfl
 | some i =>
  obtain⟨a,_⟩:=List.findIdx?_eq_some_iff_getElem.1 h;exact .inr ⟨i,es[i],List.getElem?_eq_getElem a,rfl⟩
theorem Ys {es:List Ent} {l:List Int} {i:Nat} {e:Ent}(a:es[i]? = some e) (h:atE es l=(i:Int)):fj es l=some e.el:=by
 unfold fj;rw[h,if_pos (by omega),Int.toNat_natCast,a];rfl
theorem H9 {es:List Ent} {r:Int}(h:atE es [r]=-1):fj es [r]=mk (base r):=by
 unfold fj;rw[h,if_neg (by omega)]
theorem Jr {es:List Ent} {l:List Int}(h:atE es l=-1) (a:l.length≠1):fj es l=none:=by
 unfold fj;rw[h,if_neg (by omega)];match l,a with
 | [],_=>rfl
 | [_],a=>exact absurd rfl a
 | _::_::_,_=>rfl
def fo (o:Option El):Value:=.tuple #[elV (ph o),.bool o.isSome]
theorem Dw {o:Option El} {e:El}(h:o=some e):Ending.returned (.tuple #[.agg #[.int .i64 e.first,.int .i64 e.second,.int .i64 e.third,.bool e.varies],.bool true])=.returned (fo o):=by rw[h];rfl
theorem mj {o:Option El}(h:o=none):Ending.returned (.tuple #[.agg #[.int .i64 0,.int .i64 0,.int .i64 0,.bool false],.bool false])=.returned (fo o):=by rw[h];rfl
def um (u:World) (b1 b2:Nat) (v:Value) (sh:Bool) (lv:Int):Prop:=u.heap[b1]? = some (.cells #[v,.bool sh,.int .i64 lv] 56)/\u.heap[b2]? = some (.cells #[.int .i64 0,.int .i64 0,.int .i64 0,.bool false] 111)
theorem um.facts {u:World} {b a:Nat} {v:Value} {sh:Bool} {lv:Int}(h:um u b a v sh lv):(b<u.heap.size/\a<u.heap.size)/\(u.cell? ⟨b,0,none⟩=some v/\u.cell? ⟨b,1,none⟩=some (.bool sh)/\u.cell? ⟨b,2,none⟩=some (.int .i64 lv))/\(u.cell? ⟨a,0,none⟩=some (.int .i64 0)/\u.cell? ⟨a,1,none⟩=some (.int .i64 0)/\u.cell? ⟨a,2,none⟩=some (.int .i64 0)/\u.cell? ⟨a,3,none⟩=some (.bool false))/\∀ j,u.frozen? ⟨a,j,none⟩=false :=
 ⟨⟨(Array.getElem?_eq_some_iff.1 h.1).1,(Array.getElem?_eq_some_iff.1 h.2).1⟩,⟨cell_of_row _ _ 0 _ _ _ h.1,cell_of_row _ _ 1 _ _ _ h.1,cell_of_row _ _ 2 _ _ _ h.1⟩,⟨cell_of_row _ _ 0 _ _ _ h.2,cell_of_row _ _ 1 _ _ _ h.2,cell_of_row _ _ 2 _ _ _ h.2,cell_of_row _ _ 3 _ _ _ h.2⟩,fun j=>by simp[World.frozen?,h.2]⟩
theorem um.below {u u':World} {a b:Nat} {v:Value} {sh:Bool} {lv:Int}(h:um u a b v sh lv) (c:Below u.heap.size u u'):um u' a b v sh lv:=by
 have d:=h.facts.1;exact⟨by rw[c.block _ d.1];exact h.1,by rw[c.block _ d.2];exact h.2⟩
theorem Me (w:World) (v:Value) (sh:Bool) (lv:Int):um ((w.alloc (.cells #[v,.bool sh,.int .i64 lv] 56)).alloc (.cells #[.int .i64 0,.int .i64 0,.int .i64 0,.bool false] 111)) w.heap.size (w.heap.size+1) v sh lv :=
 ⟨by rw[Below.heap_alloc _ _ _ (by simp)];exact heap_alloc_new w _,heap_alloc2_new w _ _⟩
theorem fg {w wr:World}(h:Below w.heap.size w wr) (x y z t:Value):Below w.heap.size w ((((wr.setCell ⟨w.heap.size+1,0,none⟩ x).setCell ⟨w.heap.size+1,1,none⟩ y).setCell ⟨w.heap.size+1,2,none⟩ z).setCell ⟨w.heap.size+1,3,none⟩ t) :=
 (((h.setCell (Nat.le_succ _) _).setCell (Nat.le_succ _) _).setCell (Nat.le_succ _) _).setCell (Nat.le_succ _) _
def dj (es:List Ent) (l:List Int):Option El:=if 0<=atE es l then (es[(atE es l).toNat]?).map (·.el) else none
theorem Jt {es:List Ent} {l:List Int} {e:Ent} {k:Nat}(h:mn es l k) (a:es[k]? = some e) (b:e.runes=l):dj es l=some e.el:=by
 unfold dj;rw[In h a b,if_pos (by omega),Int.toNat_natCast,a];rfl
theorem Hb {es:List Ent} {l:List Int} {k:Nat}(h:mn es l k) (a:es.length<=k):dj es l=none:=by
 unfold dj;rw[M3 h a,if_neg (by omega)]
theorem Aj {es:List Ent} {l:List Int}:(dj es l).isSome=decide (0<=atE es l):=by
 rcases tn es l with h|⟨i,e,a,h⟩
 .unfold dj;rw[h];rfl
 .unfold dj;rw[h,if_pos (by omega),Int.toNat_natCast,a];simp
theorem a90 {es:List Ent} {l:List Int} {e:El}(h:dj es l=some e):fj es l=some e:=by
 unfold dj at h;unfold fj;split at h
 .rename_i c;rw[if_pos c];exact h
 .cases h
theorem yu {es:List Ent} {l:List Int}(h:dj es l=none):atE es l=-1:=by
 rcases tn es l with c|⟨i,e,a,c⟩
 .exact c
 .unfold dj at h
  rw[c,if_pos (by omega),Int.toNat_natCast,a]at h
  cases h
theorem Vx {es:List Ent} {l:List Int} {k:Nat}:dj (es.take k) l=none->mn es l k:=by
 intro h j e f d g;have a:=yu h;unfold atE at a;have:(es.take k).findIdx? (fun e=>decide (e.runes=l))=none:=by
  cases c:(es.take k).findIdx? (fun e=>decide (e.runes=l)) with
  | none=>rfl
  | some i=>rw[c]at a;simp only at a;omega
 rw[List.findIdx?_eq_none_iff]at this;have b:=this e (List.mem_of_getElem? (i:=j) (by rw[List.getElem?_take_of_lt f];exact d));simp[g]at b
theorem a69 {es:List Ent} {e:Ent} {k:Nat}(q:es[k]? = some e):(dj (es.take k) e.runes=none)↔atE es e.runes=(k:Int):=by
 constructor
 .intro h
  exact In (Vx h) q rfl
 .intro h
  cases c:dj (es.take k) e.runes with
  | none=>rfl
  | some x =>
   exfalso
   rcases tn (es.take k) e.runes with d|⟨i,y,a,d⟩
   .unfold dj at c;rw[d,if_neg (by omega)]at c;cases c
   .have b:i<k:=by
     have:=(List.getElem?_eq_some_iff.1 a).1;rw[List.length_take]at this;omega
    rw[List.getElem?_take_of_lt b]at a;unfold atE at d h
    cases f:(es.take k).findIdx? (fun x=>decide (x.runes=e.runes)) with
    | none=>rw[f]at d;simp only at d;omega
    | some m =>
     rw[f]at d;have r:m=i:=by simp only at d;omega
     subst r;obtain⟨l,n,o⟩:=List.findIdx?_eq_some_iff_getElem.1 f;have p:es.findIdx? (fun x=>decide (x.runes=e.runes))=some m:=by
      have g:m<es.length:=by rw[List.length_take]at l;omega
      rw[List.findIdx?_eq_some_iff_getElem];refine⟨g,?_,fun j hj=>?_⟩
      .simpa using n
      .have:=o j hj
       simpa using this
     rw[p]at h;simp only at h;omega
def qd (rest:List Int) (k:Nat) (c:Int):Bool:=(rest.take k).any fun x=>decide (c<=cls x)
def iu (es:List Ent) (run rest:List Int):List Int->Nat->Int
 | [],_=>-1
 | m::ms,k=>if cls m=0 then -1 else if qd rest k (cls m)=false/\0<=atE es (run++[m]) then (k:Int) else iu es run rest ms (k+1)
def kn (es:List Ent) (run rest:List Int):Int:=iu es run rest rest 0
theorem Nm {l:List Int} {k:Nat} {x:Int}(h:l[k]? = some x):l.drop k=x::l.drop (k+1):=by
 obtain⟨a,rfl⟩:=List.getElem?_eq_some_iff.1 h;exact List.drop_eq_getElem_cons a
theorem a76 {rest:List Int} {j:Nat} {c x:Int}(h:rest[j]? = some x):qd rest (j+1) c=(qd rest j c || decide (c<=cls x)):=by
 unfold qd;rw[List.take_add_one,h];simp
theorem Iz (es:List Ent) (run rest:List Int) (a:List Int) (k:Nat):iu es run rest a k=-1\/∃ j:Nat,k<=j/\j<k+a.length/\iu es run rest a k=(j:Int):=by
 induction a generalizing k with
 | nil=>exact .inl rfl
 | cons m a ih =>
  unfold iu;split
  .exact .inl rfl
  .split
   .exact .inr ⟨k,bR,by simp,rfl⟩
   .rcases ih (k+1) with h|⟨j,c,d,b⟩
    .exact .inl h
    .exact .inr ⟨j,by omega,by simp;omega,b⟩
theorem Aw (es:List Ent) (run rest:List Int):kn es run rest=-1\/∃ j:Nat,j<rest.length/\kn es run rest=(j:Int):=by
 rcases Iz es run rest rest 0 with h|⟨j,_,b,a⟩
 .exact .inl h
 .exact .inr ⟨j,by omega,a⟩
def o4 (es:List Ent) (l:List Int) (k:Nat):Bool:=decide (k<=l.length) && decide (0<=atE es (l.take k))
def mw (es:List Ent) (l:List Int):Nat:=if o4 es l 4=true then 4 else if o4 es l 3=true then 3 else if o4 es l 2=true then 2 else 1
def ku (es:List Ent) (l:List Int):Nat->Nat
 | 0=>1
 | k+1=>if 2<=k/\o4 es l k=true then k else ku es l k
theorem ab7 {es:List Ent} {l:List Int} {k:Nat}(h:o4 es l k=true):k<=l.length:=by
 unfold o4 at h;simp at h;exact h.1
theorem Nc {es:List Ent} {l:List Int} {k:Nat}(h:l.length<k):o4 es l k=false:=by
 unfold o4;rw[decide_eq_false (by omega),Bool.false_and]
theorem Ka {es:List Ent} {l:List Int} {k:Nat}(h:k<=l.length):o4 es l k=decide (0<=atE es (l.take k)):=by
 unfold o4;rw[decide_eq_true h,Bool.true_and]
theorem Ky (es:List Ent) (l:List Int):ku es l 2=1:=by simp[ku]
theorem rm {es:List Ent} {l:List Int} {k:Nat}(a:2<=k):ku es l (k+1)=if o4 es l k=true then k else ku es l k:=by
 rw[ku];simp[a]
theorem Bf (es:List Ent) (l:List Int):ku es l 5=mw es l:=by
 rw[rm (by omega),rm (by omega),rm (by omega),Ky];rfl
theorem a34 {es:List Ent} {l:List Int} {k:Nat}(h2:2<=k) (b:k<=5) (h:l.length<k):ku es l k=mw es l:=by
 rw[<- Bf];have a:∀ d,k+d<=5->ku es l (k+d)=ku es l k:=by
  intro d;induction d with
  | zero=>intro _;rfl
  | succ d ih =>
   intro hd;rw[show k+(d+1)=(k+d)+1 by omega,rm (by omega),Nc (by omega)];exact ih (by omega)
 have:=a (5-k) (by omega);rw[show k+(5-k)=5 by omega]at this;exact this.symm
theorem Ou {es:List Ent} {l:List Int} {k:Nat}(h:1<=l.length):1<=ku es l k/\ku es l k<=l.length/\ku es l k<=max 1 (k-1):=by
 induction k with
 | zero=>exact⟨bR,h,by simp[ku]⟩
 | succ k ih =>
  rw[ku];split
  .rename_i c
   have:=ab7 c.2;omega
  .omega
theorem J6 {es:List Ent} {l:List Int}(h:1<=l.length):1<=mw es l/\mw es l<=l.length/\mw es l<=4:=by
 have:=Ou (es:=es) (k:=5) h;rw[Bf]at this;omega
theorem ag4 {es:List Ent} {l:List Int} {k:Nat}(h2:2<=k) (b:k<=4) (h:o4 es l k=true) (a:∀ j,k<j->j<=4->o4 es l j=false):mw es l=k:=by
 unfold mw;obtain rfl|rfl|rfl:k=2\/k=3\/k=4:=by omega
 .rw[a 4 (by omega) (by omega),a 3 (by omega) (by omega),h];simp
 .rw[a 4 (by omega) (by omega),h];simp
 .rw[h];simp
theorem ag5 {es:List Ent} {l:List Int}(a:∀ j,1<j->j<=4->o4 es l j=false):mw es l=1:=by
 unfold mw;rw[a 4 (by omega) (by omega),a 3 (by omega) (by omega),a 2 (by omega) (by omega)];simp
def rg (es:List Ent):Nat->List Int->List Int->List Int × List Int
 | 0,run,rest=>(run,rest)
 | f+1,run,rest=>if kn es run rest<0 then (run,rest) else rg es f (run++[at0 rest (kn es run rest).toNat]) (rest.eraseIdx (kn es run rest).toNat)
def mf (es:List Ent) (run rest:List Int):List Int × List Int:=rg es rest.length run rest
theorem K9 {es:List Ent} {run rest:List Int}(h:kn es run rest=-1):mf es run rest=(run,rest):=by
 unfold mf
 cases rest.length with
 | zero=>rfl
 | succ n=>rw[rg,if_pos (by omega)]
theorem Su {es:List Ent} {run rest:List Int} {k:Nat}(a:k<rest.length) (h:kn es run rest=(k:Int)):mf es run rest=mf es (run++[at0 rest k]) (rest.eraseIdx k):=by
 unfold mf;rw[List.length_eraseIdx_of_lt a];obtain⟨n,b⟩:∃ n,rest.length=n+1:=⟨rest.length-1,by omega⟩
 rw[b,rg,if_neg (by omega),h,Int.toNat_natCast];rfl
theorem Va (es:List Ent) (f:Nat) (run rest:List Int) (h1:1<=run.length) :
  (rg es f run rest).1.length+(rg es f run rest).2.length=run.length+rest.length/\1<=(rg es f run rest).1.length/\at0 (rg es f run rest).1 0=at0 run 0 /\
  (∀ x ∈ (rg es f run rest).1,x ∈ run\/x ∈ rest)/\(∀ x ∈ (rg es f run rest).2,x ∈ rest):=by
 induction f generalizing run rest with
 | zero=>exact⟨rfl,h1,rfl,fun x i=>.inl i,fun x i=>i⟩
 | succ f ih =>
  unfold rg;split
  .exact⟨rfl,h1,rfl,fun x i=>.inl i,fun x i=>i⟩
  .rename_i c
   rcases Aw es run rest with h|⟨j,l,h⟩
   .omega
   .rw[h,Int.toNat_natCast]
    obtain⟨a,b,d,e,g⟩:=ih (run++[at0 rest j]) (rest.eraseIdx j) (by simp);refine⟨?_,b,?_,?_,?_⟩
    .rw[a,List.length_append,List.length_eraseIdx_of_lt l]
     simp
     omega
    .rw[d]
     unfold at0;rw[List.getElem?_append_left (by omega)]
    .intro x i
     rcases e x i with h1|h1
     .rcases List.mem_append.1 h1 with k|k
      .exact .inl k
      .right
       simp only[List.mem_singleton]at k;subst k;unfold at0;rw[List.getElem?_eq_getElem l];exact List.getElem_mem l
     .exact .inr (List.mem_of_mem_eraseIdx h1)
    .intro x i
     exact List.mem_of_mem_eraseIdx (g x i)
theorem Zg (es:List Ent) (run rest:List Int) (h1:1<=run.length) :
  (mf es run rest).1.length+(mf es run rest).2.length=run.length+rest.length/\1<=(mf es run rest).1.length/\at0 (mf es run rest).1 0=at0 run 0 /\
  (∀ x ∈ (mf es run rest).1,x ∈ run\/x ∈ rest)/\(∀ x ∈ (mf es run rest).2,x ∈ rest):=Va es rest.length run rest h1
def ju (es:List Ent) (run:List Int):List El:=match dj es run with
 | some e=>[e]
 | none=>base (at0 run 0)
theorem C8 (es:List Ent) (run:List Int):(ju es run).length<=2:=by
 unfold ju;split
 .simp
 .exact M4 _
def fk (es:List Ent) (l:List Int):List Int × List Int:=mf es (l.take (mw es l)) (l.drop (mw es l))
theorem pe {es:List Ent} {l:List Int}(h:1<=l.length) :
  (fk es l).1.length+(fk es l).2.length=l.length/\1<=(fk es l).1.length/\at0 (fk es l).1 0=at0 l 0/\(∀ x ∈ (fk es l).1,x ∈ l)/\(∀ x ∈ (fk es l).2,x ∈ l):=by
 obtain⟨g,i,j⟩:=J6 (es:=es) h;obtain⟨a,b,c,d,e⟩:=Zg es (l.take (mw es l)) (l.drop (mw es l)) (by rw[List.length_take];omega);refine⟨?_,b,?_,?_,?_⟩
 .show (mf es _ _).1.length+(mf es _ _).2.length=_
  rw[a,List.length_take,List.length_drop];omega
 .show at0 (mf es _ _).1 0=_
  rw[c];unfold at0;rw[List.getElem?_take_of_lt (by omega)]
 .intro x f
  rcases d x f with h|h
  .exact List.mem_of_mem_take h
  .exact List.mem_of_mem_drop h
 .intro x f
  exact List.mem_of_mem_drop (e x f)
def kj (es:List Ent):Nat->List Int->List El
 | 0,_=>[]
 | f+1,l=>if l.length=0 then [] else ju es (fk es l).1++kj es f (fk es l).2
def eb (es:List Ent) (l:List Int):List El:=kj es l.length l
theorem Qf (es:List Ent) (f g:Nat) (l:List Int) (h1:l.length<=f) (h2:l.length<=g):kj es f l=kj es g l:=by
 induction f generalizing g l with
 | zero =>
  have:l.length=0:=by omega
  cases g with
  | zero=>rfl
  | succ g=>rw[kj,kj,if_pos this]
 | succ f ih =>
  by_cases c:l.length=0
  .cases g with
   | zero=>rw[kj,kj,if_pos c]
   | succ g=>rw[kj,kj,if_pos c,if_pos c]
  .cases g with
   | zero=>omega
   | succ g =>
    have:=pe (es:=es) (l:=l) (by omega);rw[kj,kj,if_neg c,if_neg c,ih g (fk es l).2 (by omega) (by omega)]
theorem Ha (es:List Ent):eb es []=[]:=rfl
theorem Ef {es:List Ent} {l:List Int}(h:1<=l.length):eb es l=ju es (fk es l).1++eb es (fk es l).2:=by
 unfold eb;obtain⟨n,a⟩:∃ n,l.length=n+1:=⟨l.length-1,by omega⟩
 have:=pe (es:=es) h;rw[a,kj,if_neg (by omega),Qf es n (fk es l).2.length (fk es l).2 (by omega) bR]
theorem Ua (es:List Ent) (f:Nat) (l:List Int):(kj es f l).length<=2*l.length:=by
 induction f generalizing l with
 | zero=>exact Nat.zero_le _
 | succ f ih =>
  rw[kj];split
  .exact Nat.zero_le _
  .have:=pe (es:=es) (l:=l) (by omega)
   have a:=ih (fk es l).2;have b:=C8 es (fk es l).1;rw[List.length_append];omega
theorem Ai (es:List Ent) (l:List Int):(eb es l).length<=2*l.length:=Ua es l.length l
theorem U9 {P:El->Prop} {es:List Ent}(g:∀ e ∈ es,P e.el) (f:Nat) (l:List Int) (d:∀ x ∈ l,∀ e ∈ base x,P e):∀ e ∈ kj es f l,P e:=by
 induction f generalizing l with
 | zero=>intro e a;cases a
 | succ f ih =>
  intro e a;rw[kj]at a;split at a
  .cases a
  .rename_i c
   have b:=pe (es:=es) (l:=l) (by omega);rcases List.mem_append.1 a with h|h
   .unfold ju at h
    split at h
    .rename_i x hx
     simp only[List.mem_singleton]at h;subst h;unfold dj at hx;split at hx
     .obtain⟨y,i,rfl⟩:=Option.map_eq_some_iff.1 hx
      exact g y (List.mem_of_getElem? i)
     .cases hx
    .refine d (at0 (fk es l).1 0) ?_ e h
     rw[b.2.2.1];unfold at0;rw[List.getElem?_eq_getElem (show 0<l.length by omega)];exact List.getElem_mem _
   .exact ih _ (fun x hx=>d x (b.2.2.2.2 x hx)) e h
theorem U8 {P:El->Prop} {es:List Ent}(a:∀ e ∈ es,P e.el) (l:List Int) (b:∀ x ∈ l,∀ e ∈ base x,P e):∀ e ∈ eb es l,P e:=U9 a l.length l b
theorem pc {b:Array Oper} {o:Oper} {a:Act} {w:World} {K:Act->World->Prop} {Q:Exit->Act->World->Prop} {E:Prop}(D:Region.wanted o (yielded b a.tmps)=true) (s x:Operand)
  (A:o.op=.call { callee:=.builtin .append,args:=#[s,x],argTypes:=#[39,39] }) (B:Nat) (v:Value) (l l':List Int) (C:a.eval s=v) (i:ab w B v l)
  (ad:Addr) (m c:Nat) (F:a.eval x=.slice (some ad) m c) (e:l'.length=m) (f:∀ j u,(l'.map (Value.int .i64))[j]? = some u->w.cell? (ad.add j)=some u) (z:0<m) (H:l.length+m<=1048576) (d:B<=w.heap.size) (N:Nat) (r:N=l.length+m) (L:List Int) (q:L=l++l')
  (h:∀ g cap w',ab w' B (.slice (some ⟨g,0,none⟩) N cap) L->w.grownBy w' v.ownBlock->g<w'.heap.size->K (a.put o.dst (.slice (some ⟨g,0,none⟩) N cap)) w') :
  if Region.wanted o (yielded b a.tmps)=true then Oper.wp prog o a w K Q else E:=by
 obtain⟨G,t,p,k,n⟩:=info_parts dv;rw[if_pos D];subst r;subst q;subst e;refine wp_append_lies w s x 39 A B 3 G (.int .i64 0) 1 8 underlying39 t p k n rfl (by decide) v l.length (l.map (Value.int .i64)) C i ad l'.length c (l'.map (Value.int .i64)) F (by simp) f (fun u hu=>by obtain⟨y,_,rfl⟩:=List.mem_map.1 hu;rfl) z (by unfold maxLen;omega) (by omega) d w.heap.size rfl fun g cap w' h1 h2 _ h4=>h g cap w' ?_ h2 h4
 unfold ab;rw[List.length_append,List.map_append];exact h1
theorem uc (w:World) (n B:Nat) (b:n=w.heap.size) (a:B<=n):ab (w.alloc (.cells #[] 3)) B (.slice (some ⟨n,0,none⟩) 0 0) []:=by
 subst b;exact⟨rfl,.inr ⟨w.heap.size,0,#[],rfl,a,heap_alloc_new _ _,bR,Nat.zero_le _,rfl,rfl⟩⟩
theorem Zm {w:World} {B:Nat} {v:Value} {l:List Int}(h:ab w B v l):ab w.drew B v l:=h
theorem As {w:World} {B:Nat} {v:Value} {l:List Int}(h:ab w B v l) (o:Obj):ab (w.alloc o) B v l:=World.ownsRow.alloc h o
def ig (w:World) (n:Nat) (x:Int):Prop:=n<w.heap.size/\w.cell? ⟨n,0,none⟩=some (.int .i64 x)
theorem ig.new (w:World) (n:Nat) (x:Int) (a:n=w.heap.size):ig (w.alloc (.cells #[.int .i64 x] 3)) n x:=by
 subst a;exact⟨by simp,by simp⟩
theorem ig.alloc {w:World} {n:Nat} {x:Int}(h:ig w n x) (o:Obj):ig (w.alloc o) n x :=
 ⟨Nat.lt_of_lt_of_le h.1 (by simp),(World.cell?_of_block (Below.heap_alloc _ _ _ h.1)).trans h.2⟩
theorem ig.grown {w w':World} {row:Option Nat} {n:Nat} {x:Int}(h:ig w n x) (a:w.grownBy w' row) (b:some n≠row):ig w' n x :=
 ⟨Nat.lt_of_lt_of_le h.1 a.size,(a.cell_far _ h.1 b).trans h.2⟩
theorem ig.news {w:World} {n:Nat} {x:Int}(h:ig w n x):∀ j u,(([x]:List Int).map (Value.int .i64))[j]? = some u->w.cell? ((⟨n,0,none⟩:Addr).add j)=some u:=by
 intro j u a;match j,a with
 | 0,a=>simp at a;subst a;simpa [Addr.add] using h.2
theorem ig.of {w w':World} {n:Nat} {x:Int}(h:ig w n x) (e:w'.heap=w.heap):ig w' n x:=by
 refine⟨by rw[e];exact h.1,?_⟩;rw[World.cell?_of_block (w:=w) (w':=w') (by rw[e])];exact h.2
theorem nt {w w':World} {B:Nat} {v:Value} {l:List Int}(h:ab w B v l) (e:w'.heap=w.heap):ab w' B v l:=by
 unfold ab World.ownsRow at h ⊢;rw[e];exact h
theorem Rg (n:Nat):some (n+1)≠(Value.slice (some ⟨n,0,none⟩) 0 0).ownBlock:=fun e=>by injection e with a;simp at a
theorem Rf (n:Nat):some n≠(Value.slice (some ⟨n+1,0,none⟩) 0 0).ownBlock:=fun e=>by injection e with a;simp at a
theorem at5 {u W:World}(e:W.heap=(u.alloc (.cells #[] 3)).heap):ab W u.heap.size (.slice (some ⟨u.heap.size,0,none⟩) 0 0) []:=nt (uc u _ _ rfl bR) e
theorem at6 {u W:World} {x:Int}(e:W.heap=((u.alloc (.cells #[] 3)).alloc (.cells #[.int .i64 x] 3)).heap):ab W u.heap.size (.slice (some ⟨u.heap.size,0,none⟩) 0 0) []:=nt (As (uc u _ _ rfl bR) _) e
theorem at7 {u W:World} {x:Int}(e:W.heap=((u.alloc (.cells #[.int .i64 x] 3)).alloc (.cells #[] 3)).heap):ab W u.heap.size (.slice (some ⟨u.heap.size+1,0,none⟩) 0 0) []:=nt (uc _ _ _ (by simp) (by omega)) e
theorem b17 {u W W':World} {x:Int}(a:W.grownBy W' (Value.slice (some ⟨u.heap.size,0,none⟩) 0 0).ownBlock) (e:W.heap=((u.alloc (.cells #[] 3)).alloc (.cells #[.int .i64 x] 3)).heap):ig W' (u.heap.size+1) x:=((ig.new _ _ x (by simp)).of e).grown a (Rg _)
theorem b18 {u W W':World} {x:Int}(a:W.grownBy W' (Value.slice (some ⟨u.heap.size+1,0,none⟩) 0 0).ownBlock) (e:W.heap=((u.alloc (.cells #[.int .i64 x] 3)).alloc (.cells #[] 3)).heap):ig W' u.heap.size x:=(((ig.new u _ x rfl).alloc _).of e).grown a (Rf _)
def l6 (w u:World) (v:Value) (sh:Bool) (lv:Int):Prop:=u.heap[w.heap.size]? = some (.cells #[v,.bool sh,.int .i64 lv] 56)
theorem l6.below {w u u':World} {v:Value} {sh:Bool} {lv:Int}(h:l6 w u v sh lv) (a:Below u.heap.size u u'):l6 w u' v sh lv:=by
 unfold l6;rw[a.block _ (Array.getElem?_eq_some_iff.1 h).1];exact h
def ay7 (w:World) (es:List Ent) (run rest:List Int) (v:Value) (sh:Bool) (lv:Int) (ans:Int) (i:Value) (wr:World):Prop :=
 ∃ k:Nat,k<=rest.length/\i=.int .i64 k/\iu es run rest (rest.drop k) k=ans/\l6 w wr v sh lv/\Below w.heap.size w wr
theorem Zz (w:World) (B Br Bs C cr gs cs:Nat) (v:Value) (es:List Ent) (sh:Bool) (lv:Int) (run rest:List Int) (hE:ac w B v es) (hn:es.length<=1048576) (hr:∀ e ∈ es,e.runes.length<=1048576)
  (hR:ab w Br (.slice (some ⟨C,0,none⟩) run.length cr) run) (Y:ab w Bs (.slice (some ⟨gs,0,none⟩) rest.length cs) rest) (h1:1<=run.length) (al:run.length<=4000) (am:rest.length<=4000) :
  Calls prog 151 #[.agg #[v,.bool sh,.int .i64 lv],.slice (some ⟨C,0,none⟩) run.length cr,.slice (some ⟨gs,0,none⟩) rest.length cs] w fun e w'=>e=.returned (.int .i64 (kn es run rest))/\Below w.heap.size w w':=by
 obtain⟨i0,I,ap,an,ao⟩:=info_parts dv;obtain⟨l,S⟩:∃ l,Hid (kn es run rest=l):=⟨_,rfl⟩
 rw[S.out];obtain⟨P,R,Q,rfl⟩:∃ a n c,v=.slice a n c:=by
  rcases hE.form with ⟨rfl,_⟩|⟨_,_,rfl,_,_,_,_⟩
  .exact⟨_,_,_,rfl⟩
  .exact⟨_,_,_,rfl⟩
 have F:=fun r w=>Bt r w
 have ad:rest.length<=cs:=by
  rcases Y.form with ⟨h,_⟩|⟨_,_,h,h2,_⟩
  .cases h
  .injection h with _ _ h3;omega
 go_enter func151,ntmps151;go_wp2;go_loopw [15] (fun i wr=>ay7 w es run rest (.slice P R Q) sh lv l i wr) (fun i _=>rest.length-(intOf i).toNat)
 case atStart=>exact⟨0,Nat.zero_le _,rfl,by rw[List.drop_zero];exact S.out,heap_alloc_new w _,bY _⟩
 case round =>
  clear S;obtain⟨k,g,rfl,hA,q,s⟩:=hrel;have K:Hid _:=hA;clear hA;by_cases U:k<rest.length
  .obtain⟨m,hm⟩:∃ m,rest[k]? = some m:=⟨_,List.getElem?_eq_getElem U⟩
   have c0:=ji (Y.below s) k m hm;have aj:(k:Int)<(rest.length:Int):=by omega
   have J:Hid ((if cls m=0 then -1 else if qd rest k (cls m)=false/\0<=atE es (run++[m]) then (k:Int) else iu es run rest (rest.drop (k+1)) (k+1))=l):=by
    show _=_
    rw[<- K.out,Nm hm];rfl
   clear K;by_cases M:cls m=0
   .have p:Hid (-1=l):=by show _=_;rw[<- J.out,if_pos M]
    have E:=fun w=>F m w
    rw[M]at E;clear J F;go_wp2_with fail;refine (E _).mono ?_;rintro e w3 ⟨rfl,rfl⟩;go_wp2;go_ret;rw[<- p.out];exact⟨rfl,s⟩
   .have A:Hid ((if qd rest k (cls m)=false/\0<=atE es (run++[m]) then (k:Int) else iu es run rest (rest.drop (k+1)) (k+1))=l):=by show _=_;rw[<- J.out,if_neg M]
    have aa:(cls m == 0)=false:=by simpa using M
    clear J;obtain⟨c,HC⟩:∃ c,Hid (cls m=c):=⟨_,rfl⟩
    have E:=fun w=>F m w
    rw[HC.out]at E aa A;have a9:=Y.below s;have ak:k<=cs:=by omega
    go_wp2_with fail;refine (E _).mono ?_;rintro e w3 ⟨rfl,ag⟩;obtain rfl:wr=w3:=ag.symm;clear E c0;go_wp2_with fail;go_loop [10,28] (fun bv i=>∃ j:Nat,j<=k/\i=.int .i64 j/\bv=.bool (qd rest j c)) (fun _ i=>k-(intOf i).toNat)
    case atStart=>exact⟨0,Nat.zero_le _,rfl,rfl⟩
    case round =>
     obtain⟨j,hj,rfl,rfl⟩:=hrel;by_cases a5:j<k
     .obtain⟨x,N⟩:∃ x,rest[j]? = some x:=⟨_,List.getElem?_eq_getElem (by omega)⟩
      have cx:=ji a9 j x N;have ai:(j:Int)<(k:Int):=by omega
      have D:=a76 (c:=c) N
      cases hbl:qd rest j c
      .have CX:=fun w=>F x w
       rw[hbl,Bool.false_or]at D;have T:Hid _:=D;clear D N;go_wp2_with fail;refine (CX _).mono ?_;rintro e w4 ⟨rfl,ah⟩;obtain rfl:wr=w4:=ah.symm;clear CX;go_wp2;exact⟨⟨j+1,a5,by go_num,by rw[T.out]⟩,by simp[intOf];omega⟩
      .rw[hbl,Bool.true_or]at D
       have T:Hid _:=D;clear D N;go_wp2;exact⟨⟨j+1,a5,by go_num,by rw[T.out]⟩,by simp[intOf];omega⟩
     .have ae:j=k:=by omega
      subst ae;obtain⟨p0,p1,p2⟩:wr.cell? ⟨w.heap.size,0,none⟩=some (.slice P R Q)/\wr.cell? ⟨w.heap.size,1,none⟩=some (.bool sh)/\wr.cell? ⟨w.heap.size,2,none⟩=some (.int .i64 lv):=⟨cell_of_row _ _ 0 _ _ _ q,cell_of_row _ _ 1 _ _ _ q,cell_of_row _ _ 2 _ _ _ q⟩;generalize hbl:qd rest j c=bb
      cases bb
      .have HB:Hid (l6 _ _ _ _ _):=q
       have a2:Hid _:=s;have L:∀ W:World,Below wr.heap.size wr W->∀ i u,(run.map (Value.int .i64))[i]? = some u->W.cell? ((⟨C,0,none⟩:Addr).add i)=some u:=fun W Z i u I=>by
        rw[List.getElem?_map,Option.map_eq_some_iff]at I;obtain⟨y,hy,rfl⟩:=I;rw[Addr.add_mid,Z.cell (Nat.lt_of_lt_of_le (World.ownsRow.lt hR C rfl).2 s.size),Nat.zero_add];exact ji (hR.below s) i y hy
       have AT:=fun (W:World) (B':Nat) (v':Value) (Z:Below wr.heap.size wr W) (I:ab W B' v' (run++[m]))=>ql (sh:=sh) (lv:=lv) ((hE.below s).below Z) I hn (by rw[List.length_append];simp;omega) hr
       go_wp2_with fail;have KS:Hid (∀ u,Below wr.heap.size wr u->u.cell? ⟨w.heap.size,0,none⟩=some (.slice P R Q)/\u.cell? ⟨w.heap.size,1,none⟩=some (.bool sh)/\u.cell? ⟨w.heap.size,2,none⟩=some (.int .i64 lv)):=fun u hu=>(show _ from ⟨cell_of_row _ _ 0 _ _ _ (q.below hu),cell_of_row _ _ 1 _ _ _ (q.below hu),cell_of_row _ _ 2 _ _ _ (q.below hu)⟩)
       go_region_held3 (fun u=>u.cell? ⟨w.heap.size,0,none⟩=some (.slice P R Q)/\u.cell? ⟨w.heap.size,1,none⟩=some (.bool sh)/\u.cell? ⟨w.heap.size,2,none⟩=some (.int .i64 lv)) (exact KS.out _ (by repeat (first|with_reducible exact bX|with_reducible exact f|with_reducible exact d|with_reducible exact b|with_reducible refine Below.drew ?_|with_reducible refine Below.alloc ?_ (by first|omega|(simp;done)|(simp;omega)) _))) ((first
        | (refine pc (by rfl) (.tmp 44) (.tmp 45) rfl wr.heap.size (.slice (some ⟨wr.heap.size,0,none⟩) 0 0) [] run rfl (at5 rfl) ⟨C,0,none⟩ run.length cr rfl rfl (L _ (by repeat (first|with_reducible exact bX|with_reducible exact f|with_reducible exact d|with_reducible exact b|with_reducible refine Below.drew ?_|with_reducible refine Below.alloc ?_ (by first|omega|(simp;done)|(simp;omega)) _))) (by omega) (by simp;omega) (by first|omega|(simp;done)|(simp;omega)) run.length (by simp) run rfl ?_;intro H G w2 t o a6;have b:Below wr.heap.size wr w2:=Below.grown (by repeat (first|with_reducible exact bX|with_reducible exact f|with_reducible exact d|with_reducible exact b|with_reducible refine Below.drew ?_|with_reducible refine Below.alloc ?_ (by first|omega|(simp;done)|(simp;omega)) _)) o (by first|omega|(simp;done)|(simp;omega)) (fun k g=>by simp[Value.ownBlock]at g;omega);have a0:=b.size;clear o)
        | (refine pc (by rfl) (.tmp 44) (.tmp 45) rfl wr.heap.size (.slice (some ⟨wr.heap.size,0,none⟩) 0 0) [] run rfl (at6 (x:=m) rfl) ⟨C,0,none⟩ run.length cr rfl rfl (L _ (by repeat (first|with_reducible exact bX|with_reducible exact f|with_reducible exact d|with_reducible exact b|with_reducible refine Below.drew ?_|with_reducible refine Below.alloc ?_ (by first|omega|(simp;done)|(simp;omega)) _))) (by omega) (by simp;omega) (by first|omega|(simp;done)|(simp;omega)) run.length (by simp) run rfl ?_;intro H G w2 t o a6;have b:Below wr.heap.size wr w2:=Below.grown (by repeat (first|with_reducible exact bX|with_reducible exact f|with_reducible exact d|with_reducible exact b|with_reducible refine Below.drew ?_|with_reducible refine Below.alloc ?_ (by first|omega|(simp;done)|(simp;omega)) _)) o (by first|omega|(simp;done)|(simp;omega)) (fun k g=>by simp[Value.ownBlock]at g;omega);have a0:=b.size;have V:=b17 (x:=m) o rfl;clear o)
        | (refine pc (by rfl) (.tmp 44) (.tmp 45) rfl wr.heap.size (.slice (some ⟨wr.heap.size+1,0,none⟩) 0 0) [] run rfl (at7 (x:=m) rfl) ⟨C,0,none⟩ run.length cr rfl rfl (L _ (by repeat (first|with_reducible exact bX|with_reducible exact f|with_reducible exact d|with_reducible exact b|with_reducible refine Below.drew ?_|with_reducible refine Below.alloc ?_ (by first|omega|(simp;done)|(simp;omega)) _))) (by omega) (by simp;omega) (by first|omega|(simp;done)|(simp;omega)) run.length (by simp) run rfl ?_;intro H G w2 t o a6;have b:Below wr.heap.size wr w2:=Below.grown (by repeat (first|with_reducible exact bX|with_reducible exact f|with_reducible exact d|with_reducible exact b|with_reducible refine Below.drew ?_|with_reducible refine Below.alloc ?_ (by first|omega|(simp;done)|(simp;omega)) _)) o (by first|omega|(simp;done)|(simp;omega)) (fun k g=>by simp[Value.ownBlock]at g;omega);have a0:=b.size;have V:=b18 (x:=m) o rfl;clear o)
        | (refine pc (by rfl) (.tmp 46) (.tmp 48) rfl wr.heap.size (.slice (some ⟨H,0,none⟩) run.length G) run [m] rfl (nt (As t (.cells #[.int .i64 m] 3)) rfl) ⟨w2.heap.size,0,none⟩ 1 1 rfl rfl (ig.news ((ig.new w2 _ m rfl).of rfl)) (by omega) (by omega) (by have:=b.size;first|omega|(simp;done)|(simp;omega)) (run.length+1) rfl (run++[m]) rfl ?_;intro g3 c3 w3 O z a7;have d:Below wr.heap.size wr w3:=Below.grown (by repeat (first|with_reducible exact bX|with_reducible exact f|with_reducible exact d|with_reducible exact b|with_reducible refine Below.drew ?_|with_reducible refine Below.alloc ?_ (by first|omega|(simp;done)|(simp;omega)) _)) z (by have:=b.size;first|omega|(simp;done)|(simp;omega)) (fun k g=>(World.ownsRow.lt t k g).1);have a1:=d.size;clear z)
        | (refine pc (by rfl) (.tmp 46) (.tmp 48) rfl wr.heap.size (.slice (some ⟨H,0,none⟩) run.length G) run [m] rfl (nt t rfl) ⟨wr.heap.size+1,0,none⟩ 1 1 rfl rfl (ig.news (V.of rfl)) (by omega) (by omega) (by have:=b.size;first|omega|(simp;done)|(simp;omega)) (run.length+1) rfl (run++[m]) rfl ?_;intro g3 c3 w3 O z a7;have d:Below wr.heap.size wr w3:=Below.grown (by repeat (first|with_reducible exact bX|with_reducible exact f|with_reducible exact d|with_reducible exact b|with_reducible refine Below.drew ?_|with_reducible refine Below.alloc ?_ (by first|omega|(simp;done)|(simp;omega)) _)) z (by have:=b.size;first|omega|(simp;done)|(simp;omega)) (fun k g=>(World.ownsRow.lt t k g).1);have a1:=d.size;clear z)
        | (refine pc (by rfl) (.tmp 46) (.tmp 48) rfl wr.heap.size (.slice (some ⟨H,0,none⟩) run.length G) run [m] rfl (nt t rfl) ⟨wr.heap.size,0,none⟩ 1 1 rfl rfl (ig.news (V.of rfl)) (by omega) (by omega) (by have:=b.size;first|omega|(simp;done)|(simp;omega)) (run.length+1) rfl (run++[m]) rfl ?_;intro g3 c3 w3 O z a7;have d:Below wr.heap.size wr w3:=Below.grown (by repeat (first|with_reducible exact bX|with_reducible exact f|with_reducible exact d|with_reducible exact b|with_reducible refine Below.drew ?_|with_reducible refine Below.alloc ?_ (by first|omega|(simp;done)|(simp;omega)) _)) z (by have:=b.size;first|omega|(simp;done)|(simp;omega)) (fun k g=>(World.ownsRow.lt t k g).1);have a1:=d.size;clear z)
        | (go_at_call 57;refine (AT _ _ _ (by repeat (first|with_reducible exact bX|with_reducible exact f|with_reducible exact d|with_reducible exact b|with_reducible refine Below.drew ?_|with_reducible refine Below.alloc ?_ (by first|omega|(simp;done)|(simp;omega)) _)) (by repeat (first|with_reducible exact O|with_reducible refine Zm ?_|with_reducible refine As ?_ _))).mono ?_;rintro e w4 ⟨rfl,X⟩;have f:Below wr.heap.size wr w4:=d.trans (Below.mono (by first|exact X|exact (bX.drew).trans X) d.size))))
       all_goals
        have a4:Below w.heap.size w w4:=a2.out.trans (f.mono a2.out.size);have a3:Hid _:=a4;have a8:Hid (l6 _ _ _ _ _):=q.below f;clear AT L KS a4 f d b O t X;by_cases hp:0<=atE es (run++[m])
        .have p:Hid ((j:Int)=l):=by show _=_;rw[<- A.out,if_pos ⟨hbl,hp⟩]
         clear A;go_wp2;go_ret;rw[<- p.out];exact⟨rfl,a3.out⟩
        .have p:Hid (iu es run rest (rest.drop (j+1)) (j+1)=l):=by show _=_;rw[<- A.out,if_neg (fun c=>hp c.2)]
         clear A;go_wp2;exact⟨⟨j+1,U,by go_num,p.out,a8.out,a3.out⟩,by simp[intOf];omega⟩
      .have p:Hid (iu es run rest (rest.drop (j+1)) (j+1)=l):=by show _=_;rw[<- A.out,if_neg (by simp[hbl])]
       clear A F;go_wp2_with fail;go_quiet (fail)
       go_wp2;exact⟨⟨j+1,U,by go_num,p.out,q.below (below_drewN bX _),below_drewN s _⟩,by simp[intOf];omega⟩
  .have af:k=rest.length:=by omega
   subst af;have p:Hid (-1=l):=by show _=_;rw[<- K.out,List.drop_length];rfl
   clear K F;go_wp2;go_ret;rw[<- p.out];exact⟨rfl,s⟩
def lc (e:El):Prop:=(0<=e.first/\e.first<=65535)/\(0<=e.second/\e.second<=65535)/\(0<=e.third/\e.third<=65535)
theorem Og {l:List Int} {r:Int} {i:Nat}(h:d7 l r=some i):i<l.length:=by
 unfold d7 at h;obtain⟨a,_⟩:=List.findIdx?_eq_some_iff_getElem.1 h;exact a
theorem a73 {r:Int}(h0:0<=r) (h1:r<=1114111):∀ e ∈ base r,lc e:=by
 intro e a;unfold base at a;split at a
 .rename_i i hi
  have:=Og hi;simp[vsl]at this
  simp only[List.mem_singleton]at a;subst a;unfold lc;simp only;omega
 .split at a
  .rename_i i hi
   have:=Og hi;simp[mkl]at this
   simp only[List.mem_singleton]at a;subst a;unfold lc;simp only;omega
  .unfold gc at a
   unfold lc;split at a
   .cases a
   .split at a
    .simp only[List.mem_singleton]at a
     subst a;simp only;omega
    .split at a
     .simp only[List.mem_singleton]at a
      subst a;simp only;omega
     .split at a
      .simp only[List.mem_singleton]at a
       subst a;simp only;omega
      .simp only[List.mem_cons,List.not_mem_nil,or_false]at a
       rcases a with rfl|rfl <;> simp only <;> omega
theorem a97 {es:List Ent} {lv:Int}(h:ay es lv=true):∀ e ∈ es,lc e.el:=by
 intro e b;obtain⟨i,c⟩:=List.getElem?_of_mem b;have a:=(vh es).1 (of_decide_eq_true h).2.2 i e c;unfold mo at a;simp only[Bool.and_eq_true,decide_eq_true_eq]at a;unfold lc;omega
theorem rd {es:List Ent} {lv:Int}(h:ay es lv=true){l:List Int}(a:∀ x ∈ l,0<=x/\x<=1114111):∀ e ∈ eb es l,lc e :=
 U8 (a97 h) l fun x hx=>a73 (a x hx).1 (a x hx).2
theorem Z4 {sh b:Bool} {e:El}(h:lc e):(0<=(ja sh b e).1/\(ja sh b e).1<=65535)/\lc (ja sh b e).2.1:=by
 have a:lc elZ:=by unfold lc elZ;simp
 unfold ja;split
 .exact⟨by simp,h⟩
 .split
  .exact⟨h.1,a⟩
  .split
   .exact⟨by simp,a⟩
   .refine⟨?_,h⟩
    simp only;split <;> omega
theorem my {sh:Bool} {es:List El}(h:∀ e ∈ es,lc e) (k:Nat):(∀ f ∈ (fw sh es k).1,0<=f/\f<=65535)/\∀ e ∈ (fw sh es k).2.1,lc e:=by
 induction k with
 | zero=>exact⟨fun f hf=>by simp[fw]at hf,fun f hf=>by simp[fw]at hf⟩
 | succ k ih =>
  unfold fw;split
  .exact ih
  .rename_i e he
   have:=Z4 (sh:=sh) (b:=(fw sh es k).2.2) (h e (List.mem_of_getElem? he));refine⟨fun f hf=>?_,fun x hx=>?_⟩
   .rcases List.mem_append.1 hf with a|a
    .exact ih.1 f a
    .simp only[List.mem_singleton]at a
     subst a;exact this.1
   .rcases List.mem_append.1 hx with a|a
    .exact ih.2 x a
    .simp only[List.mem_singleton]at a
     subst a;exact this.2
theorem Hf {sh:Bool} {es:List El} {k:Nat}(b:k<=es.length):(fw sh es k).1.length=k/\(fw sh es k).2.1.length=k:=by
 induction k with
 | zero=>exact⟨rfl,rfl⟩
 | succ k ih =>
  have a:k<es.length:=by omega
  have:=ih (by omega);unfold fw;rw[List.getElem?_eq_getElem a];simp
  exact this
theorem z8 (sh:Bool) (es:List El):(dc sh es).length=es.length:=(Hf bR).1
theorem sw (sh:Bool) (es:List El):(ck sh es).length=es.length:=(Hf bR).2
def wtL (lv:Nat) (e:El) (f:Int):Int:=if lv=1 then e.first else if lv=2 then e.second else if lv=3 then e.third else f
def n8 (xs:List El) (k:Nat):El:=(xs[k]?).getD elZ
def Aq (n:Int):List Int:=if n=0 then [] else [n]
theorem Hm {n:Int}(h:n=0):Aq n=[]:=by unfold Aq;rw[if_pos h]
theorem Hl {n:Int}(h:n≠0):Aq n=[n]:=by unfold Aq;rw[if_neg h]
def er (lv:Nat) (xs:List El) (fs:List Int):Nat->List Int
 | 0=>[]
 | k+1=>er lv xs fs k++Aq (wtL lv (n8 xs k) (at0 fs k))
def wts (lv:Nat) (xs:List El) (fs:List Int):List Int:=er lv xs fs xs.length
theorem Tj {lv:Nat} {e:El} {f:Int}(a:lc e) (b:0<=f/\f<=65535):0<=wtL lv e f/\wtL lv e f<=65535:=by
 unfold lc at a;unfold wtL;split
 .exact a.1
 .split
  .exact a.2.1
  .split
   .exact a.2.2
   .exact b
theorem Mr {xs:List El}(h:∀ e ∈ xs,lc e) (k:Nat):lc (n8 xs k):=by
 unfold n8
 cases hx:xs[k]? with
 | none=>unfold lc elZ;simp
 | some e=>exact h e (List.mem_of_getElem? hx)
theorem Sd {fs:List Int}(h:∀ f ∈ fs,0<=f/\f<=65535) (k:Nat):0<=at0 fs k/\at0 fs k<=65535:=by
 unfold at0
 cases hx:fs[k]? with
 | none=>simp
 | some e=>exact h e (List.mem_of_getElem? hx)
theorem Gf {lv:Nat} {xs:List El} {fs:List Int}(c:∀ e ∈ xs,lc e) (b:∀ f ∈ fs,0<=f/\f<=65535) (k:Nat):∀ n ∈ er lv xs fs k,1<=n/\n<=65535:=by
 induction k with
 | zero=>intro n a;cases a
 | succ k ih =>
  intro n a;rcases List.mem_append.1 a with h|h
  .exact ih n h
  .unfold Aq at h
   split at h
   .cases h
   .rename_i h0
    simp only[List.mem_singleton]at h;subst h;have:=Tj (lv:=lv) (Mr c k) (Sd b k);omega
theorem ox (lv:Nat) (xs:List El) (fs:List Int) (k:Nat):(er lv xs fs k).length<=k:=by
 induction k with
 | zero=>exact bR
 | succ k ih =>
  rw[er,List.length_append];unfold Aq;split <;> simp <;> omega
def by2 (n:Int):List Int:=[n / 256,n % 256]
def j9 (ws:List Int):List Int:=ws.flatMap by2
theorem Jj:j9 []=[]:=rfl
theorem Ji (a b:List Int):j9 (a++b)=j9 a++j9 b:=by unfold j9;rw[List.flatMap_append]
theorem Jk (n:Int):j9 [n]=[n / 256,n % 256]:=by simp[j9,by2]
theorem C4 (a:List Int):(j9 a).length=2*a.length:=by
 induction a with
 | nil=>rfl
 | cons x xs ih =>
  unfold j9 at ih ⊢;rw[List.flatMap_cons,List.length_append,ih];simp[by2]
  omega
def ml (lv:Nat):List Int:=if 1<lv then [0,0] else []
def km (xs:List El) (fs:List Int):Nat->List Int
 | 0=>[]
 | n+1=>km xs fs n++(ml (n+1)++j9 (wts (n+1) xs fs))
theorem Nq (xs:List El) (fs:List Int) (n:Nat):(km xs fs n).length<=n*(2+2*xs.length):=by
 induction n with
 | zero=>simp[km]
 | succ n ih =>
  have b:=ox (n+1) xs fs xs.length;have c:(ml (n+1)).length<=2:=by unfold ml;split <;> simp
  have a:(n+1)*(2+2*xs.length)=n*(2+2*xs.length)+(2+2*xs.length):=Nat.succ_mul _ _;rw[km,List.length_append,List.length_append,C4,a];unfold wts;omega
def ix (bs:List Int):ByteArray:=⟨(bs.map fun x=>x.toNat.toUInt8).toArray⟩
def Np (es:List Ent) (sh:Bool) (lv:Int) (l:List Int):List Int:=km (ck sh (eb es l)) (dc sh (eb es l)) lv.toNat
def Ds (es:List Ent) (sh:Bool) (l:List Int):List Int:=wts 1 (ck sh (eb es l)) (dc sh (eb es l))
theorem Qo {es:List Ent} {sh:Bool} {lv:Int}(h:ay es lv=true){l:List Int}(a:∀ x ∈ l,0<=x/\x<=1114111):∀ n ∈ Ds es sh l,1<=n/\n<=65535 :=
 Gf (my (rd h a) _).2 (my (rd h a) _).1 _
theorem Qn (es:List Ent) (sh:Bool) (l:List Int):(Ds es sh l).length<=2*l.length:=by
 have a:=ox 1 (ck sh (eb es l)) (dc sh (eb es l)) (ck sh (eb es l)).length;have b:=sw sh (eb es l);have c:=Ai es l;unfold Ds wts;omega
def okE (es:List Ent) (lv:Int) (x:ByteArray):Bool:=ok4 x && ay es lv
def f9 (es:List Ent) (lv:Int) (x:ByteArray):List El:=if okE es lv x=true then eb es (rn4 x) else []
def qf (es:List Ent) (sh:Bool) (lv:Int) (x:ByteArray):ByteArray:=if okE es lv x=true then ix (Np es sh lv (rn4 x)) else ⟨#[]⟩
def rf (es:List Ent) (sh:Bool) (lv:Int) (x:ByteArray):List Int:=if okE es lv x=true then Ds es sh (rn4 x) else []
theorem af9 (x:ByteArray):∀ y ∈ rn4 x,bp y=true:=fun y hy=>M0 (Fj x.size x) y (Kk.1 hy)
theorem Dy (x:ByteArray):∀ y ∈ rn4 x,0<=y/\y<=1114111:=fun y hy=>by have:=l7 (af9 x y hy);omega
theorem yg {x:ByteArray}(h:ok4 x=true):x.size<=200/\(rn4 x).length<=200:=of_decide_eq_true h
theorem ui {es:List Ent} {lv:Int} {x:ByteArray}(h:okE es lv x=true):x.size<=200/\(rn4 x).length<=200/\ay es lv=true:=by
 unfold okE at h;rw[Bool.and_eq_true]at h;exact⟨(yg h.1).1,(yg h.1).2,h.2⟩
theorem nn {es:List Ent} {lv:Int}(h:ay es lv=true):es.length<=40/\1<=lv/\lv<=4:=⟨(of_decide_eq_true h).1,(of_decide_eq_true h).2.1.1,(of_decide_eq_true h).2.1.2⟩
theorem Jx (es:List Ent) (sh:Bool) (lv:Int) (x:ByteArray):∀ n ∈ rf es sh lv x,1<=n/\n<=65535:=by
 unfold rf;split
 .rename_i h
  exact Qo (ui h).2.2 (Dy x)
 .intro n a;cases a
theorem Jw (es:List Ent) (sh:Bool) (lv:Int) (x:ByteArray):(rf es sh lv x).length<=400:=by
 unfold rf;split
 .rename_i h
  have:=Qn es sh (rn4 x);have:=(ui h).2.1;omega
 .simp
theorem Fl (es:List Ent) (lv:Int) (x:ByteArray):(f9 es lv x).length<=400:=by
 unfold f9;split
 .rename_i h
  have:=Ai es (rn4 x);have:=(ui h).2.1;omega
 .simp
theorem Sw:(prog.info? 5).map (fun i=>(i.zero,i.size,i.bytes))=some (some (.int .u8 0),1,1):=by kernel_rfl
def Bys (w:World) (base:Nat) (v:Value) (bs:List Int):Prop:=w.ownsRow base 5 1 v bs.length (bs.map (Value.int .u8))
theorem Bys.form {w:World} {B:Nat} {v:Value} {bs:List Int}(h:Bys w B v bs):(v=.slice none 0 0/\bs=[])\/∃ g cap,v=.slice (some ⟨g,0,none⟩) bs.length cap:=by
 rcases h.2 with ⟨a,b⟩|⟨g,cap,c,a,_⟩
 .exact .inl ⟨a,by simpa using b⟩
 .exact .inr ⟨g,cap,a⟩
theorem Bys.below {w w':World} {B:Nat} {v:Value} {bs:List Int}(h:Bys w B v bs) (a:Below w.heap.size w w'):Bys w' B v bs :=
 World.ownsRow.kept h (row:=none) ⟨a.os,a.tape,a.output,a.size,fun k hk _=>a.block k hk⟩ (by cases h:v.ownBlock <;> simp)
theorem Bys.app2 {w:World} {B:Nat} {v:Value} {bs:List Int} {x y:Int}(h:w.ownsRow B 5 1 v (bs.length+2) (bs.map (Value.int .u8)++[.int .u8 x,.int .u8 y])):Bys w B v (bs++[x,y]):=by
 unfold Bys;simpa using h
theorem y8 (w:World) (n:Nat) (x y:Value) (t:TypeId) (b:n=w.heap.size):∀ j u,[x,y][j]? = some u->(w.alloc (.cells #[x,y] t)).cell? ((⟨n,0,none⟩:Addr).add j)=some u:=by
 subst b;intro j u a;match j,a with
 | 0,a=>simp at a;subst a;simp[Addr.add]
 | 1,a=>simp at a;subst a;simp[Addr.add]
 | j+2,a=>simp at a
theorem Ek:∀ (xs:List Int) (r:ByteArray),xs.foldl (fun r n=>r.push (UInt8.ofNat n.toNat)) r=⟨r.data++(xs.map fun x=>x.toNat.toUInt8).toArray⟩
 | [],r=>by simp
 | x::xs,r=>by
  simp only[List.map_cons,List.foldl_cons];rw[Ek xs];simp[ByteArray.push]
theorem Xt (b j:Nat):(⟨b,0,none⟩:Addr).add j=⟨b,j,none⟩:=by
 unfold Addr.add;split
 .rename_i h;subst h;rfl
 .simp
theorem xb {w:World} {B:Nat} {v:Value} {bs:List Int}(h:Bys w B v bs):(convert 22 9 v).run prog w=.ok (.string (ix bs)) w:=by
 rcases h.form with ⟨rfl,rfl⟩|⟨g,c,rfl⟩
 .rw[run_convert_bytes_string _ _ _ _ _ _ _ underlying22 underlying5 underlying9]
  rfl
 .rw[run_convert_bytes_string _ _ _ _ _ _ _ underlying22 underlying5 underlying9]
  have a:=run_loadCells_list (P:=prog) w ⟨g,0,none⟩ (bs.map (Value.int .u8)) (fun j v hj=>by
   have d:j<bs.length:=by have:=(List.getElem?_eq_some_iff.1 hj).1;simpa using this
   rw[Xt,World.ownsRow.cellAt h j (by omega),hj])
  simp only[List.length_map]at a;rw[run_bytesToString _ _ _ _ bs a,Ek];have b:ByteArray.empty.data=#[]:=rfl;rw[b];simp[ix]
theorem Yr {w:World} {B B':Nat} {v:Value} {es:List Ent} {sh:Bool} {lv:Int} {vl:Value} {l:List Int}(z:ac w B v es) (s:ab w B' vl l) (hn:es.length<=1048576) (W:l.length<=1048576) (G:∀ e ∈ es,e.runes.length<=1048576) (A:∀ x ∈ l,0<=x/\x<=1114111) :
  Calls prog 56 #[.agg #[v,.bool sh,.int .i64 lv],vl] w fun e w'=>e=.returned (fo (fj es l))/\Below w.heap.size w w':=by
 have u:=((Below.refl w.heap.size w).alloc bR (.cells #[v,.bool sh,.int .i64 lv] 56)).alloc (by simp) (.cells #[.int .i64 0,.int .i64 0,.int .i64 0,.bool false] 111);have o:=ql (sh:=sh) (lv:=lv) (z.below u) (s.below u) hn W G;have t:Hid (um _ _ _ _ _ _):=Me w v sh lv;have j:Hid _:=u;have C:Hid (ac _ _ _ _):=z.below u;have D:Hid (ab _ _ _ _):=s.below u;clear u;rcases tn es l with m|⟨i,e,E,m⟩
 .rw[m]at o
  by_cases L:l.length=1
  .obtain⟨r,rfl⟩:∃ r,l=[r]:=List.length_eq_one_iff.1 L
   obtain⟨g,N,rfl⟩:=jr s (by simp);have b:Hid (fj es [r]=mk (base r)):=H9 m;have P:=fun w=>D8 r (A r (by simp)).1 (A r (by simp)).2 w
   clear z s G A m W C;simp only[List.length_singleton]at *;generalize base r=bs at *;go_enter func56,ntmps56;go_wp2_with fail;refine o.mono ?_;rintro K M ⟨rfl,f⟩;have c0:M.cell? ⟨g,0,none⟩=some (.int .i64 r):=by
    have h3:=World.ownsRow.cellAt (n:=1) (D.out.below f) 0 (by omega);rw[h3];rfl
   have Q:Hid (um _ _ _ _ _ _):=t.out.below f;have H:Hid _:=j.out.trans (f.mono j.out.size);clear o D t j f;go_wp2_with fail;refine (P _).mono ?_;rintro K w3 ⟨v3,rfl,d,J⟩;have q:=Q.out.below J;have k:=H.out.trans (J.mono H.out.size);clear P c0 J Q H;obtain⟨⟨X,Y⟩,_,⟨Z,q1,q2,q3⟩,U⟩:=q.facts;clear q;match bs,b,d with
   | [],b,d =>
    have p:=hZ b.out;clear b;rcases d.form with ⟨rfl,_⟩|⟨V,O,rfl,_,_⟩
    .clear d
     go_wp2;refine bodyPost_ret (v:=.tuple #[.agg #[.int .i64 0,.int .i64 0,.int .i64 0,.bool false],.bool false]) ?_ rfl ⟨mj p.out,fg k _ _ _ _⟩;rw[results_cell_tmp rfl];go_simp
    .clear d
     go_wp2;refine bodyPost_ret (v:=.tuple #[.agg #[.int .i64 0,.int .i64 0,.int .i64 0,.bool false],.bool false]) ?_ rfl ⟨mj p.out,fg k _ _ _ _⟩;rw[results_cell_tmp rfl];go_simp
   | [x],b,d =>
    rcases d.form with ⟨_,h⟩|⟨V,O,rfl,_,_⟩
    .cases h
    .obtain⟨I,R,S,T⟩:=d.cells 0 x rfl
     simp only[Nat.zero_mul,Nat.zero_add]at I R S T;clear d;by_cases F:x.first=0
     .have p:=hZ (b.out.trans (if_pos F))
      clear b;rw[F]at I;go_wp2;refine bodyPost_ret (v:=.tuple #[.agg #[.int .i64 0,.int .i64 0,.int .i64 0,.bool false],.bool false]) ?_ rfl ⟨mj p.out,fg k _ _ _ _⟩;rw[results_cell_tmp rfl];go_simp
     .have p:=hZ (b.out.trans (if_neg F))
      clear b;have a6:(x.first == 0)=false:=by simpa using F
      go_wp2;refine bodyPost_ret (v:=.tuple #[.agg #[.int .i64 x.first,.int .i64 x.second,.int .i64 x.third,.bool x.varies],.bool true]) ?_ rfl ⟨Dw p.out,fg k _ _ _ _⟩;rw[results_cell_tmp rfl];go_simp
   | x::y::zs,b,d =>
    have p:=hZ b.out;clear b;rcases d.form with ⟨_,h⟩|⟨V,O,rfl,_,_⟩
    .cases h
    .simp only[List.length_cons]
     clear d;have hz:((zs.length+1+1:Nat):Int)≠1:=by omega
     go_wp2;refine bodyPost_ret (v:=.tuple #[.agg #[.int .i64 0,.int .i64 0,.int .i64 0,.bool false],.bool false]) ?_ rfl ⟨mj p.out,fg k _ _ _ _⟩;rw[results_cell_tmp rfl];go_simp
  .have b:Hid (fj es l=none):=Jr m L
   obtain⟨a,c,rfl⟩:∃ a c,vl=.slice a l.length c:=by
    rcases s.form with ⟨rfl,rfl⟩|⟨g,N,rfl,_,_⟩
    .exact⟨_,_,rfl⟩
    .exact⟨_,_,rfl⟩
   have h2:((l.length:Int) != 1)=true:=by simp;omega
   clear z s G A m L C D;go_enter func56,ntmps56;go_wp2_with fail;refine o.mono ?_;rintro K M ⟨rfl,f⟩;have q:=t.out.below f;have k:=j.out.trans (f.mono j.out.size);clear o t j;obtain⟨⟨X,Y⟩,_,⟨Z,q1,q2,q3⟩,U⟩:=q.facts;clear q;go_wp2;refine bodyPost_ret (v:=.tuple #[.agg #[.int .i64 0,.int .i64 0,.int .i64 0,.bool false],.bool false]) ?_ rfl ⟨mj b.out,fg k _ _ _ _⟩;rw[results_cell_tmp rfl];go_simp
 .have b:Hid (fj es l=some e.el):=Ys E m
  rw[m]at o;have hi:=(List.getElem?_eq_some_iff.1 E).1;rcases z.form with ⟨_,rfl⟩|⟨g,N,rfl,hc,a5,_,_⟩
  .simp at hi
  .clear z s G A m
   have a7:(i:Int)<(es.length:Int):=by omega
   go_enter func56,ntmps56;go_wp2_with fail;refine o.mono ?_;rintro K M ⟨rfl,f⟩;have q:=t.out.below f;have k:=j.out.trans (f.mono j.out.size);obtain⟨x,d,I,R,S,T,a4⟩:=(C.out.below f).cells i e E;clear o t j C D d E;obtain⟨⟨X,Y⟩,⟨p0,p1,p2⟩,⟨Z,q1,q2,q3⟩,U⟩:=q.facts;clear q;go_wp2;refine bodyPost_ret (v:=.tuple #[.agg #[.int .i64 e.el.first,.int .i64 e.el.second,.int .i64 e.el.third,.bool e.el.varies],.bool true]) ?_ rfl ⟨Dw b.out,fg k _ _ _ _⟩;rw[results_cell_tmp rfl];go_simp
def mr (es:List Ent) (lv:Int) (l:List Int):Option El:=if ay es lv=true/\bd l=true then fj es l else none
theorem Ov {l:List Int}(h:bd l=true):∀ x ∈ l,0<=x/\x<=1114111:=by
 unfold bd at h;rw[Bool.and_eq_true,Bool.and_eq_true]at h;intro x a;have:=(qi h.2.1).2 x a;exact⟨(l7 this).1,(l7 this).2.1⟩
def U4 (es:List Ent) (sh:Bool) (lv:Int) (x y:ByteArray):Int:=if (okE es lv x && okE es lv y)=true then mp (qf es sh lv x) (qf es sh lv y) else 0
end Go.Proofs.YtjbmgghehdemdaaGreatDoor
