/- SRule2 -/
import Derived.Test.YtjbmgghehdemdaaGreatDoorMS3
import Derived.Test.YtjbmgghehdemdaaGreatDoorMS4
import Derived.Deep.Cut
import Derived.Deep.CutRange
import Derived.Deep.RegionLaw
import Derived.Deep.DrawnRows
import Derived.Deep.MidRow
import Derived.Test.YtjbmgghehdemdaaGreatDoorMS8
import Derived.Laws.BytesString
namespace Go.Proofs.YtjbmgghehdemdaaGreatDoor
set_option maxRecDepth 100000
set_option maxHeartbeats 16000000
open _root_.Go.Proofs.Tryz
open Go.RowKit
def nj (es:List Ent) (i:Nat) (e:Ent):Bool :=
 bh e.runes && (decide (atE es e.runes=(i:Int)) && (decide (1<=e.el.first/\e.el.first<=65535) && (decide (32<=e.el.second/\e.el.second<=999) && (decide (2<=e.el.third/\e.el.third<=99) && !e.el.varies))))
def bd (es:List Ent) (lv:Int):Bool:=decide (es.length<=40/\(1<=lv/\lv<=4)/\(es.zipIdx.all fun p=>nj es p.2 p.1)=true)
theorem xp (es:List Ent):(es.zipIdx.all fun p=>nj es p.2 p.1)=true↔∀ i e,es[i]? = some e->nj es i e=true:=by
 rw[List.all_eq_true];exact⟨fun h i e he=>h (e,i) (List.mem_zipIdx_iff_getElem?.2 he),fun h p hp=>h p.2 p.1 (List.mem_zipIdx_iff_getElem?.1 hp)⟩
theorem tg {es:List Ent} {lv:Int}(h:¬ (es.length<=40/\1<=lv/\lv<=4)):bd es lv=false:=decide_eq_false fun c=>h ⟨c.1,c.2.1⟩
theorem l4 {es:List Ent} {lv:Int} {i:Nat} {e:Ent}(a:es[i]? = some e) (h:nj es i e=false):bd es lv=false:=decide_eq_false fun c=>by
 have:=(xp es).1 c.2.2 i e a;rw[h]at this;cases this
def qp (es:List Ent) (k:Nat):Prop:=∀ i e,i<k->es[i]? = some e->nj es i e=true
theorem qp.succ {es:List Ent} {k:Nat} {e:Ent}(h:qp es k) (b:es[k]? = some e) (d:nj es k e=true):qp es (k+1):=by
 intro i x f a;by_cases c:i=k
 .subst c;rw[b]at a;cases a;exact d
 .exact h i x (by omega) a
theorem H9 {es:List Ent} {lv:Int} {k:Nat}(h:qp es k) (a:es.length<=k) (h1:es.length<=40) (h2:1<=lv/\lv<=4):bd es lv=true:=decide_eq_true ⟨h1,h2,(xp es).2 fun i e he=>h i e (by have:=(List.getElem?_eq_some_iff.1 he).1;omega) he⟩
def GC (u:World) (b1 b4 b5:Nat) (v:Value) (sh:Bool) (lv:Int) (x:Value) (e:El):Prop :=
 (b1<u.heap.size/\b4<u.heap.size/\b5<u.heap.size)/\(u.cell? ⟨b1,0,none⟩=some v/\u.cell? ⟨b1,1,none⟩=some (.bool sh)/\u.cell? ⟨b1,2,none⟩=some (.int .i64 lv)) /\
  u.cell? ⟨b4,0,none⟩=some x /\
  (u.cell? ⟨b5,0,none⟩=some (.int .i64 e.first)/\u.cell? ⟨b5,1,none⟩=some (.int .i64 e.second)/\u.cell? ⟨b5,2,none⟩=some (.int .i64 e.third)/\u.cell? ⟨b5,3,none⟩=some (.bool e.varies))
theorem GC.below {u u':World} {d f g:Nat} {v:Value} {sh:Bool} {lv:Int} {x:Value} {e:El}(h:GC u d f g v sh lv x e) (a:Below u.heap.size u u'):GC u' d f g v sh lv x e:=by
 obtain⟨⟨c,i,b⟩,⟨j,k,l⟩,m,n,o,p,q⟩:=h;exact⟨⟨Nat.lt_of_lt_of_le c a.size,Nat.lt_of_lt_of_le i a.size,Nat.lt_of_lt_of_le b a.size⟩,⟨by rw[a.cell c];exact j,by rw[a.cell c];exact k,by rw[a.cell c];exact l⟩,by rw[a.cell i];exact m,by rw[a.cell b];exact n,by rw[a.cell b];exact o,by rw[a.cell b];exact p,by rw[a.cell b];exact q⟩
def wt (w wr:World) (v:Value) (sh:Bool) (lv:Int):Prop:=w.heap.size<wr.heap.size/\wr.cell? ⟨w.heap.size,0,none⟩=some v/\wr.cell? ⟨w.heap.size,1,none⟩=some (.bool sh)/\wr.cell? ⟨w.heap.size,2,none⟩=some (.int .i64 lv)
theorem wt.below {w wr w':World} {v:Value} {sh:Bool} {lv:Int}(h:wt w wr v sh lv) (b:Below wr.heap.size wr w'):wt w w' v sh lv:=by
 obtain⟨a,c,d,e⟩:=h;exact⟨Nat.lt_of_lt_of_le a b.size,by rw[b.cell a];exact c,by rw[b.cell a];exact d,by rw[b.cell a];exact e⟩
theorem b68 {w wr:World} {v:Value} {sh:Bool} {lv:Int}(h:wt w wr v sh lv) (x:Value) (e:El) (a:TypeId) (b:TypeId) :
  GC ((wr.alloc (.cells #[x,.int .i64 e.first,.int .i64 e.second,.int .i64 e.third,.bool e.varies] a)).alloc (.cells #[.int .i64 e.first,.int .i64 e.second,.int .i64 e.third,.bool e.varies] b)) w.heap.size wr.heap.size (wr.heap.size+1) v sh lv x e:=by
 have k:=((Below.refl wr.heap.size wr).alloc bR (.cells #[x,.int .i64 e.first,.int .i64 e.second,.int .i64 e.third,.bool e.varies] a)).alloc (by simp) (.cells #[.int .i64 e.first,.int .i64 e.second,.int .i64 e.third,.bool e.varies] b);obtain⟨j,d,f,g⟩:=h.below k;have i:((wr.alloc (.cells #[x,.int .i64 e.first,.int .i64 e.second,.int .i64 e.third,.bool e.varies] a)).alloc (.cells #[.int .i64 e.first,.int .i64 e.second,.int .i64 e.third,.bool e.varies] b)).heap[wr.heap.size]? = some (.cells #[x,.int .i64 e.first,.int .i64 e.second,.int .i64 e.third,.bool e.varies] a):=by
  rw[Below.heap_alloc _ _ _ (by simp)];exact heap_alloc_new wr _
 have c:=heap_alloc2_new wr (.cells #[x,.int .i64 e.first,.int .i64 e.second,.int .i64 e.third,.bool e.varies] a) (.cells #[.int .i64 e.first,.int .i64 e.second,.int .i64 e.third,.bool e.varies] b);exact⟨⟨j,by simp;omega,by simp⟩,⟨d,f,g⟩,cell_of_row _ _ 0 _ _ _ i,cell_of_row _ _ 0 _ _ _ c,cell_of_row _ _ 1 _ _ _ c,cell_of_row _ _ 2 _ _ _ c,cell_of_row _ _ 3 _ _ _ c⟩
def b35 (w:World) (v:Value) (sh:Bool) (lv:Int) (es:List Ent) (i:Value) (wr:World):Prop:=∃ k:Nat,k<=es.length/\i=.int .i64 k/\qp es k/\wt w wr v sh lv/\Below w.heap.size w wr
theorem Wn (w:World) (a:Option Addr) (n c:Nat) (sh:Bool) (lv:Int) (h:40<n):Calls prog 59 #[.agg #[.slice a n c,.bool sh,.int .i64 lv]] w fun e w'=>e=.returned (.bool false)/\Below w.heap.size w w':=by
 have b:(40:Int)<(n:Int):=by omega
 go_enter func59,ntmps59;go_wp2;go_ret;exact⟨rfl,bY _⟩
theorem a53 (w:World) (a:Option Addr) (n c:Nat) (sh:Bool) (lv:Int) (h:n<=40) (b:¬ (1<=lv/\lv<=4)):Calls prog 59 #[.agg #[.slice a n c,.bool sh,.int .i64 lv]] w fun e w'=>e=.returned (.bool false)/\Below w.heap.size w w':=by
 have d:¬ (40:Int)<(n:Int):=by omega
 have N:=fun w=>kj lv 1 4 b w
 go_enter func59,ntmps59;go_wp2_with (go_at_call 34;refine (N _).mono ?_;rintro e f ⟨rfl,rfl⟩)
 go_ret;exact⟨rfl,bY _⟩
theorem a55 (w:World) (B g cap:Nat) (es:List Ent) (sh:Bool) (lv:Int) (j:ac w B (.slice (some ⟨g,0,none⟩) es.length cap) es) (hn:es.length<=40) (hl:1<=lv/\lv<=4) (l:∀ e ∈ es,e.runes.length<=1048576) :
  Calls prog 59 #[.agg #[.slice (some ⟨g,0,none⟩) es.length cap,.bool sh,.int .i64 lv]] w fun e w'=>e=.returned (.bool (bd es lv))/\Below w.heap.size w w':=by
 have Y:=fun w=>pm lv 1 4 hl w
 have a8:¬ (40:Int)<(es.length:Int):=by omega
 go_enter func59,ntmps59;go_wp2_with (go_at_call 34;refine (Y _).mono ?_;rintro e w1 ⟨rfl,rfl⟩)
 go_loopw [19] (fun i wr=>b35 w (.slice (some ⟨g,0,none⟩) es.length cap) sh lv es i wr) (fun i _=>es.length-(intOf i).toNat)
 case atStart=>exact⟨0,Nat.zero_le _,rfl,fun i e hi=>by omega,⟨by simp,by simp[World.cell?_alloc_new],by simp[World.cell?_alloc_new],by simp[World.cell?_alloc_new]⟩,bY _⟩
 case round =>
  obtain⟨k,hk,rfl,M,G,p⟩:=hrel;have h:=hZ M;clear M Y;by_cases a5:k<es.length
  .obtain⟨e,E⟩:∃ e,es[k]? = some e:=⟨_,List.getElem?_eq_getElem a5⟩
   obtain⟨x,J,a0,a1,a2,a3,a4⟩:=(j.below p).cells k e E;obtain⟨v,y,xc,rfl⟩:∃ v y xc,x=.slice v y xc:=by
    rcases J.form with ⟨rfl,_⟩|⟨_,_,rfl,_,_⟩
    .exact⟨_,_,_,rfl⟩
    .exact⟨_,_,_,rfl⟩
   have a7:(k:Int)<(es.length:Int):=by omega
   have S:=l e (List.mem_of_getElem? E);have R:=b68 G (.slice v y xc) e.el 117 111;have P:=(p.alloc p.size (.cells #[.slice v y xc,.int .i64 e.el.first,.int .i64 e.el.second,.int .i64 e.el.third,.bool e.el.varies] 117)).alloc (p.alloc p.size _).size (.cells #[.int .i64 e.el.first,.int .i64 e.el.second,.int .i64 e.el.third,.bool e.el.varies] 111);have z:=((Below.refl wr.heap.size wr).alloc bR (.cells #[.slice v y xc,.int .i64 e.el.first,.int .i64 e.el.second,.int .i64 e.el.third,.bool e.el.varies] 117)).alloc (by simp) (.cells #[.int .i64 e.el.first,.int .i64 e.el.second,.int .i64 e.el.third,.bool e.el.varies] 111);have Q:=G.below z;have F:=J.below z;have O:=(j.below p).below z;have W:=tm S F;have a:Hid _:=E;have L:Hid (aa _ _ _ _):=F;have K:Hid (ac _ _ _ _):=O;have H:Hid _:=P
   have V:Hid (wt _ _ _ _ _):=Q;have U:Hid (GC _ _ _ _ _ _ _ _ _):=R;clear E J F O P z Q R G p;go_wp2_with fail;refine W.mono ?_;rintro b w2 ⟨rfl,t⟩;have C:Hid _:=H.out.trans (t.mono H.out.size);have I:Hid (GC _ _ _ _ _ _ _ _ _):=U.out.below t;have x2:Hid (wt _ _ _ _ _):=V.out.below t;have i2:Hid (aa _ _ _ _):=L.out.below t;have N:Hid (ac _ _ _ _):=K.out.below t;clear W a0 a1 a2 a3 a4 H V U L K t
   cases r1:bh e.runes
   .have d:Hid (bd es lv=false):=l4 a.out (by unfold nj;rw[r1,Bool.false_and])
    clear h a j l;go_wp2;go_ret;rw[d.out];exact⟨rfl,C.out⟩
   .obtain⟨_,⟨p0,p1,p2⟩,q0,X,Z,d2,D⟩:=I.out
    have T:=rt (sh:=sh) (lv:=lv) N.out i2.out (by omega) S l;go_wp2_with fail;refine T.mono ?_;rintro b w3 ⟨rfl,A⟩;have u:Hid _:=C.out.trans (A.mono C.out.size);have g3:=I.out.below A;have x3:Hid (wt _ _ _ _ _):=x2.out.below A;clear T p0 p1 p2 q0 X Z d2 D C I x2 i2 N A;obtain⟨_,⟨p0,p1,p2⟩,q0,X,Z,d2,D⟩:=g3;by_cases m:atE es e.runes=(k:Int)
    .have a6:(atE es e.runes != (k:Int))=false:=by simp[m]
     by_cases o:1<=e.el.first/\e.el.first<=65535
     .have c:=fun w=>pm e.el.first 1 65535 o w
      by_cases q:32<=e.el.second/\e.el.second<=999
      .have n:=fun w=>pm e.el.second 32 999 q w
       by_cases s:2<=e.el.third/\e.el.third<=99
       .have r:=fun w=>pm e.el.third 2 99 s w
        cases r6:e.el.varies
        .have HO:Hid (qp es (k+1)):=h.out.succ a.out (by unfold nj;rw[r1,decide_eq_true m,decide_eq_true o,decide_eq_true q,decide_eq_true s,r6];rfl)
         rw[r6]at D;clear h a j l r1 m o q s r6;go_wp2_with fail;refine (c _).mono ?_;rintro b f ⟨rfl,rfl⟩;go_wp2_with fail;refine (n _).mono ?_;rintro b f ⟨rfl,rfl⟩;go_wp2_with fail;refine (r _).mono ?_;rintro b f ⟨rfl,rfl⟩;clear c n r;go_wp2;exact⟨⟨k+1,by omega,by go_num,HO.out,x3.out,u.out⟩,by simp[intOf];omega⟩
        .have d:Hid (bd es lv=false):=l4 a.out (by unfold nj;rw[r6];simp)
         rw[r6]at D;clear h a j l r1 m o q s r6;go_wp2_with fail;refine (c _).mono ?_;rintro b f ⟨rfl,rfl⟩;go_wp2_with fail;refine (n _).mono ?_;rintro b f ⟨rfl,rfl⟩;go_wp2_with fail;refine (r _).mono ?_;rintro b f ⟨rfl,rfl⟩;clear c n r;go_wp2;go_ret;rw[d.out];exact⟨rfl,u.out⟩
       .have r:=fun w=>kj e.el.third 2 99 s w
        have d:Hid (bd es lv=false):=l4 a.out (by unfold nj;rw[decide_eq_false s];simp);clear h a j l r1 m o q s;go_wp2_with fail;refine (c _).mono ?_;rintro b f ⟨rfl,rfl⟩;go_wp2_with fail;refine (n _).mono ?_;rintro b f ⟨rfl,rfl⟩;go_wp2_with fail;refine (r _).mono ?_;rintro b f ⟨rfl,rfl⟩;clear c n r;go_wp2;go_ret;rw[d.out];exact⟨rfl,u.out⟩
      .have n:=fun w=>kj e.el.second 32 999 q w
       have d:Hid (bd es lv=false):=l4 a.out (by unfold nj;rw[decide_eq_false q];simp);clear h a j l r1 m o q;go_wp2_with fail;refine (c _).mono ?_;rintro b f ⟨rfl,rfl⟩;go_wp2_with fail;refine (n _).mono ?_;rintro b f ⟨rfl,rfl⟩;clear c n;go_wp2;go_ret;rw[d.out];exact⟨rfl,u.out⟩
     .have c:=fun w=>kj e.el.first 1 65535 o w
      have d:Hid (bd es lv=false):=l4 a.out (by unfold nj;rw[decide_eq_false o];simp);clear h a j l r1 m o;go_wp2_with fail;refine (c _).mono ?_;rintro b f ⟨rfl,rfl⟩;clear c;go_wp2;go_ret;rw[d.out];exact⟨rfl,u.out⟩
    .have a6:(atE es e.runes != (k:Int))=true:=by simpa using m
     have d:Hid (bd es lv=false):=l4 a.out (by unfold nj;rw[decide_eq_false m];simp);clear h a j l r1 m;go_wp2;go_ret;rw[d.out];exact⟨rfl,u.out⟩
  .have HA:Hid (bd es lv=true):=H9 h.out (by omega) hn hl
   clear h j l;go_wp2;go_ret;rw[HA.out];exact⟨rfl,p⟩
theorem a54 (w:World) (sh:Bool) (lv:Int) (a:1<=lv/\lv<=4):Calls prog 59 #[.agg #[.slice none 0 0,.bool sh,.int .i64 lv]] w fun e w'=>e=.returned (.bool true)/\Below w.heap.size w w':=by
 have Y:=fun w=>pm lv 1 4 a w
 go_enter func59,ntmps59;go_wp2_with (go_at_call 34;refine (Y _).mono ?_;rintro e b ⟨rfl,rfl⟩)
 go_loop [19] (fun i=>i=.int .i64 0) (fun _=>0)
 case atStart=>rfl
 case round =>
  subst hrel;go_wp2;go_ret;exact⟨rfl,bY _⟩
theorem E7 {w:World} {B:Nat} {v:Value} {es:List Ent} {sh:Bool} {lv:Int}(d:ac w B v es) (k:∀ e ∈ es,e.runes.length<=1048576) :
  Calls prog 59 #[.agg #[v,.bool sh,.int .i64 lv]] w fun e w'=>e=.returned (.bool (bd es lv))/\Below w.heap.size w w':=by
 obtain⟨a,c,rfl⟩:∃ a c,v=.slice a es.length c:=by
  rcases d.form with ⟨rfl,rfl⟩|⟨g,i,rfl,_,_,_,_⟩
  .exact⟨_,_,rfl⟩
  .exact⟨_,_,rfl⟩
 by_cases f:es.length<=40
 .by_cases b:1<=lv/\lv<=4
  .rcases d.form with ⟨h,rfl⟩|⟨g,i,h,_,_,_,_⟩
   .rw[h]
    have j:bd [] lv=true:=decide_eq_true ⟨by simp,b,rfl⟩;rw[j];exact a54 w sh lv b
   .rw[h]at d ⊢
    exact a55 w B g i es sh lv d f b k
  .rw[tg (fun h=>b h.2)]
   exact a53 w a es.length c sh lv f b
 .rw[tg (fun h=>f h.1)]
  exact Wn w a es.length c sh lv (by omega)
def ng:List El->Option El
 | [e]=>if e.first=0 then none else some e
 | _=>none
def go (es:List Ent) (l:List Int):Option El :=
 if 0<=atE es l then (es[(atE es l).toNat]?).map (·.el)
 else match l with
  | [r]=>ng (base r)
  | _=>none
def qn (o:Option El):El:=o.getD ⟨0,0,0,false⟩
theorem vk (es:List Ent) (l:List Int):atE es l=-1\/∃ (i:Nat) (e:Ent),es[i]? = some e/\atE es l=(i:Int):=by
 unfold atE
 cases h:es.findIdx? (fun e=>decide (e.runes=l)) with
 | none=>exact .inl rfl
 | some i =>
  obtain⟨a,_⟩:=List.findIdx?_eq_some_iff_getElem.1 h;exact .inr ⟨i,es[i],List.getElem?_eq_getElem a,rfl⟩
theorem a23 {es:List Ent} {l:List Int} {i:Nat} {e:Ent}(a:es[i]? = some e) (h:atE es l=(i:Int)):go es l=some e.el:=by
 unfold go;rw[h,if_pos (by omega),Int.toNat_natCast,a];rfl
theorem J9 {es:List Ent} {r:Int}(h:atE es [r]=-1):go es [r]=ng (base r):=by
 unfold go;rw[h,if_neg (by omega)]
theorem Lq {es:List Ent} {l:List Int}(h:atE es l=-1) (a:l.length≠1):go es l=none:=by
 unfold go;rw[h,if_neg (by omega)];match l,a with
 | [],_=>rfl
 | [_],a=>exact absurd rfl a
 | _::_::_,_=>rfl
def ie (o:Option El):Value:=.tuple #[elV (qn o),.bool o.isSome]
theorem Fs {o:Option El} {e:El}(h:o=some e):Ending.returned (.tuple #[.agg #[.int .i64 e.first,.int .i64 e.second,.int .i64 e.third,.bool e.varies],.bool true])=.returned (ie o):=by rw[h];rfl
theorem nf {o:Option El}(h:o=none):Ending.returned (.tuple #[.agg #[.int .i64 0,.int .i64 0,.int .i64 0,.bool false],.bool false])=.returned (ie o):=by rw[h];rfl
def wu (u:World) (b1 b2:Nat) (v:Value) (sh:Bool) (lv:Int):Prop:=u.heap[b1]? = some (.cells #[v,.bool sh,.int .i64 lv] 56)/\u.heap[b2]? = some (.cells #[.int .i64 0,.int .i64 0,.int .i64 0,.bool false] 111)
theorem wu.facts {u:World} {b a:Nat} {v:Value} {sh:Bool} {lv:Int}(h:wu u b a v sh lv):(b<u.heap.size/\a<u.heap.size)/\(u.cell? ⟨b,0,none⟩=some v/\u.cell? ⟨b,1,none⟩=some (.bool sh)/\u.cell? ⟨b,2,none⟩=some (.int .i64 lv))/\(u.cell? ⟨a,0,none⟩=some (.int .i64 0)/\u.cell? ⟨a,1,none⟩=some (.int .i64 0)/\u.cell? ⟨a,2,none⟩=some (.int .i64 0)/\u.cell? ⟨a,3,none⟩=some (.bool false))/\∀ j,u.frozen? ⟨a,j,none⟩=false :=
 ⟨⟨(Array.getElem?_eq_some_iff.1 h.1).1,(Array.getElem?_eq_some_iff.1 h.2).1⟩,⟨cell_of_row _ _ 0 _ _ _ h.1,cell_of_row _ _ 1 _ _ _ h.1,cell_of_row _ _ 2 _ _ _ h.1⟩,⟨cell_of_row _ _ 0 _ _ _ h.2,cell_of_row _ _ 1 _ _ _ h.2,cell_of_row _ _ 2 _ _ _ h.2,cell_of_row _ _ 3 _ _ _ h.2⟩,fun j=>by simp[World.frozen?,h.2]⟩
theorem wu.below {u u':World} {a b:Nat} {v:Value} {sh:Bool} {lv:Int}(h:wu u a b v sh lv) (c:Below u.heap.size u u'):wu u' a b v sh lv:=by
 have d:=h.facts.1;exact⟨by rw[c.block _ d.1];exact h.1,by rw[c.block _ d.2];exact h.2⟩
theorem O0 (w:World) (v:Value) (sh:Bool) (lv:Int):wu ((w.alloc (.cells #[v,.bool sh,.int .i64 lv] 56)).alloc (.cells #[.int .i64 0,.int .i64 0,.int .i64 0,.bool false] 111)) w.heap.size (w.heap.size+1) v sh lv :=
 ⟨by rw[Below.heap_alloc _ _ _ (by simp)];exact heap_alloc_new w _,heap_alloc2_new w _ _⟩
theorem gj {w wr:World}(h:Below w.heap.size w wr) (x y z t:Value):Below w.heap.size w ((((wr.setCell ⟨w.heap.size+1,0,none⟩ x).setCell ⟨w.heap.size+1,1,none⟩ y).setCell ⟨w.heap.size+1,2,none⟩ z).setCell ⟨w.heap.size+1,3,none⟩ t) :=
 (((h.setCell (Nat.le_succ _) _).setCell (Nat.le_succ _) _).setCell (Nat.le_succ _) _).setCell (Nat.le_succ _) _
def du (es:List Ent) (l:List Int):Option El:=if 0<=atE es l then (es[(atE es l).toNat]?).map (·.el) else none
theorem Ls {es:List Ent} {l:List Int} {e:Ent} {k:Nat}(h:ni es l k) (a:es[k]? = some e) (b:e.runes=l):du es l=some e.el:=by
 unfold du;rw[Kn h a b,if_pos (by omega),Int.toNat_natCast,a];rfl
theorem Jd {es:List Ent} {l:List Int} {k:Nat}(h:ni es l k) (a:es.length<=k):du es l=none:=by
 unfold du;rw[Nq h a,if_neg (by omega)]
theorem Cg {es:List Ent} {l:List Int}:(du es l).isSome=decide (0<=atE es l):=by
 rcases vk es l with h|⟨i,e,a,h⟩
 .unfold du;rw[h];rfl
 .unfold du;rw[h,if_pos (by omega),Int.toNat_natCast,a];simp
theorem ah9 {es:List Ent} {l:List Int} {e:El}(h:du es l=some e):go es l=some e:=by
 unfold du at h;unfold go;split at h
 .rename_i c;rw[if_pos c];exact h
 .cases h
theorem Ai {es:List Ent} {l:List Int}(h:du es l=none):atE es l=-1:=by
 rcases vk es l with c|⟨i,e,a,c⟩
 .exact c
 .unfold du at h
  rw[c,if_pos (by omega),Int.toNat_natCast,a]at h
  cases h
theorem Xq {es:List Ent} {l:List Int} {k:Nat}:du (es.take k) l=none->ni es l k:=by
 intro h j e f d g;have a:=Ai h;unfold atE at a;have:(es.take k).findIdx? (fun e=>decide (e.runes=l))=none:=by
  cases c:(es.take k).findIdx? (fun e=>decide (e.runes=l)) with
  | none=>rfl
  | some i=>rw[c]at a;simp only at a;omega
 rw[List.findIdx?_eq_none_iff]at this;have b:=this e (List.mem_of_getElem? (i:=j) (by rw[List.getElem?_take_of_lt f];exact d));simp[g]at b
theorem af1 {es:List Ent} {e:Ent} {k:Nat}(q:es[k]? = some e):(du (es.take k) e.runes=none)↔atE es e.runes=(k:Int):=by
 constructor
 .intro h
  exact Kn (Xq h) q rfl
 .intro h
  cases c:du (es.take k) e.runes with
  | none=>rfl
  | some x =>
   exfalso
   rcases vk (es.take k) e.runes with d|⟨i,y,a,d⟩
   .unfold du at c;rw[d,if_neg (by omega)]at c;cases c
   .have b:i<k:=by
     have:=(List.getElem?_eq_some_iff.1 a).1;rw[List.length_take]at this;omega
    rw[List.getElem?_take_of_lt b]at a;unfold atE at d h
    cases f:(es.take k).findIdx? (fun x=>decide (x.runes=e.runes)) with
    | none=>rw[f]at d;simp only at d;omega
    | some m =>
     rw[f]at d;have r:m=i:=by simp only at d;omega
     subst r;obtain⟨l,n,o⟩:=List.findIdx?_eq_some_iff_getElem.1 f;have p:es.findIdx? (fun x=>decide (x.runes=e.runes))=some m:=by
      have g:m<es.length:=by rw[List.length_take]at l;omega
      rw[List.findIdx?_eq_some_iff_getElem];refine⟨g,?_,fun j hj=>?_⟩
      .simpa using n
      .have:=o j hj
       simpa using this
     rw[p]at h;simp only at h;omega
def re (rest:List Int) (k:Nat) (c:Int):Bool:=(rest.take k).any fun x=>decide (c<=cls x)
def jr (es:List Ent) (run rest:List Int):List Int->Nat->Int
 | [],_=>-1
 | m::ms,k=>if cls m=0 then -1 else if re rest k (cls m)=false/\0<=atE es (run++[m]) then (k:Int) else jr es run rest ms (k+1)
def lm (es:List Ent) (run rest:List Int):Int:=jr es run rest rest 0
theorem Pj {l:List Int} {k:Nat} {x:Int}(h:l[k]? = some x):l.drop k=x::l.drop (k+1):=by
 obtain⟨a,rfl⟩:=List.getElem?_eq_some_iff.1 h;exact List.drop_eq_getElem_cons a
theorem af9 {rest:List Int} {j:Nat} {c x:Int}(h:rest[j]? = some x):re rest (j+1) c=(re rest j c || decide (c<=cls x)):=by
 unfold re;rw[List.take_add_one,h];simp
theorem L3 (es:List Ent) (run rest:List Int) (a:List Int) (k:Nat):jr es run rest a k=-1\/∃ j:Nat,k<=j/\j<k+a.length/\jr es run rest a k=(j:Int):=by
 induction a generalizing k with
 | nil=>exact .inl rfl
 | cons m a ih =>
  unfold jr;split
  .exact .inl rfl
  .split
   .exact .inr ⟨k,bR,by simp,rfl⟩
   .rcases ih (k+1) with h|⟨j,c,d,b⟩
    .exact .inl h
    .exact .inr ⟨j,by omega,by simp;omega,b⟩
theorem Ct (es:List Ent) (run rest:List Int):lm es run rest=-1\/∃ j:Nat,j<rest.length/\lm es run rest=(j:Int):=by
 rcases L3 es run rest rest 0 with h|⟨j,_,b,a⟩
 .exact .inl h
 .exact .inr ⟨j,by omega,a⟩
def ou (es:List Ent) (l:List Int) (k:Nat):Bool:=decide (k<=l.length) && decide (0<=atE es (l.take k))
def nt (es:List Ent) (l:List Int):Nat:=if ou es l 4=true then 4 else if ou es l 3=true then 3 else if ou es l 2=true then 2 else 1
def m5 (es:List Ent) (l:List Int):Nat->Nat
 | 0=>1
 | k+1=>if 2<=k/\ou es l k=true then k else m5 es l k
theorem ak6 {es:List Ent} {l:List Int} {k:Nat}(h:ou es l k=true):k<=l.length:=by
 unfold ou at h;simp at h;exact h.1
theorem Pa {es:List Ent} {l:List Int} {k:Nat}(h:l.length<k):ou es l k=false:=by
 unfold ou;rw[decide_eq_false (by omega),Bool.false_and]
theorem M1 {es:List Ent} {l:List Int} {k:Nat}(h:k<=l.length):ou es l k=decide (0<=atE es (l.take k)):=by
 unfold ou;rw[decide_eq_true h,Bool.true_and]
theorem Mm (es:List Ent) (l:List Int):m5 es l 2=1:=by simp[m5]
theorem tj {es:List Ent} {l:List Int} {k:Nat}(a:2<=k):m5 es l (k+1)=if ou es l k=true then k else m5 es l k:=by
 rw[m5];simp[a]
theorem D8 (es:List Ent) (l:List Int):m5 es l 5=nt es l:=by
 rw[tj (by omega),tj (by omega),tj (by omega),Mm];rfl
theorem ab4 {es:List Ent} {l:List Int} {k:Nat}(h2:2<=k) (b:k<=5) (h:l.length<k):m5 es l k=nt es l:=by
 rw[<- D8];have a:∀ d,k+d<=5->m5 es l (k+d)=m5 es l k:=by
  intro d;induction d with
  | zero=>intro _;rfl
  | succ d ih =>
   intro hd;rw[show k+(d+1)=(k+d)+1 by omega,tj (by omega),Pa (by omega)];exact ih (by omega)
 have:=a (5-k) (by omega);rw[show k+(5-k)=5 by omega]at this;exact this.symm
theorem Qi {es:List Ent} {l:List Int} {k:Nat}(h:1<=l.length):1<=m5 es l k/\m5 es l k<=l.length/\m5 es l k<=max 1 (k-1):=by
 induction k with
 | zero=>exact⟨bR,h,by simp[m5]⟩
 | succ k ih =>
  rw[m5];split
  .rename_i c
   have:=ak6 c.2;omega
  .omega
theorem L7 {es:List Ent} {l:List Int}(h:1<=l.length):1<=nt es l/\nt es l<=l.length/\nt es l<=4:=by
 have:=Qi (es:=es) (k:=5) h;rw[D8]at this;omega
theorem ap7 {es:List Ent} {l:List Int} {k:Nat}(h2:2<=k) (b:k<=4) (h:ou es l k=true) (a:∀ j,k<j->j<=4->ou es l j=false):nt es l=k:=by
 unfold nt;obtain rfl|rfl|rfl:k=2\/k=3\/k=4:=by omega
 .rw[a 4 (by omega) (by omega),a 3 (by omega) (by omega),h];simp
 .rw[a 4 (by omega) (by omega),h];simp
 .rw[h];simp
theorem ap8 {es:List Ent} {l:List Int}(a:∀ j,1<j->j<=4->ou es l j=false):nt es l=1:=by
 unfold nt;rw[a 4 (by omega) (by omega),a 3 (by omega) (by omega),a 2 (by omega) (by omega)];simp
def sw (es:List Ent):Nat->List Int->List Int->List Int × List Int
 | 0,run,rest=>(run,rest)
 | f+1,run,rest=>if lm es run rest<0 then (run,rest) else sw es f (run++[at0 rest (lm es run rest).toNat]) (rest.eraseIdx (lm es run rest).toNat)
def mz (es:List Ent) (run rest:List Int):List Int × List Int:=sw es rest.length run rest
theorem M0 {es:List Ent} {run rest:List Int}(h:lm es run rest=-1):mz es run rest=(run,rest):=by
 unfold mz
 cases rest.length with
 | zero=>rfl
 | succ n=>rw[sw,if_pos (by omega)]
theorem Ue {es:List Ent} {run rest:List Int} {k:Nat}(a:k<rest.length) (h:lm es run rest=(k:Int)):mz es run rest=mz es (run++[at0 rest k]) (rest.eraseIdx k):=by
 unfold mz;rw[List.length_eraseIdx_of_lt a];obtain⟨n,b⟩:∃ n,rest.length=n+1:=⟨rest.length-1,by omega⟩
 rw[b,sw,if_neg (by omega),h,Int.toNat_natCast];rfl
theorem Wu (es:List Ent) (f:Nat) (run rest:List Int) (h1:1<=run.length) :
  (sw es f run rest).1.length+(sw es f run rest).2.length=run.length+rest.length/\1<=(sw es f run rest).1.length/\at0 (sw es f run rest).1 0=at0 run 0 /\
  (∀ x ∈ (sw es f run rest).1,x ∈ run\/x ∈ rest)/\(∀ x ∈ (sw es f run rest).2,x ∈ rest):=by
 induction f generalizing run rest with
 | zero=>exact⟨rfl,h1,rfl,fun x i=>.inl i,fun x i=>i⟩
 | succ f ih =>
  unfold sw;split
  .exact⟨rfl,h1,rfl,fun x i=>.inl i,fun x i=>i⟩
  .rename_i c
   rcases Ct es run rest with h|⟨j,l,h⟩
   .omega
   .rw[h,Int.toNat_natCast]
    obtain⟨a,b,d,e,g⟩:=ih (run++[at0 rest j]) (rest.eraseIdx j) (by simp);refine⟨?_,b,?_,?_,?_⟩
    .rw[a,List.length_append,List.length_eraseIdx_of_lt l]
     simp
     omega
    .rw[d]
     unfold at0;rw[List.getElem?_append_left (by omega)]
    .intro x i
     rcases e x i with h1|h1
     .rcases List.mem_append.1 h1 with k|k
      .exact .inl k
      .right
       simp only[List.mem_singleton]at k;subst k;unfold at0;rw[List.getElem?_eq_getElem l];exact List.getElem_mem l
     .exact .inr (List.mem_of_mem_eraseIdx h1)
    .intro x i
     exact List.mem_of_mem_eraseIdx (g x i)
theorem a59 (es:List Ent) (run rest:List Int) (h1:1<=run.length) :
  (mz es run rest).1.length+(mz es run rest).2.length=run.length+rest.length/\1<=(mz es run rest).1.length/\at0 (mz es run rest).1 0=at0 run 0 /\
  (∀ x ∈ (mz es run rest).1,x ∈ run\/x ∈ rest)/\(∀ x ∈ (mz es run rest).2,x ∈ rest):=Wu es rest.length run rest h1
def kp (es:List Ent) (run:List Int):List El:=match du es run with
 | some e=>[e]
 | none=>base (at0 run 0)
theorem Dv (es:List Ent) (run:List Int):(kp es run).length<=2:=by
 unfold kp;split
 .simp
 .exact Nr _
def gu (es:List Ent) (l:List Int):List Int × List Int:=mz es (l.take (nt es l)) (l.drop (nt es l))
theorem qk {es:List Ent} {l:List Int}(h:1<=l.length) :
  (gu es l).1.length+(gu es l).2.length=l.length/\1<=(gu es l).1.length/\at0 (gu es l).1 0=at0 l 0/\(∀ x ∈ (gu es l).1,x ∈ l)/\(∀ x ∈ (gu es l).2,x ∈ l):=by
 obtain⟨g,i,j⟩:=L7 (es:=es) h;obtain⟨a,b,c,d,e⟩:=a59 es (l.take (nt es l)) (l.drop (nt es l)) (by rw[List.length_take];omega);refine⟨?_,b,?_,?_,?_⟩
 .show (mz es _ _).1.length+(mz es _ _).2.length=_
  rw[a,List.length_take,List.length_drop];omega
 .show at0 (mz es _ _).1 0=_
  rw[c];unfold at0;rw[List.getElem?_take_of_lt (by omega)]
 .intro x f
  rcases d x f with h|h
  .exact List.mem_of_mem_take h
  .exact List.mem_of_mem_drop h
 .intro x f
  exact List.mem_of_mem_drop (e x f)
def ld (es:List Ent):Nat->List Int->List El
 | 0,_=>[]
 | f+1,l=>if l.length=0 then [] else kp es (gu es l).1++ld es f (gu es l).2
def gn (es:List Ent) (l:List Int):List El:=ld es l.length l
theorem Sg (es:List Ent) (f g:Nat) (l:List Int) (h1:l.length<=f) (h2:l.length<=g):ld es f l=ld es g l:=by
 induction f generalizing g l with
 | zero =>
  have:l.length=0:=by omega
  cases g with
  | zero=>rfl
  | succ g=>rw[ld,ld,if_pos this]
 | succ f ih =>
  by_cases c:l.length=0
  .cases g with
   | zero=>rw[ld,ld,if_pos c]
   | succ g=>rw[ld,ld,if_pos c,if_pos c]
  .cases g with
   | zero=>omega
   | succ g =>
    have:=qk (es:=es) (l:=l) (by omega);rw[ld,ld,if_neg c,if_neg c,ih g (gu es l).2 (by omega) (by omega)]
theorem Jb (es:List Ent):gn es []=[]:=rfl
theorem Gf {es:List Ent} {l:List Int}(h:1<=l.length):gn es l=kp es (gu es l).1++gn es (gu es l).2:=by
 unfold gn;obtain⟨n,a⟩:∃ n,l.length=n+1:=⟨l.length-1,by omega⟩
 have:=qk (es:=es) h;rw[a,ld,if_neg (by omega),Sg es n (gu es l).2.length (gu es l).2 (by omega) bR]
theorem Vt (es:List Ent) (f:Nat) (l:List Int):(ld es f l).length<=2*l.length:=by
 induction f generalizing l with
 | zero=>exact Nat.zero_le _
 | succ f ih =>
  rw[ld];split
  .exact Nat.zero_le _
  .have:=qk (es:=es) (l:=l) (by omega)
   have a:=ih (gu es l).2;have b:=Dv es (gu es l).1;rw[List.length_append];omega
theorem Ja (es:List Ent) (l:List Int):(gn es l).length<=2*l.length:=Vt es l.length l
theorem Vs {P:El->Prop} {es:List Ent}(g:∀ e ∈ es,P e.el) (f:Nat) (l:List Int) (d:∀ x ∈ l,∀ e ∈ base x,P e):∀ e ∈ ld es f l,P e:=by
 induction f generalizing l with
 | zero=>intro e a;cases a
 | succ f ih =>
  intro e a;rw[ld]at a;split at a
  .cases a
  .rename_i c
   have b:=qk (es:=es) (l:=l) (by omega);rcases List.mem_append.1 a with h|h
   .unfold kp at h
    split at h
    .rename_i x hx
     simp only[List.mem_singleton]at h;subst h;unfold du at hx;split at hx
     .obtain⟨y,i,rfl⟩:=Option.map_eq_some_iff.1 hx
      exact g y (List.mem_of_getElem? i)
     .cases hx
    .refine d (at0 (gu es l).1 0) ?_ e h
     rw[b.2.2.1];unfold at0;rw[List.getElem?_eq_getElem (show 0<l.length by omega)];exact List.getElem_mem _
   .exact ih _ (fun x hx=>d x (b.2.2.2.2 x hx)) e h
theorem Vr {P:El->Prop} {es:List Ent}(a:∀ e ∈ es,P e.el) (l:List Int) (b:∀ x ∈ l,∀ e ∈ base x,P e):∀ e ∈ gn es l,P e:=Vs a l.length l b
theorem qj {b:Array Oper} {o:Oper} {a:Act} {w:World} {K:Act->World->Prop} {Q:Exit->Act->World->Prop} {E:Prop}(D:Region.wanted o (yielded b a.tmps)=true) (s x:Operand)
  (A:o.op=.call { callee:=.builtin .append,args:=#[s,x],argTypes:=#[39,39] }) (B:Nat) (v:Value) (l l':List Int) (C:a.eval s=v) (i:aa w B v l)
  (ad:Addr) (m c:Nat) (F:a.eval x=.slice (some ad) m c) (e:l'.length=m) (f:∀ j u,(l'.map (Value.int .i64))[j]? = some u->w.cell? (ad.add j)=some u) (z:0<m) (H:l.length+m<=1048576) (d:B<=w.heap.size) (N:Nat) (r:N=l.length+m) (L:List Int) (q:L=l++l')
  (h:∀ g cap w',aa w' B (.slice (some ⟨g,0,none⟩) N cap) L->w.grownBy w' v.ownBlock->g<w'.heap.size->K (a.put o.dst (.slice (some ⟨g,0,none⟩) N cap)) w') :
  if Region.wanted o (yielded b a.tmps)=true then Oper.wp prog o a w K Q else E:=by
 obtain⟨G,t,p,k,n⟩:=info_parts eh;rw[if_pos D];subst r;subst q;subst e;refine wp_append_lies w s x 39 A B 3 G (.int .i64 0) 1 8 underlying39 t p k n rfl (by decide) v l.length (l.map (Value.int .i64)) C i ad l'.length c (l'.map (Value.int .i64)) F (by simp) f (fun u hu=>by obtain⟨y,_,rfl⟩:=List.mem_map.1 hu;rfl) z (by unfold maxLen;omega) (by omega) d w.heap.size rfl fun g cap w' h1 h2 _ h4=>h g cap w' ?_ h2 h4
 unfold aa;rw[List.length_append,List.map_append];exact h1
theorem wi (w:World) (n B:Nat) (b:n=w.heap.size) (a:B<=n):aa (w.alloc (.cells #[] 3)) B (.slice (some ⟨n,0,none⟩) 0 0) []:=by
 subst b;exact⟨rfl,.inr ⟨w.heap.size,0,#[],rfl,a,heap_alloc_new _ _,bR,Nat.zero_le _,rfl,rfl⟩⟩
theorem a65 {w:World} {B:Nat} {v:Value} {l:List Int}(h:aa w B v l):aa w.drew B v l:=h
theorem Cp {w:World} {B:Nat} {v:Value} {l:List Int}(h:aa w B v l) (o:Obj):aa (w.alloc o) B v l:=World.ownsRow.alloc h o
def jk (w:World) (n:Nat) (x:Int):Prop:=n<w.heap.size/\w.cell? ⟨n,0,none⟩=some (.int .i64 x)
theorem jk.new (w:World) (n:Nat) (x:Int) (a:n=w.heap.size):jk (w.alloc (.cells #[.int .i64 x] 3)) n x:=by
 subst a;exact⟨by simp,by simp⟩
theorem jk.alloc {w:World} {n:Nat} {x:Int}(h:jk w n x) (o:Obj):jk (w.alloc o) n x :=
 ⟨Nat.lt_of_lt_of_le h.1 (by simp),(World.cell?_of_block (Below.heap_alloc _ _ _ h.1)).trans h.2⟩
theorem jk.grown {w w':World} {row:Option Nat} {n:Nat} {x:Int}(h:jk w n x) (a:w.grownBy w' row) (b:some n≠row):jk w' n x :=
 ⟨Nat.lt_of_lt_of_le h.1 a.size,(a.cell_far _ h.1 b).trans h.2⟩
theorem jk.news {w:World} {n:Nat} {x:Int}(h:jk w n x):∀ j u,(([x]:List Int).map (Value.int .i64))[j]? = some u->w.cell? ((⟨n,0,none⟩:Addr).add j)=some u:=by
 intro j u a;match j,a with
 | 0,a=>simp at a;subst a;simpa [Addr.add] using h.2
theorem jk.of {w w':World} {n:Nat} {x:Int}(h:jk w n x) (e:w'.heap=w.heap):jk w' n x:=by
 refine⟨by rw[e];exact h.1,?_⟩;rw[World.cell?_of_block (w:=w) (w':=w') (by rw[e])];exact h.2
theorem oq {w w':World} {B:Nat} {v:Value} {l:List Int}(h:aa w B v l) (e:w'.heap=w.heap):aa w' B v l:=by
 unfold aa World.ownsRow at h ⊢;rw[e];exact h
theorem Te (n:Nat):some (n+1)≠(Value.slice (some ⟨n,0,none⟩) 0 0).ownBlock:=fun e=>by injection e with a;simp at a
theorem Td (n:Nat):some n≠(Value.slice (some ⟨n+1,0,none⟩) 0 0).ownBlock:=fun e=>by injection e with a;simp at a
theorem b64 {u W:World}(e:W.heap=(u.alloc (.cells #[] 3)).heap):aa W u.heap.size (.slice (some ⟨u.heap.size,0,none⟩) 0 0) []:=oq (wi u _ _ rfl bR) e
theorem b65 {u W:World} {x:Int}(e:W.heap=((u.alloc (.cells #[] 3)).alloc (.cells #[.int .i64 x] 3)).heap):aa W u.heap.size (.slice (some ⟨u.heap.size,0,none⟩) 0 0) []:=oq (Cp (wi u _ _ rfl bR) _) e
theorem b66 {u W:World} {x:Int}(e:W.heap=((u.alloc (.cells #[.int .i64 x] 3)).alloc (.cells #[] 3)).heap):aa W u.heap.size (.slice (some ⟨u.heap.size+1,0,none⟩) 0 0) []:=oq (wi _ _ _ (by simp) (by omega)) e
theorem bg1 {u W W':World} {x:Int}(a:W.grownBy W' (Value.slice (some ⟨u.heap.size,0,none⟩) 0 0).ownBlock) (e:W.heap=((u.alloc (.cells #[] 3)).alloc (.cells #[.int .i64 x] 3)).heap):jk W' (u.heap.size+1) x:=((jk.new _ _ x (by simp)).of e).grown a (Te _)
theorem bg2 {u W W':World} {x:Int}(a:W.grownBy W' (Value.slice (some ⟨u.heap.size+1,0,none⟩) 0 0).ownBlock) (e:W.heap=((u.alloc (.cells #[.int .i64 x] 3)).alloc (.cells #[] 3)).heap):jk W' u.heap.size x:=(((jk.new u _ x rfl).alloc _).of e).grown a (Td _)
def mf (w u:World) (v:Value) (sh:Bool) (lv:Int):Prop:=u.heap[w.heap.size]? = some (.cells #[v,.bool sh,.int .i64 lv] 56)
theorem mf.below {w u u':World} {v:Value} {sh:Bool} {lv:Int}(h:mf w u v sh lv) (a:Below u.heap.size u u'):mf w u' v sh lv:=by
 unfold mf;rw[a.block _ (Array.getElem?_eq_some_iff.1 h).1];exact h
def bc1 (w:World) (es:List Ent) (run rest:List Int) (v:Value) (sh:Bool) (lv:Int) (ans:Int) (i:Value) (wr:World):Prop :=
 ∃ k:Nat,k<=rest.length/\i=.int .i64 k/\jr es run rest (rest.drop k) k=ans/\mf w wr v sh lv/\Below w.heap.size w wr
theorem a80 (w:World) (B Br Bs C H gs cs:Nat) (v:Value) (es:List Ent) (sh:Bool) (lv:Int) (run rest:List Int) (hE:ac w B v es) (hn:es.length<=1048576) (hr:∀ e ∈ es,e.runes.length<=1048576)
  (hR:aa w Br (.slice (some ⟨C,0,none⟩) run.length H) run) (Z:aa w Bs (.slice (some ⟨gs,0,none⟩) rest.length cs) rest) (h1:1<=run.length) (al:run.length<=4000) (am:rest.length<=4000) :
  Calls prog 151 #[.agg #[v,.bool sh,.int .i64 lv],.slice (some ⟨C,0,none⟩) run.length H,.slice (some ⟨gs,0,none⟩) rest.length cs] w fun e w'=>e=.returned (.int .i64 (lm es run rest))/\Below w.heap.size w w':=by
 obtain⟨i0,J,ap,an,ao⟩:=info_parts eh;obtain⟨l,T⟩:∃ l,Hid (lm es run rest=l):=⟨_,rfl⟩
 rw[T.out];obtain⟨Q,S,R,rfl⟩:∃ a n c,v=.slice a n c:=by
  rcases hE.form with ⟨rfl,_⟩|⟨_,_,rfl,_,_,_,_⟩
  .exact⟨_,_,_,rfl⟩
  .exact⟨_,_,_,rfl⟩
 have F:=fun r w=>Dj r w
 have ad:rest.length<=cs:=by
  rcases Z.form with ⟨h,_⟩|⟨_,_,h,h2,_⟩
  .cases h
  .injection h with _ _ h3;omega
 go_enter func151,ntmps151;go_wp2;go_loopw [15] (fun i wr=>bc1 w es run rest (.slice Q S R) sh lv l i wr) (fun i _=>rest.length-(intOf i).toNat)
 case atStart=>exact⟨0,Nat.zero_le _,rfl,by rw[List.drop_zero];exact T.out,heap_alloc_new w _,bY _⟩
 case round =>
  clear T;obtain⟨k,g,rfl,hA,q,s⟩:=hrel;have L:Hid _:=hA;clear hA;by_cases V:k<rest.length
  .obtain⟨m,hm⟩:∃ m,rest[k]? = some m:=⟨_,List.getElem?_eq_getElem V⟩
   have c0:=ke (Z.below s) k m hm;have aj:(k:Int)<(rest.length:Int):=by omega
   have K:Hid ((if cls m=0 then -1 else if re rest k (cls m)=false/\0<=atE es (run++[m]) then (k:Int) else jr es run rest (rest.drop (k+1)) (k+1))=l):=by
    show _=_
    rw[<- L.out,Pj hm];rfl
   clear L;by_cases N:cls m=0
   .have p:Hid (-1=l):=by show _=_;rw[<- K.out,if_pos N]
    have E:=fun w=>F m w
    rw[N]at E;clear K F;go_wp2_with fail;refine (E _).mono ?_;rintro e w3 ⟨rfl,rfl⟩;go_wp2;go_ret;rw[<- p.out];exact⟨rfl,s⟩
   .have A:Hid ((if re rest k (cls m)=false/\0<=atE es (run++[m]) then (k:Int) else jr es run rest (rest.drop (k+1)) (k+1))=l):=by show _=_;rw[<- K.out,if_neg N]
    have ab:(cls m == 0)=false:=by simpa using N
    clear K;obtain⟨c,HC⟩:∃ c,Hid (cls m=c):=⟨_,rfl⟩
    have E:=fun w=>F m w
    rw[HC.out]at E ab A;have a9:=Z.below s;have ak:k<=cs:=by omega
    go_wp2_with fail;refine (E _).mono ?_;rintro e w3 ⟨rfl,ag⟩;obtain rfl:wr=w3:=ag.symm;clear E c0;go_wp2_with fail;go_loop [10,28] (fun bv i=>∃ j:Nat,j<=k/\i=.int .i64 j/\bv=.bool (re rest j c)) (fun _ i=>k-(intOf i).toNat)
    case atStart=>exact⟨0,Nat.zero_le _,rfl,rfl⟩
    case round =>
     obtain⟨j,hj,rfl,rfl⟩:=hrel;by_cases a5:j<k
     .obtain⟨x,O⟩:∃ x,rest[j]? = some x:=⟨_,List.getElem?_eq_getElem (by omega)⟩
      have cx:=ke a9 j x O;have ai:(j:Int)<(k:Int):=by omega
      have D:=af9 (c:=c) O
      cases hbl:re rest j c
      .have CX:=fun w=>F x w
       rw[hbl,Bool.false_or]at D;have U:Hid _:=D;clear D O;go_wp2_with fail;refine (CX _).mono ?_;rintro e w4 ⟨rfl,ah⟩;obtain rfl:wr=w4:=ah.symm;clear CX;go_wp2;exact⟨⟨j+1,a5,by go_num,by rw[U.out]⟩,by simp[intOf];omega⟩
      .rw[hbl,Bool.true_or]at D
       have U:Hid _:=D;clear D O;go_wp2;exact⟨⟨j+1,a5,by go_num,by rw[U.out]⟩,by simp[intOf];omega⟩
     .have ae:j=k:=by omega
      subst ae;obtain⟨p0,p1,p2⟩:wr.cell? ⟨w.heap.size,0,none⟩=some (.slice Q S R)/\wr.cell? ⟨w.heap.size,1,none⟩=some (.bool sh)/\wr.cell? ⟨w.heap.size,2,none⟩=some (.int .i64 lv):=⟨cell_of_row _ _ 0 _ _ _ q,cell_of_row _ _ 1 _ _ _ q,cell_of_row _ _ 2 _ _ _ q⟩;generalize hbl:re rest j c=bb
      cases bb
      .have HB:Hid (mf _ _ _ _ _):=q
       have a2:Hid _:=s;have M:∀ W:World,Below wr.heap.size wr W->∀ i u,(run.map (Value.int .i64))[i]? = some u->W.cell? ((⟨C,0,none⟩:Addr).add i)=some u:=fun W hW i u J=>by
        rw[List.getElem?_map,Option.map_eq_some_iff]at J;obtain⟨y,hy,rfl⟩:=J;rw[Addr.add_mid,hW.cell (Nat.lt_of_lt_of_le (World.ownsRow.lt hR C rfl).2 s.size),Nat.zero_add];exact ke (hR.below s) i y hy
       have AT:=fun (W:World) (B':Nat) (v':Value) (hW:Below wr.heap.size wr W) (J:aa W B' v' (run++[m]))=>rt (sh:=sh) (lv:=lv) ((hE.below s).below hW) J hn (by rw[List.length_append];simp;omega) hr
       go_wp2_with fail;have KS:Hid (∀ u,Below wr.heap.size wr u->u.cell? ⟨w.heap.size,0,none⟩=some (.slice Q S R)/\u.cell? ⟨w.heap.size,1,none⟩=some (.bool sh)/\u.cell? ⟨w.heap.size,2,none⟩=some (.int .i64 lv)):=fun u hu=>(show _ from ⟨cell_of_row _ _ 0 _ _ _ (q.below hu),cell_of_row _ _ 1 _ _ _ (q.below hu),cell_of_row _ _ 2 _ _ _ (q.below hu)⟩)
       go_region_held3 (fun u=>u.cell? ⟨w.heap.size,0,none⟩=some (.slice Q S R)/\u.cell? ⟨w.heap.size,1,none⟩=some (.bool sh)/\u.cell? ⟨w.heap.size,2,none⟩=some (.int .i64 lv)) (exact KS.out _ (by repeat (first|with_reducible exact bX|with_reducible exact f|with_reducible exact d|with_reducible exact b|with_reducible refine Below.drew ?_|with_reducible refine Below.alloc ?_ (by first|omega|(simp;done)|(simp;omega)) _))) ((first
        | (refine qj (by rfl) (.tmp 44) (.tmp 45) rfl wr.heap.size (.slice (some ⟨wr.heap.size,0,none⟩) 0 0) [] run rfl (b64 rfl) ⟨C,0,none⟩ run.length H rfl rfl (M _ (by repeat (first|with_reducible exact bX|with_reducible exact f|with_reducible exact d|with_reducible exact b|with_reducible refine Below.drew ?_|with_reducible refine Below.alloc ?_ (by first|omega|(simp;done)|(simp;omega)) _))) (by omega) (by simp;omega) (by first|omega|(simp;done)|(simp;omega)) run.length (by simp) run rfl ?_;intro I G w2 t o a6;have b:Below wr.heap.size wr w2:=Below.grown (by repeat (first|with_reducible exact bX|with_reducible exact f|with_reducible exact d|with_reducible exact b|with_reducible refine Below.drew ?_|with_reducible refine Below.alloc ?_ (by first|omega|(simp;done)|(simp;omega)) _)) o (by first|omega|(simp;done)|(simp;omega)) (fun k g=>by simp[Value.ownBlock]at g;omega);have a0:=b.size;clear o)
        | (refine qj (by rfl) (.tmp 44) (.tmp 45) rfl wr.heap.size (.slice (some ⟨wr.heap.size,0,none⟩) 0 0) [] run rfl (b65 (x:=m) rfl) ⟨C,0,none⟩ run.length H rfl rfl (M _ (by repeat (first|with_reducible exact bX|with_reducible exact f|with_reducible exact d|with_reducible exact b|with_reducible refine Below.drew ?_|with_reducible refine Below.alloc ?_ (by first|omega|(simp;done)|(simp;omega)) _))) (by omega) (by simp;omega) (by first|omega|(simp;done)|(simp;omega)) run.length (by simp) run rfl ?_;intro I G w2 t o a6;have b:Below wr.heap.size wr w2:=Below.grown (by repeat (first|with_reducible exact bX|with_reducible exact f|with_reducible exact d|with_reducible exact b|with_reducible refine Below.drew ?_|with_reducible refine Below.alloc ?_ (by first|omega|(simp;done)|(simp;omega)) _)) o (by first|omega|(simp;done)|(simp;omega)) (fun k g=>by simp[Value.ownBlock]at g;omega);have a0:=b.size;have X:=bg1 (x:=m) o rfl;clear o)
        | (refine qj (by rfl) (.tmp 44) (.tmp 45) rfl wr.heap.size (.slice (some ⟨wr.heap.size+1,0,none⟩) 0 0) [] run rfl (b66 (x:=m) rfl) ⟨C,0,none⟩ run.length H rfl rfl (M _ (by repeat (first|with_reducible exact bX|with_reducible exact f|with_reducible exact d|with_reducible exact b|with_reducible refine Below.drew ?_|with_reducible refine Below.alloc ?_ (by first|omega|(simp;done)|(simp;omega)) _))) (by omega) (by simp;omega) (by first|omega|(simp;done)|(simp;omega)) run.length (by simp) run rfl ?_;intro I G w2 t o a6;have b:Below wr.heap.size wr w2:=Below.grown (by repeat (first|with_reducible exact bX|with_reducible exact f|with_reducible exact d|with_reducible exact b|with_reducible refine Below.drew ?_|with_reducible refine Below.alloc ?_ (by first|omega|(simp;done)|(simp;omega)) _)) o (by first|omega|(simp;done)|(simp;omega)) (fun k g=>by simp[Value.ownBlock]at g;omega);have a0:=b.size;have X:=bg2 (x:=m) o rfl;clear o)
        | (refine qj (by rfl) (.tmp 46) (.tmp 48) rfl wr.heap.size (.slice (some ⟨I,0,none⟩) run.length G) run [m] rfl (oq (Cp t (.cells #[.int .i64 m] 3)) rfl) ⟨w2.heap.size,0,none⟩ 1 1 rfl rfl (jk.news ((jk.new w2 _ m rfl).of rfl)) (by omega) (by omega) (by have:=b.size;first|omega|(simp;done)|(simp;omega)) (run.length+1) rfl (run++[m]) rfl ?_;intro g3 c3 w3 P z a7;have d:Below wr.heap.size wr w3:=Below.grown (by repeat (first|with_reducible exact bX|with_reducible exact f|with_reducible exact d|with_reducible exact b|with_reducible refine Below.drew ?_|with_reducible refine Below.alloc ?_ (by first|omega|(simp;done)|(simp;omega)) _)) z (by have:=b.size;first|omega|(simp;done)|(simp;omega)) (fun k g=>(World.ownsRow.lt t k g).1);have a1:=d.size;clear z)
        | (refine qj (by rfl) (.tmp 46) (.tmp 48) rfl wr.heap.size (.slice (some ⟨I,0,none⟩) run.length G) run [m] rfl (oq t rfl) ⟨wr.heap.size+1,0,none⟩ 1 1 rfl rfl (jk.news (X.of rfl)) (by omega) (by omega) (by have:=b.size;first|omega|(simp;done)|(simp;omega)) (run.length+1) rfl (run++[m]) rfl ?_;intro g3 c3 w3 P z a7;have d:Below wr.heap.size wr w3:=Below.grown (by repeat (first|with_reducible exact bX|with_reducible exact f|with_reducible exact d|with_reducible exact b|with_reducible refine Below.drew ?_|with_reducible refine Below.alloc ?_ (by first|omega|(simp;done)|(simp;omega)) _)) z (by have:=b.size;first|omega|(simp;done)|(simp;omega)) (fun k g=>(World.ownsRow.lt t k g).1);have a1:=d.size;clear z)
        | (refine qj (by rfl) (.tmp 46) (.tmp 48) rfl wr.heap.size (.slice (some ⟨I,0,none⟩) run.length G) run [m] rfl (oq t rfl) ⟨wr.heap.size,0,none⟩ 1 1 rfl rfl (jk.news (X.of rfl)) (by omega) (by omega) (by have:=b.size;first|omega|(simp;done)|(simp;omega)) (run.length+1) rfl (run++[m]) rfl ?_;intro g3 c3 w3 P z a7;have d:Below wr.heap.size wr w3:=Below.grown (by repeat (first|with_reducible exact bX|with_reducible exact f|with_reducible exact d|with_reducible exact b|with_reducible refine Below.drew ?_|with_reducible refine Below.alloc ?_ (by first|omega|(simp;done)|(simp;omega)) _)) z (by have:=b.size;first|omega|(simp;done)|(simp;omega)) (fun k g=>(World.ownsRow.lt t k g).1);have a1:=d.size;clear z)
        | (go_at_call 57;refine (AT _ _ _ (by repeat (first|with_reducible exact bX|with_reducible exact f|with_reducible exact d|with_reducible exact b|with_reducible refine Below.drew ?_|with_reducible refine Below.alloc ?_ (by first|omega|(simp;done)|(simp;omega)) _)) (by repeat (first|with_reducible exact P|with_reducible refine a65 ?_|with_reducible refine Cp ?_ _))).mono ?_;rintro e w4 ⟨rfl,Y⟩;have f:Below wr.heap.size wr w4:=d.trans (Below.mono (by first|exact Y|exact (bX.drew).trans Y) d.size))))
       all_goals
        have a4:Below w.heap.size w w4:=a2.out.trans (f.mono a2.out.size);have a3:Hid _:=a4;have a8:Hid (mf _ _ _ _ _):=q.below f;clear AT M KS a4 f d b P t Y;by_cases hp:0<=atE es (run++[m])
        .have p:Hid ((j:Int)=l):=by show _=_;rw[<- A.out,if_pos ⟨hbl,hp⟩]
         clear A;go_wp2;go_ret;rw[<- p.out];exact⟨rfl,a3.out⟩
        .have p:Hid (jr es run rest (rest.drop (j+1)) (j+1)=l):=by show _=_;rw[<- A.out,if_neg (fun c=>hp c.2)]
         clear A;go_wp2;exact⟨⟨j+1,V,by go_num,p.out,a8.out,a3.out⟩,by simp[intOf];omega⟩
      .have p:Hid (jr es run rest (rest.drop (j+1)) (j+1)=l):=by show _=_;rw[<- A.out,if_neg (by simp[hbl])]
       clear A F;go_wp2_with fail;go_quiet (fail)
       go_wp2;exact⟨⟨j+1,V,by go_num,p.out,q.below (below_drewN bX _),below_drewN s _⟩,by simp[intOf];omega⟩
  .have af:k=rest.length:=by omega
   subst af;have p:Hid (-1=l):=by show _=_;rw[<- L.out,List.drop_length];rfl
   clear L F;go_wp2;go_ret;rw[<- p.out];exact⟨rfl,s⟩
def mh (e:El):Prop:=(0<=e.first/\e.first<=65535)/\(0<=e.second/\e.second<=65535)/\(0<=e.third/\e.third<=65535)
theorem Q7 {l:List Int} {r:Int} {i:Nat}(h:dg l r=some i):i<l.length:=by
 unfold dg at h;obtain⟨a,_⟩:=List.findIdx?_eq_some_iff_getElem.1 h;exact a
theorem af6 {r:Int}(h0:0<=r) (h1:r<=1114111):∀ e ∈ base r,mh e:=by
 intro e a;unfold base at a;split at a
 .rename_i i hi
  have:=Q7 hi;simp[vsl]at this
  simp only[List.mem_singleton]at a;subst a;unfold mh;simp only;omega
 .split at a
  .rename_i i hi
   have:=Q7 hi;simp[mkl]at this
   simp only[List.mem_singleton]at a;subst a;unfold mh;simp only;omega
  .unfold il at a
   unfold mh;split at a
   .cases a
   .split at a
    .simp only[List.mem_singleton]at a
     subst a;simp only;omega
    .split at a
     .simp only[List.mem_singleton]at a
      subst a;simp only;omega
     .split at a
      .simp only[List.mem_singleton]at a
       subst a;simp only;omega
      .simp only[List.mem_cons,List.not_mem_nil,or_false]at a
       rcases a with rfl|rfl <;> simp only <;> omega
theorem ai6 {es:List Ent} {lv:Int}(h:bd es lv=true):∀ e ∈ es,mh e.el:=by
 intro e b;obtain⟨i,c⟩:=List.getElem?_of_mem b;have a:=(xp es).1 (of_decide_eq_true h).2.2 i e c;unfold nj at a;simp only[Bool.and_eq_true,decide_eq_true_eq]at a;unfold mh;omega
theorem Jc {es:List Ent} {lv:Int}(h:bd es lv=true){l:List Int}(a:∀ x ∈ l,0<=x/\x<=1114111):∀ e ∈ gn es l,mh e :=
 Vr (ai6 h) l fun x hx=>af6 (a x hx).1 (a x hx).2
theorem a38 {sh b:Bool} {e:El}(h:mh e):(0<=(jx sh b e).1/\(jx sh b e).1<=65535)/\mh (jx sh b e).2.1:=by
 have a:mh elZ:=by unfold mh elZ;simp
 unfold jx;split
 .exact⟨by simp,h⟩
 .split
  .exact⟨h.1,a⟩
  .split
   .exact⟨by simp,a⟩
   .refine⟨?_,h⟩
    simp only;split <;> omega
theorem sd {sh:Bool} {es:List El}(h:∀ e ∈ es,mh e) (k:Nat):(∀ f ∈ (ik sh es k).1,0<=f/\f<=65535)/\∀ e ∈ (ik sh es k).2.1,mh e:=by
 induction k with
 | zero=>exact⟨fun f hf=>by simp[ik]at hf,fun f hf=>by simp[ik]at hf⟩
 | succ k ih =>
  unfold ik;split
  .exact ih
  .rename_i e he
   have:=a38 (sh:=sh) (b:=(ik sh es k).2.2) (h e (List.mem_of_getElem? he));refine⟨fun f hf=>?_,fun x hx=>?_⟩
   .rcases List.mem_append.1 hf with a|a
    .exact ih.1 f a
    .simp only[List.mem_singleton]at a
     subst a;exact this.1
   .rcases List.mem_append.1 hx with a|a
    .exact ih.2 x a
    .simp only[List.mem_singleton]at a
     subst a;exact this.2
theorem Jj {sh:Bool} {es:List El} {k:Nat}(b:k<=es.length):(ik sh es k).1.length=k/\(ik sh es k).2.1.length=k:=by
 induction k with
 | zero=>exact⟨rfl,rfl⟩
 | succ k ih =>
  have a:k<es.length:=by omega
  have:=ih (by omega);unfold ik;rw[List.getElem?_eq_getElem a];simp
  exact this
theorem Gm (sh:Bool) (es:List El):(ew sh es).length=es.length:=(Jj bR).1
theorem Ge (sh:Bool) (es:List El):(ed sh es).length=es.length:=(Jj bR).2
def wtL (lv:Nat) (e:El) (f:Int):Int:=if lv=1 then e.first else if lv=2 then e.second else if lv=3 then e.third else f
def oa (xs:List El) (k:Nat):El:=(xs[k]?).getD elZ
def Cm (n:Int):List Int:=if n=0 then [] else [n]
theorem Js {n:Int}(h:n=0):Cm n=[]:=by unfold Cm;rw[if_pos h]
theorem Jr {n:Int}(h:n≠0):Cm n=[n]:=by unfold Cm;rw[if_neg h]
def fg (lv:Nat) (xs:List El) (fs:List Int):Nat->List Int
 | 0=>[]
 | k+1=>fg lv xs fs k++Cm (wtL lv (oa xs k) (at0 fs k))
def wts (lv:Nat) (xs:List El) (fs:List Int):List Int:=fg lv xs fs xs.length
theorem V2 {lv:Nat} {e:El} {f:Int}(a:mh e) (b:0<=f/\f<=65535):0<=wtL lv e f/\wtL lv e f<=65535:=by
 unfold mh at a;unfold wtL;split
 .exact a.1
 .split
  .exact a.2.1
  .split
   .exact a.2.2
   .exact b
theorem Oj {xs:List El}(h:∀ e ∈ xs,mh e) (k:Nat):mh (oa xs k):=by
 unfold oa
 cases hx:xs[k]? with
 | none=>unfold mh elZ;simp
 | some e=>exact h e (List.mem_of_getElem? hx)
theorem Tz {fs:List Int}(h:∀ f ∈ fs,0<=f/\f<=65535) (k:Nat):0<=at0 fs k/\at0 fs k<=65535:=by
 unfold at0
 cases hx:fs[k]? with
 | none=>simp
 | some e=>exact h e (List.mem_of_getElem? hx)
theorem Rn {lv:Nat} {xs:List El} {fs:List Int}(c:∀ e ∈ xs,mh e) (b:∀ f ∈ fs,0<=f/\f<=65535) (k:Nat):∀ n ∈ fg lv xs fs k,1<=n/\n<=65535:=by
 induction k with
 | zero=>intro n a;cases a
 | succ k ih =>
  intro n a;rcases List.mem_append.1 a with h|h
  .exact ih n h
  .unfold Cm at h
   split at h
   .cases h
   .rename_i h0
    simp only[List.mem_singleton]at h;subst h;have:=V2 (lv:=lv) (Oj c k) (Tz b k);omega
theorem rm (lv:Nat) (xs:List El) (fs:List Int) (k:Nat):(fg lv xs fs k).length<=k:=by
 induction k with
 | zero=>exact bR
 | succ k ih =>
  rw[fg,List.length_append];unfold Cm;split <;> simp <;> omega
def by2 (n:Int):List Int:=[n / 256,n % 256]
def jw (ws:List Int):List Int:=ws.flatMap by2
theorem Lk:jw []=[]:=rfl
theorem Lj (a b:List Int):jw (a++b)=jw a++jw b:=by unfold jw;rw[List.flatMap_append]
theorem Ll (n:Int):jw [n]=[n / 256,n % 256]:=by simp[jw,by2]
theorem Dq (a:List Int):(jw a).length=2*a.length:=by
 induction a with
 | nil=>rfl
 | cons x xs ih =>
  unfold jw at ih ⊢;rw[List.flatMap_cons,List.length_append,ih];simp[by2]
  omega
def nh (lv:Nat):List Int:=if 1<lv then [0,0] else []
def lj (xs:List El) (fs:List Int):Nat->List Int
 | 0=>[]
 | n+1=>lj xs fs n++(nh (n+1)++jw (wts (n+1) xs fs))
theorem Pl (xs:List El) (fs:List Int) (n:Nat):(lj xs fs n).length<=n*(2+2*xs.length):=by
 induction n with
 | zero=>simp[lj]
 | succ n ih =>
  have b:=rm (n+1) xs fs xs.length;have c:(nh (n+1)).length<=2:=by unfold nh;split <;> simp
  have a:(n+1)*(2+2*xs.length)=n*(2+2*xs.length)+(2+2*xs.length):=Nat.succ_mul _ _;rw[lj,List.length_append,List.length_append,Dq,a];unfold wts;omega
def jt (bs:List Int):ByteArray:=⟨(bs.map fun x=>x.toNat.toUInt8).toArray⟩
def Pk (es:List Ent) (sh:Bool) (lv:Int) (l:List Int):List Int:=lj (ed sh (gn es l)) (ew sh (gn es l)) lv.toNat
def okE (es:List Ent) (lv:Int) (x:ByteArray):Bool:=ok4 x && bd es lv
def ko (es:List Ent) (lv:Int) (x:ByteArray):List El:=if okE es lv x=true then gn es (rn4 x) else []
def Cs (es:List Ent) (sh:Bool) (lv:Int) (x:ByteArray):ByteArray:=if okE es lv x=true then jt (Pk es sh lv (rn4 x)) else ⟨#[]⟩
theorem ap2 (x:ByteArray):∀ y ∈ rn4 x,bz y=true:=fun y hy=>Nn (Hm x.size x) y (M9.1 hy)
theorem Uq (x:ByteArray):∀ y ∈ rn4 x,0<=y/\y<=1114111:=fun y hy=>by have:=mg (ap2 x y hy);omega
theorem En {x:ByteArray}(h:ok4 x=true):x.size<=200/\(rn4 x).length<=200:=of_decide_eq_true h
theorem Eo {es:List Ent} {lv:Int} {x:ByteArray}(h:okE es lv x=true):x.size<=200/\(rn4 x).length<=200/\bd es lv=true:=by
 unfold okE at h;rw[Bool.and_eq_true]at h;exact⟨(En h.1).1,(En h.1).2,h.2⟩
theorem xe {es:List Ent} {lv:Int}(h:bd es lv=true):es.length<=40/\1<=lv/\lv<=4:=⟨(of_decide_eq_true h).1,(of_decide_eq_true h).2.1.1,(of_decide_eq_true h).2.1.2⟩
theorem Ol (es:List Ent) (lv:Int) (x:ByteArray):(ko es lv x).length<=400:=by
 unfold ko;split
 .rename_i h
  have:=Ja es (rn4 x);have:=(Eo h).2.1;omega
 .simp
theorem Ug:(prog.info? 5).map (fun i=>(i.zero,i.size,i.bytes))=some (some (.int .u8 0),1,1):=by kernel_rfl
def Bys (w:World) (base:Nat) (v:Value) (bs:List Int):Prop:=w.ownsRow base 5 1 v bs.length (bs.map (Value.int .u8))
theorem Bys.form {w:World} {B:Nat} {v:Value} {bs:List Int}(h:Bys w B v bs):(v=.slice none 0 0/\bs=[])\/∃ g cap,v=.slice (some ⟨g,0,none⟩) bs.length cap:=by
 rcases h.2 with ⟨a,b⟩|⟨g,cap,c,a,_⟩
 .exact .inl ⟨a,by simpa using b⟩
 .exact .inr ⟨g,cap,a⟩
theorem Bys.below {w w':World} {B:Nat} {v:Value} {bs:List Int}(h:Bys w B v bs) (a:Below w.heap.size w w'):Bys w' B v bs :=
 World.ownsRow.kept h (row:=none) ⟨a.os,a.tape,a.output,a.size,fun k hk _=>a.block k hk⟩ (by cases h:v.ownBlock <;> simp)
theorem Bys.app2 {w:World} {B:Nat} {v:Value} {bs:List Int} {x y:Int}(h:w.ownsRow B 5 1 v (bs.length+2) (bs.map (Value.int .u8)++[.int .u8 x,.int .u8 y])):Bys w B v (bs++[x,y]):=by
 unfold Bys;simpa using h
theorem zr (w:World) (n:Nat) (x y:Value) (t:TypeId) (b:n=w.heap.size):∀ j u,[x,y][j]? = some u->(w.alloc (.cells #[x,y] t)).cell? ((⟨n,0,none⟩:Addr).add j)=some u:=by
 subst b;intro j u a;match j,a with
 | 0,a=>simp at a;subst a;simp[Addr.add]
 | 1,a=>simp at a;subst a;simp[Addr.add]
 | j+2,a=>simp at a
theorem Gk:∀ (xs:List Int) (r:ByteArray),xs.foldl (fun r n=>r.push (UInt8.ofNat n.toNat)) r=⟨r.data++(xs.map fun x=>x.toNat.toUInt8).toArray⟩
 | [],r=>by simp
 | x::xs,r=>by
  simp only[List.map_cons,List.foldl_cons];rw[Gk xs];simp[ByteArray.push]
theorem Zh (b j:Nat):(⟨b,0,none⟩:Addr).add j=⟨b,j,none⟩:=by
 unfold Addr.add;split
 .rename_i h;subst h;rfl
 .simp
theorem yp {w:World} {B:Nat} {v:Value} {bs:List Int}(h:Bys w B v bs):(convert 22 9 v).run prog w=.ok (.string (jt bs)) w:=by
 rcases h.form with ⟨rfl,rfl⟩|⟨g,c,rfl⟩
 .rw[run_convert_bytes_string _ _ _ _ _ _ _ underlying22 underlying5 underlying9]
  rfl
 .rw[run_convert_bytes_string _ _ _ _ _ _ _ underlying22 underlying5 underlying9]
  have a:=run_loadCells_list (P:=prog) w ⟨g,0,none⟩ (bs.map (Value.int .u8)) (fun j v hj=>by
   have d:j<bs.length:=by have:=(List.getElem?_eq_some_iff.1 hj).1;simpa using this
   rw[Zh,World.ownsRow.cellAt h j (by omega),hj])
  simp only[List.length_map]at a;rw[run_bytesToString _ _ _ _ bs a,Gk];have b:ByteArray.empty.data=#[]:=rfl;rw[b];simp[jt]
theorem a21 {w:World} {B B':Nat} {v:Value} {es:List Ent} {sh:Bool} {lv:Int} {vl:Value} {l:List Int}(z:ac w B v es) (s:aa w B' vl l) (hn:es.length<=1048576) (W:l.length<=1048576) (G:∀ e ∈ es,e.runes.length<=1048576) (A:∀ x ∈ l,0<=x/\x<=1114111) :
  Calls prog 56 #[.agg #[v,.bool sh,.int .i64 lv],vl] w fun e w'=>e=.returned (ie (go es l))/\Below w.heap.size w w':=by
 have u:=((Below.refl w.heap.size w).alloc bR (.cells #[v,.bool sh,.int .i64 lv] 56)).alloc (by simp) (.cells #[.int .i64 0,.int .i64 0,.int .i64 0,.bool false] 111);have o:=rt (sh:=sh) (lv:=lv) (z.below u) (s.below u) hn W G;have t:Hid (wu _ _ _ _ _ _):=O0 w v sh lv;have j:Hid _:=u;have C:Hid (ac _ _ _ _):=z.below u;have D:Hid (aa _ _ _ _):=s.below u;clear u;rcases vk es l with m|⟨i,e,E,m⟩
 .rw[m]at o
  by_cases L:l.length=1
  .obtain⟨r,rfl⟩:∃ r,l=[r]:=List.length_eq_one_iff.1 L
   obtain⟨g,N,rfl⟩:=km s (by simp);have b:Hid (go es [r]=ng (base r)):=J9 m;have P:=fun w=>F5 r (A r (by simp)).1 (A r (by simp)).2 w
   clear z s G A m W C;simp only[List.length_singleton]at *;generalize base r=bs at *;go_enter func56,ntmps56;go_wp2_with fail;refine o.mono ?_;rintro K M ⟨rfl,f⟩;have c0:M.cell? ⟨g,0,none⟩=some (.int .i64 r):=by
    have h3:=World.ownsRow.cellAt (n:=1) (D.out.below f) 0 (by omega);rw[h3];rfl
   have Q:Hid (wu _ _ _ _ _ _):=t.out.below f;have H:Hid _:=j.out.trans (f.mono j.out.size);clear o D t j f;go_wp2_with fail;refine (P _).mono ?_;rintro K w3 ⟨v3,rfl,d,J⟩;have q:=Q.out.below J;have k:=H.out.trans (J.mono H.out.size);clear P c0 J Q H;obtain⟨⟨X,Y⟩,_,⟨Z,q1,q2,q3⟩,U⟩:=q.facts;clear q;match bs,b,d with
   | [],b,d =>
    have p:=hZ b.out;clear b;rcases d.form with ⟨rfl,_⟩|⟨V,O,rfl,_,_⟩
    .clear d
     go_wp2;refine bodyPost_ret (v:=.tuple #[.agg #[.int .i64 0,.int .i64 0,.int .i64 0,.bool false],.bool false]) ?_ rfl ⟨nf p.out,gj k _ _ _ _⟩;rw[results_cell_tmp rfl];go_simp
    .clear d
     go_wp2;refine bodyPost_ret (v:=.tuple #[.agg #[.int .i64 0,.int .i64 0,.int .i64 0,.bool false],.bool false]) ?_ rfl ⟨nf p.out,gj k _ _ _ _⟩;rw[results_cell_tmp rfl];go_simp
   | [x],b,d =>
    rcases d.form with ⟨_,h⟩|⟨V,O,rfl,_,_⟩
    .cases h
    .obtain⟨I,R,S,T⟩:=d.cells 0 x rfl
     simp only[Nat.zero_mul,Nat.zero_add]at I R S T;clear d;by_cases F:x.first=0
     .have p:=hZ (b.out.trans (if_pos F))
      clear b;rw[F]at I;go_wp2;refine bodyPost_ret (v:=.tuple #[.agg #[.int .i64 0,.int .i64 0,.int .i64 0,.bool false],.bool false]) ?_ rfl ⟨nf p.out,gj k _ _ _ _⟩;rw[results_cell_tmp rfl];go_simp
     .have p:=hZ (b.out.trans (if_neg F))
      clear b;have a6:(x.first == 0)=false:=by simpa using F
      go_wp2;refine bodyPost_ret (v:=.tuple #[.agg #[.int .i64 x.first,.int .i64 x.second,.int .i64 x.third,.bool x.varies],.bool true]) ?_ rfl ⟨Fs p.out,gj k _ _ _ _⟩;rw[results_cell_tmp rfl];go_simp
   | x::y::zs,b,d =>
    have p:=hZ b.out;clear b;rcases d.form with ⟨_,h⟩|⟨V,O,rfl,_,_⟩
    .cases h
    .simp only[List.length_cons]
     clear d;have hz:((zs.length+1+1:Nat):Int)≠1:=by omega
     go_wp2;refine bodyPost_ret (v:=.tuple #[.agg #[.int .i64 0,.int .i64 0,.int .i64 0,.bool false],.bool false]) ?_ rfl ⟨nf p.out,gj k _ _ _ _⟩;rw[results_cell_tmp rfl];go_simp
  .have b:Hid (go es l=none):=Lq m L
   obtain⟨a,c,rfl⟩:∃ a c,vl=.slice a l.length c:=by
    rcases s.form with ⟨rfl,rfl⟩|⟨g,N,rfl,_,_⟩
    .exact⟨_,_,rfl⟩
    .exact⟨_,_,rfl⟩
   have h2:((l.length:Int) != 1)=true:=by simp;omega
   clear z s G A m L C D;go_enter func56,ntmps56;go_wp2_with fail;refine o.mono ?_;rintro K M ⟨rfl,f⟩;have q:=t.out.below f;have k:=j.out.trans (f.mono j.out.size);clear o t j;obtain⟨⟨X,Y⟩,_,⟨Z,q1,q2,q3⟩,U⟩:=q.facts;clear q;go_wp2;refine bodyPost_ret (v:=.tuple #[.agg #[.int .i64 0,.int .i64 0,.int .i64 0,.bool false],.bool false]) ?_ rfl ⟨nf b.out,gj k _ _ _ _⟩;rw[results_cell_tmp rfl];go_simp
 .have b:Hid (go es l=some e.el):=a23 E m
  rw[m]at o;have hi:=(List.getElem?_eq_some_iff.1 E).1;rcases z.form with ⟨_,rfl⟩|⟨g,N,rfl,hc,a5,_,_⟩
  .simp at hi
  .clear z s G A m
   have a7:(i:Int)<(es.length:Int):=by omega
   go_enter func56,ntmps56;go_wp2_with fail;refine o.mono ?_;rintro K M ⟨rfl,f⟩;have q:=t.out.below f;have k:=j.out.trans (f.mono j.out.size);obtain⟨x,d,I,R,S,T,a4⟩:=(C.out.below f).cells i e E;clear o t j C D d E;obtain⟨⟨X,Y⟩,⟨p0,p1,p2⟩,⟨Z,q1,q2,q3⟩,U⟩:=q.facts;clear q;go_wp2;refine bodyPost_ret (v:=.tuple #[.agg #[.int .i64 e.el.first,.int .i64 e.el.second,.int .i64 e.el.third,.bool e.el.varies],.bool true]) ?_ rfl ⟨Fs b.out,gj k _ _ _ _⟩;rw[results_cell_tmp rfl];go_simp
def nn (es:List Ent) (lv:Int) (l:List Int):Option El:=if bd es lv=true/\bh l=true then go es l else none
theorem Qj {l:List Int}(h:bh l=true):∀ x ∈ l,0<=x/\x<=1114111:=by
 unfold bh at h;rw[Bool.and_eq_true,Bool.and_eq_true]at h;intro x a;have:=(rj h.2.1).2 x a;exact⟨(mg this).1,(mg this).2.1⟩
def be2:List Int->List Int->Nat
 | x::xs,y::ys=>if x=y then be2 xs ys+1 else 0
 | _,_=>0
end Go.Proofs.YtjbmgghehdemdaaGreatDoor
