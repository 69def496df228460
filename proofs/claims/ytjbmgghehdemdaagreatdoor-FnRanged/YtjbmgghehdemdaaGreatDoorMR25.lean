/- IRule1 -/
import Derived.Test.YtjbmgghehdemdaaGreatDoorMR9
import Derived.Test.YtjbmgghehdemdaaGreatDoorMR24
import Derived.Shelf.Slices.Clone
import Derived.Shelf.Slices.Cells
namespace Go.Proofs.YtjbmgghehdemdaaGreatDoor
set_option maxRecDepth 100000
set_option maxHeartbeats 16000000
open _root_.Go.Proofs.Tryz
open Go.RowKit
def Ms (e:El):Bool:=decide (1<=e.first/\e.first<=65535) && (decide (32<=e.second/\e.second<=999) && (decide (2<=e.third/\e.third<=99) && !e.varies))
theorem N8 (e:El) (w:World):Calls prog 178 #[.agg #[.int .i64 e.first,.int .i64 e.second,.int .i64 e.third,.bool e.varies]] w fun x w'=>x=.returned (.bool (Ms e))/\Below w.heap.size w w':=by
 obtain⟨b,h⟩:∃ b,Hid (Ms e=b):=⟨_,rfl⟩
 rw[h.out];obtain⟨a,c,d,v⟩:=e;simp only at *;have g:=(Below.refl w.heap.size w).alloc bR (.cells #[.int .i64 a,.int .i64 c,.int .i64 d,.bool v] 111);have i:∀ x,(x=true↔((1<=a/\a<=65535)/\(32<=c/\c<=999)/\(2<=d/\d<=99)/\v=false))->b=x:=by
  intro x j;rw[<- h.out];unfold Ms;rw[Bool.eq_iff_iff,j];simp
 have f:Hid _:=i;clear i h;by_cases k:1<=a
 .by_cases l:a<=65535
  .by_cases m:32<=c
   .by_cases n:c<=999
    .by_cases o:2<=d
     .by_cases p:d<=99
      .cases v
       .rw[f.out true (by simp;omega)]
        clear f;go_enter func178,ntmps178;go_wp2;go_ret;exact⟨rfl,g⟩
       .rw[f.out false (by simp)]
        clear f;go_enter func178,ntmps178;go_wp2;go_ret;exact⟨rfl,g⟩
      .rw[f.out false (by simp;omega)]
       clear f;go_enter func178,ntmps178;go_wp2;go_ret;exact⟨rfl,g⟩
     .rw[f.out false (by simp;omega)]
      clear f;go_enter func178,ntmps178;go_wp2;go_ret;exact⟨rfl,g⟩
    .rw[f.out false (by simp;omega)]
     clear f;go_enter func178,ntmps178;go_wp2;go_ret;exact⟨rfl,g⟩
   .rw[f.out false (by simp;omega)]
    clear f;go_enter func178,ntmps178;go_wp2;go_ret;exact⟨rfl,g⟩
  .rw[f.out false (by simp;omega)]
   clear f;go_enter func178,ntmps178;go_wp2;go_ret;exact⟨rfl,g⟩
 .rw[f.out false (by simp;omega)]
  clear f;go_enter func178,ntmps178;go_wp2;go_ret;exact⟨rfl,g⟩
def dr (w:World):Prop:=db w 7 ij/\db w 10 yw/\db w 11 xq
theorem dr.below {w w':World}(h:dr w) (a:Below w.heap.size w w'):dr w':=⟨h.1.below a h.1.lt,h.2.1.below a h.2.1.lt,h.2.2.below a h.2.2.lt⟩
theorem F9 {l:List Int}(h:¬ (1<=l.length/\l.length<=4)):bd l=false:=by
 unfold bd;rw[decide_eq_false h,Bool.false_and]
theorem Ow {l:List Int}(h:1<=l.length/\l.length<=4):bd l=(isD l && okR l):=by
 unfold bd isD;rw[decide_eq_true h,Bool.true_and]
 cases okR l <;> simp
theorem Au {w:World} {B:Nat} {v:Value} {l:List Int}(m:l.length<=1048576) (d:ab w B v l) (ht:dr w) :
  Calls prog 177 #[v] w fun e w'=>e=.returned (.bool (bd l))/\Below w.heap.size w w':=by
 have D:=Qz m d ht.1 ht.2.1 ht.2.2;obtain⟨a,c,rfl⟩:∃ a c,v=.slice a l.length c:=by
  rcases d.form with ⟨rfl,rfl⟩|⟨g,p,rfl,_,_⟩
  .exact⟨_,_,rfl⟩
  .exact⟨_,_,rfl⟩
 clear d ht;by_cases f:1<=l.length
 .by_cases i:l.length<=4
  .rw[Ow ⟨f,i⟩]
   have j:¬ (l.length:Int)<1:=by omega
   have k:¬ (4:Int)<(l.length:Int):=by omega
   generalize isD l=x at *;generalize okR l=y at *;generalize l.length=n at *
   cases x
   .go_enter func177,ntmps177
    go_wp2_with fail;refine D.mono ?_;rintro e o ⟨rfl,b⟩;clear D;go_wp2;go_ret;exact⟨rfl,b⟩
   .go_enter func177,ntmps177
    go_wp2_with fail;refine D.mono ?_;rintro e o ⟨rfl,b⟩;clear D;go_wp2;go_ret;exact⟨rfl,b⟩
  .rw[F9 (fun h=>i h.2)]
   have j:¬ (l.length:Int)<1:=by omega
   have k:(4:Int)<(l.length:Int):=by omega
   clear D;go_enter func177,ntmps177;go_wp2;go_ret;exact⟨rfl,bX⟩
 .rw[F9 (fun h=>f h.1)]
  have j:(l.length:Int)<1:=by omega
  clear D;go_enter func177,ntmps177;go_wp2;go_ret;exact⟨rfl,bX⟩
theorem nl (n:Int) (w:World):Calls prog 193 #[.int .i64 n] w fun e w'=>e=.returned (.agg #[.int .i64 n,.int .i64 32,.int .i64 2,.bool false])/\Below w.heap.size w w':=by
 go_enter func193,ntmps193;go_wp2;refine bodyPost_ret (v:=.agg #[.int .i64 n,.int .i64 32,.int .i64 2,.bool false]) ?_ rfl ⟨rfl,bY _⟩;rw[av rfl];go_simp
def wtV:List El->Value
 | []=>.iface 274 (.agg #[])
 | [e]=>.iface 266 (.agg #[.int .i64 e.first,.int .i64 e.second,.int .i64 e.third,.bool e.varies])
 | e::f::_=>.iface 280 (.agg #[.int .i64 e.first,.int .i64 e.second,.int .i64 e.third,.bool e.varies,.int .i64 f.first,.int .i64 f.second,.int .i64 f.third,.bool f.varies])
theorem Ls {x y:Value}(h:x=y):Ending.returned x=.returned y:=by rw[h]
theorem Xm (r:Int) (h0:0<=r) (h:r<=31\/r=127) (w:World) :
  Calls prog 203 #[.int .i64 r] w fun e w'=>e=.returned (wtV (base r))/\Below w.heap.size w w':=by
 rw[a71 h0 h];unfold wtV;by_cases a:r<=31
 .clear h
  go_enter func203,ntmps203;go_wp2;go_ret;exact⟨rfl,bX⟩
 .have b:r=127:=by omega
  subst b;clear h h0 a;go_enter func203,ntmps203;go_wp2;go_ret;exact⟨rfl,bX⟩
theorem a62 (r:Int) (i:Nat) (h:d7 vsl r=some i) (b:r ∈ vsl) (w:World) :
  Calls prog 203 #[.int .i64 r] w fun e w'=>e=.returned (wtV (base r))/\Below w.heap.size w w':=by
 obtain⟨d,a,_,_,_⟩:=ru r b;have j:i<9:=by unfold d7 at h;exact (List.findIdx?_eq_some_iff_getElem.1 h).1
 have I:=fun w=>pt r (by omega) (by omega) (by omega) w
 have e:pi r=(i:Int):=by unfold pi;rw[h]
 rw[e]at I;rw[al7 h];unfold wtV;have f:¬ r<=31:=by omega
 have g:(r == 127)=false:=by simp;omega
 have c:Hid ((i:Int)+1=1+(i:Int)):=by show _=_;omega
 clear h b e;go_enter func203,ntmps203;go_wp2_with fail;refine (I _).mono ?_;rintro e k ⟨rfl,a⟩;clear I;go_wp2;go_ret;exact⟨Ls (by rw[c.out];rfl),a⟩
theorem Pq (r:Int) (h:48<=r/\r<=57) (w:World) :
  Calls prog 203 #[.int .i64 r] w fun e w'=>e=.returned (wtV (base r))/\Below w.heap.size w w':=by
 have I:=fun w=>pt r (by omega) (by omega) (by omega) w
 have P:=fun n w=>nl n w
 have e:pi r=-1:=by unfold pi;rw[mi fun c=>(ru r c).2.2.1 h]
 rw[e]at I;rw[Gt h];unfold wtV;obtain⟨f,g⟩:=h;have i:¬ r<=31:=by omega
 have j:(r == 127)=false:=by simp;omega
 have b:Hid (2000+(r-48)*100=2000+100*(r-48)):=by show _=_;omega
 clear e;go_enter func203,ntmps203;go_wp2_with fail;refine (I _).mono ?_;rintro e k ⟨rfl,a⟩;clear I;go_wp2_with fail;refine (P _ _).mono ?_;rintro e l ⟨rfl,d⟩;clear P;go_wp2;go_ret;exact⟨Ls (by rw[b.out];rfl),a.trans (d.mono a.size)⟩
theorem Pr (r:Int) (h:97<=r/\r<=122) (w:World) :
  Calls prog 203 #[.int .i64 r] w fun e w'=>e=.returned (wtV (base r))/\Below w.heap.size w w':=by
 have I:=fun w=>pt r (by omega) (by omega) (by omega) w
 have P:=fun n w=>nl n w
 have e:pi r=-1:=by unfold pi;rw[mi fun c=>(ru r c).2.2.2.1 h]
 rw[e]at I;rw[Gu h];unfold wtV;obtain⟨f,g⟩:=h;have i:¬ r<=31:=by omega
 have j:(r == 127)=false:=by simp;omega
 have k:¬ r<=57:=by omega
 have b:Hid (4000+(r-97)*200=4000+200*(r-97)):=by show _=_;omega
 clear e;go_enter func203,ntmps203;go_wp2_with fail;refine (I _).mono ?_;rintro e l ⟨rfl,a⟩;clear I;go_wp2_with fail;refine (P _ _).mono ?_;rintro e m ⟨rfl,d⟩;clear P;go_wp2;go_ret;exact⟨Ls (by rw[b.out];rfl),a.trans (d.mono a.size)⟩
theorem Xl (r:Int) (h:65<=r/\r<=90) (w:World) :
  Calls prog 203 #[.int .i64 r] w fun e w'=>e=.returned (wtV (base r))/\Below w.heap.size w w':=by
 have I:=fun w=>pt r (by omega) (by omega) (by omega) w
 have P:=fun n w=>nl n w
 have e:pi r=-1:=by unfold pi;rw[mi fun c=>(ru r c).2.2.2.2 h]
 rw[e]at I;rw[a70 h];unfold wtV;obtain⟨g,i⟩:=h;have j:¬ r<=31:=by omega
 have k:(r == 127)=false:=by simp;omega
 have l:¬ r<=57:=by omega
 have m:¬ 97<=r:=by omega
 have d:Hid (4000+(r-65)*200=4000+200*(r-65)):=by show _=_;omega
 clear e;go_enter func203,ntmps203;go_wp2_with fail;refine (I _).mono ?_;rintro e o ⟨rfl,a⟩;clear I;go_wp2_with fail;refine (P _ _).mono ?_;rintro e p ⟨rfl,f⟩;clear P;have b:=a.trans (f.mono a.size);go_wp2;go_ret;exact⟨Ls (by rw[d.out];rfl),b.alloc b.size _⟩
theorem av2 (k:Nat) (a:k<15):mkl[k]? = some (at0 (ik.getD k []) 0):=by
 iterate 15 (rcases k with _|k;· rfl)
 omega
theorem Xn (r:Int) (h0:0<=r) (F:r<=1114111) (D:¬ (55296<=r/\r<=57343)) (p:d7 vsl r=none) (h1:¬ (r<=31\/r=127)) (h2:¬ (48<=r/\r<=57)) (A:¬ (97<=r/\r<=122)) (B:¬ (65<=r/\r<=90)) (w:World) (s:db w 7 ij) :
  Calls prog 203 #[.int .i64 r] w fun e w'=>e=.returned (wtV (base r))/\Below w.heap.size w w':=by
 have I:=fun w=>pt r h0 F D w
 have P:=fun n w=>nl n w
 have e:pi r=-1:=by unfold pi;rw[p]
 rw[e]at I;have l:Hid (d7 mkl r=none->base r=[⟨60000+r / 32768,32,2,false⟩,⟨32768+r % 32768,0,0,false⟩]):=fun h=>a74 p h h1 h2 A B
 have m:Hid (∀ i,d7 mkl r=some i->base r=[⟨0,40+(i:Int),2,false⟩]):=fun i h=>al6 p h
 have M:¬ r<=31:=fun c=>h1 (.inl c)
 have N:(r == 127)=false:=by simp;omega
 have H:r<48\/(57<r/\r<65)\/(90<r/\r<97)\/122<r:=by omega
 have T:Int.tdiv r 32768=r / 32768:=Int.tdiv_eq_ediv_of_nonneg h0;have S:Int.tmod r 32768=r % 32768:=Int.tmod_eq_emod_of_nonneg h0;clear e h1 p D h2 A B;rcases H with d|⟨d,J⟩|⟨d,J⟩|d;all_goals
  go_enter func203,ntmps203;go_wp2_with fail;refine (I _).mono ?_;rintro e K ⟨rfl,y⟩;clear I;obtain⟨t,z,u⟩:=s.below y s.lt;have C:K.heap[7]? = some (.cells Cn t z):=u;clear u s;go_wp2_with (refine wpList_load_row rfl 278 (.global 7) rfl 7 rfl t Cn z _ C underlying278 rfl (by kernel_rfl) ?_)
  clear C;go_loopw [67] (fun i wr=>∃ k:Nat,k<=15/\i=.int .i64 k/\Hid (o8 mkl r k)/\Below w.heap.size w wr) (fun i _=>15-(intOf i).toNat)
  case atStart=>exact⟨0,Nat.zero_le _,rfl,fun j x hj=>by omega,y⟩
  case round =>
   obtain⟨k,R,rfl,f,g⟩:=hrel;by_cases v:k<15
   .have Q:=fun w=>Eu k v w
    have o:Hid (mkl[k]? = some (at0 (ik.getD k []) 0)):=av2 k v;generalize at0 (ik.getD k []) 0=a at *;generalize at0 (ik.getD k []) 1=b at *;have L:(k:Int)<15:=by omega
    by_cases e:a=r
    .subst e
     have q:Hid (base a=[⟨0,40+(k:Int),2,false⟩]):=m.out k (Cu f.out o.out);clear f o l m P;go_wp2;go_ret;rw[q.out];exact⟨rfl,g.alloc g.size _⟩
    .have O:(a == r)=false:=by simpa using e
     have E:Hid (o8 mkl r (k+1)):=f.out.succ o.out e;clear e f o l m P;go_wp2;exact⟨⟨k+1,by omega,by go_num,E,g.alloc g.size _⟩,by simp[intOf];omega⟩
   .have q:Hid (base r=[⟨60000+r / 32768,32,2,false⟩,⟨32768+r % 32768,0,0,false⟩]):=l.out (Az f.out (by show 15<=k;omega))
    clear f l m;go_wp2_with fail;refine (P _ _).mono ?_;rintro e U ⟨rfl,G⟩;clear P;go_wp2;go_ret;rw[q.out];exact⟨rfl,g.trans (G.mono g.size)⟩
theorem Ii (r:Int) (h0:0<=r) (h1:r<=1114111) (f:¬ (55296<=r/\r<=57343)) (w:World) (b:db w 7 ij) :
  Calls prog 203 #[.int .i64 r] w fun e w'=>e=.returned (wtV (base r))/\Below w.heap.size w w':=by
 by_cases c:r<=31\/r=127
 .exact Xm r h0 c w
 .by_cases v:r ∈ vsl
  .obtain⟨i,a,_⟩:=ae6 v
   exact a62 r i a v w
  .by_cases d:48<=r/\r<=57
   .exact Pq r d w
   .by_cases s:97<=r/\r<=122
    .exact Pr r s w
    .by_cases u:65<=r/\r<=90
     .exact Xl r u w
     .exact Xn r h0 h1 f (mi v) c d s u w b
theorem Gs (r:Int):base r=[]\/(∃ e,base r=[e])\/∃ e f,base r=[e,f]:=by
 have:=M4 r;match h:base r with
 | []=>exact .inl rfl
 | [e]=>exact .inr (.inl ⟨e,rfl⟩)
 | [e,f]=>exact .inr (.inr ⟨e,f,rfl⟩)
 | _::_::_::_=>rw[h]at this;simp at this
theorem Tt {r:Int} {e:El}(h:base r=[e]):0<=e.first:=by
 unfold base at h;split at h
 .cases h;simp only;omega
 .split at h
  .cases h;simp
  .unfold gc at h
   split at h
   .cases h
   .split at h
    .cases h;simp only;omega
    .split at h
     .cases h;simp only;omega
     .split at h
      .cases h;simp only;omega
      .cases h
theorem ad6 {e:El}(h:0<e.first):mk [e]=some e:=if_neg (by omega)
theorem a08 {e:El}(h:0<=e.first) (h2:¬ 0<e.first):mk [e]=none:=if_pos (by omega)
def Zel (u:World) (b:Nat):Prop:=u.heap[b]? = some (.cells #[.int .i64 0,.int .i64 0,.int .i64 0,.bool false] 111)
theorem Zel.facts {u:World} {b:Nat}(h:Zel u b):b<u.heap.size/\(u.cell? ⟨b,0,none⟩=some (.int .i64 0)/\u.cell? ⟨b,1,none⟩=some (.int .i64 0)/\u.cell? ⟨b,2,none⟩=some (.int .i64 0)/\u.cell? ⟨b,3,none⟩=some (.bool false))/\∀ j,u.frozen? ⟨b,j,none⟩=false :=
 ⟨(Array.getElem?_eq_some_iff.1 h).1,⟨cell_of_row _ _ 0 _ _ _ h,cell_of_row _ _ 1 _ _ _ h,cell_of_row _ _ 2 _ _ _ h,cell_of_row _ _ 3 _ _ _ h⟩,fun j=>by simp[World.frozen?,show u.heap[b]? = _ from h]⟩
theorem Zel.below {u u':World} {b:Nat}(h:Zel u b) (a:Below u.heap.size u u'):Zel u' b:=(a.block _ h.facts.1).trans h
theorem oz {w wr:World} {b:Nat}(h:Below w.heap.size w wr) (a:w.heap.size<=b) (x y z t:Value):Below w.heap.size w ((((wr.setCell ⟨b,0,none⟩ x).setCell ⟨b,1,none⟩ y).setCell ⟨b,2,none⟩ z).setCell ⟨b,3,none⟩ t) :=
 (((h.setCell a _).setCell a _).setCell a _).setCell a _
theorem su {w wr:World}(h:Below w.heap.size w wr) (x y z t:Value) (o:Obj):Below w.heap.size w (((((wr.setCell ⟨w.heap.size,0,none⟩ x).setCell ⟨w.heap.size,1,none⟩ y).setCell ⟨w.heap.size,2,none⟩ z).setCell ⟨w.heap.size,3,none⟩ t).alloc o) :=
 (oz h bR x y z t).alloc (oz h bR x y z t).size _
theorem Qi (xs:List Value) (es:List Ent) (k:Nat):eu (xs.take k) (es.take k)=(eu xs es).take (k*5):=by
 induction k generalizing xs es with
 | zero=>simp[eu]
 | succ k ih =>
  match xs,es with
  | [],_=>simp[eu]
  | x::xs,[]=>simp[eu]
  | x::xs,e::es =>
   show gm x e.el++eu (xs.take k) (es.take k)=(gm x e.el++eu xs es).take ((k+1)*5)
   have a:((gm x e.el).take ((k+1)*5))=gm x e.el:=List.take_of_length_le (by show 5<=_;omega);have b:(k+1)*5-(gm x e.el).length=k*5:=by show (k+1)*5-5=_;omega
   rw[ih xs es,List.take_append,a,b]
theorem cn (w:World) (o:Obj):Below w.heap.size w (w.alloc o):=bY _
def ar3 (w:World) (es:List Ent) (l:List Int) (i:Value) (wr:World):Prop:=∃ k:Nat,k<=es.length/\i=.int .i64 k/\mn es l k/\Zel wr w.heap.size/\Below w.heap.size w wr
theorem Yy (w:World) (B H g cap:Nat) (es:List Ent) (vl:Value) (l:List Int) (p:ac w B (.slice (some ⟨g,0,none⟩) es.length cap) es) (A:ab w H vl l) (W:es.length<=1048576) (P:l.length<=1048576) (r:∀ e ∈ es,e.runes.length<=1048576) :
  Calls prog 168 #[.slice (some ⟨g,0,none⟩) es.length cap,vl] w fun e w'=>e=.returned (fo (dj es l))/\Below w.heap.size w w':=by
 go_enter func168,ntmps168;go_wp2;go_loopw [10] (fun i wr=>ar3 w es l i wr) (fun i _=>es.length-(intOf i).toNat)
 case atStart=>exact⟨0,Nat.zero_le _,rfl,fun j e hj=>by omega,heap_alloc_new _ _,bY _⟩
 case round =>
  obtain⟨k,V,rfl,u,f,b⟩:=hrel;have a:=hZ u;clear u;by_cases E:k<es.length
  .obtain⟨e,m⟩:∃ e,es[k]? = some e:=⟨_,List.getElem?_eq_getElem E⟩
   obtain⟨x,q,I,J,K,L,M⟩:=(p.below b).cells k e m;obtain⟨s,t,xc,rfl⟩:∃ s t xc,x=.slice s t xc:=by
    rcases q.form with ⟨rfl,_⟩|⟨_,_,rfl,_,_⟩
    .exact⟨_,_,_,rfl⟩
    .exact⟨_,_,_,rfl⟩
   have R:(k:Int)<(es.length:Int):=by omega
   have G:=r e (List.mem_of_getElem? m);have d:=(Below.refl wr.heap.size wr).alloc bR (.cells #[.slice s t xc,.int .i64 e.el.first,.int .i64 e.el.second,.int .i64 e.el.third,.bool e.el.varies] 117);have y:=b.trans (d.mono b.size);have z:=Jv G P (q.below d) ((A.below b).below d);have o:Hid (Zel _ _):=f.below d;have S:=f.facts.1;have h:Hid _:=m;clear m q p A r f d;go_wp2_with fail;refine z.mono ?_;rintro U X ⟨rfl,C,rfl⟩;clear z I J K L M;by_cases c:e.runes=l
   .have n:Hid (dj es l=some e.el):=Jt a.out h.out c
    have N:decide (e.runes=l)=true:=decide_eq_true c;obtain⟨F,⟨Q,q1,q2,q3⟩,O⟩:=o.out.facts;have T:=b.size;clear a h c o;go_wp2;refine bodyPost_ret (v:=.tuple #[.agg #[.int .i64 e.el.first,.int .i64 e.el.second,.int .i64 e.el.third,.bool e.el.varies],.bool true]) ?_ rfl ⟨Dw n.out,oz (below_drewN y C) bR _ _ _ _⟩;rw[results_cell_tmp rfl];go_simp
   .have D:Hid (mn es l (k+1)):=a.out.succ h.out c
    have N:decide (e.runes=l)=false:=decide_eq_false c;clear a h c;go_wp2;exact⟨⟨k+1,by omega,by go_num,D.out,o.out,below_drewN y C⟩,by simp[intOf];omega⟩
  .have n:Hid (dj es l=none):=Hb a.out (by omega)
   obtain⟨F,⟨Q,q1,q2,q3⟩,O⟩:=f.facts;clear a p r f;go_wp2;refine bodyPost_ret (v:=.tuple #[.agg #[.int .i64 0,.int .i64 0,.int .i64 0,.bool false],.bool false]) ?_ rfl ⟨mj n.out,oz b bR _ _ _ _⟩;rw[results_cell_tmp rfl];go_simp
theorem Ju (w:World) (vl:Value) (l:List Int) :
  Calls prog 168 #[.slice none 0 0,vl] w fun e w'=>e=.returned (fo (dj [] l))/\Below w.heap.size w w':=by
 have b:Hid (dj [] l=none):=rfl;have a:Zel (w.alloc (.cells #[.int .i64 0,.int .i64 0,.int .i64 0,.bool false] 111)) w.heap.size:=heap_alloc_new _ _;obtain⟨c,⟨f,q1,q2,q3⟩,d⟩:=a.facts;clear a;go_enter func168,ntmps168;go_wp2;go_loop [10] (fun i=>i=.int .i64 0) (fun _=>0)
 case atStart=>rfl
 case round =>
  subst hrel;go_wp2;refine bodyPost_ret (v:=.tuple #[.agg #[.int .i64 0,.int .i64 0,.int .i64 0,.bool false],.bool false]) ?_ rfl ⟨mj b.out,?_⟩
  .rw[results_cell_tmp rfl]
   go_simp
  .exact cn w _
theorem Ca {w:World} {B a:Nat} {v vl:Value} {es:List Ent} {l:List Int}(b:ac w B v es) (d:ab w a vl l) (h:es.length<=1048576) (f:l.length<=1048576) (i:∀ e ∈ es,e.runes.length<=1048576) :
  Calls prog 168 #[v,vl] w fun e w'=>e=.returned (fo (dj es l))/\Below w.heap.size w w':=by
 rcases b.form with ⟨rfl,rfl⟩|⟨g,c,rfl,_,_,_,_⟩
 .exact Ju w vl l
 .exact Yy w B a g c es vl l b d h f i
theorem ac.take {w:World} {B g cap:Nat} {es:List Ent}(h:ac w B (.slice (some ⟨g,0,none⟩) es.length cap) es) (k:Nat) (z:k<=es.length):ac w B (.slice (some ⟨g,0,none⟩) k cap) (es.take k):=by
 obtain⟨j,m,⟨F,u⟩,v⟩:=h;have o:(es.take k).length=k:=by rw[List.length_take];omega
 refine⟨j.take k,by rw[List.length_take,List.length_take,m],?_,fun i e he=>?_⟩
 .have hcut:eu (j.take k) (es.take k)=(eu j es).take (k*5):=Qi j es k
  rcases u with ⟨a,b⟩|⟨E,C,n,a,b,c,d,e,f,t⟩
  .cases a
  .refine⟨by rw[Ue _ _ (by rw[List.length_take,List.length_take,m])],?_⟩
   rw[o];injection a with p D q;injection p with r;injection r with s;subst s;subst q;refine .inr ⟨g,cap,n,rfl,b,c,by omega,e,f,?_⟩;rw[hcut,<- t,List.take_take,Nat.min_eq_left (Nat.mul_le_mul_right 5 z)]
 .have l:i<k:=by
   have:=(List.getElem?_eq_some_iff.1 he).1;omega
  rw[List.getElem?_take_of_lt l]at he;obtain⟨x,A,y⟩:=v i e he;exact⟨x,by rw[List.getElem?_take_of_lt l];exact A,y⟩
def il (w:World) (v:Value) (l:List Int):Prop :=
 (∃ a c,v=.slice a 0 c/\l=[])\/∃ g f c,v=.slice (some ⟨g,f,none⟩) l.length c/\g<w.heap.size/\∀ j x,l[j]? = some x->w.cell? ⟨g,f+j,none⟩=some (.int .i64 x)
theorem il.below {w w':World} {v:Value} {l:List Int}(h:il w v l) (b:Below w.heap.size w w'):il w' v l:=by
 rcases h with h|⟨g,f,c,d,a,e⟩
 .exact .inl h
 .exact .inr ⟨g,f,c,d,Nat.lt_of_lt_of_le a b.size,fun j x hx=>by rw[b.cell a];exact e j x hx⟩
theorem ab.rowAt {w:World} {B:Nat} {v:Value} {l:List Int}(h:ab w B v l):il w v l:=by
 rcases h.form with ⟨rfl,rfl⟩|⟨g,a,rfl,_,_⟩
 .exact .inl ⟨_,_,rfl,rfl⟩
 .refine .inr ⟨g,0,a,rfl,(World.ownsRow.lt h g rfl).2,fun j x hx=>?_⟩
  have b:=(List.getElem?_eq_some_iff.1 hx).1;rw[Nat.zero_add,h.cell j b,hx];rfl
theorem il.slice {w:World} {v:Value} {l:List Int}(h:il w v l):∃ a c,v=.slice a l.length c:=by
 rcases h with ⟨a,c,rfl,rfl⟩|⟨g,f,c,rfl,_,_⟩
 .exact⟨_,_,rfl⟩
 .exact⟨_,_,rfl⟩
theorem a98 (w:World) (g g' f cap B n:Nat) (a b:List Int) (c:a.length=n) (d:b.length=n) (J:n<=1048576)
  (h1:∀ j,j<n->w.cell? ⟨g,j,none⟩=some (.int .i64 (a[j]?.getD 0)))
  (h2:∀ j,j<n->w.cell? ⟨g',f+j,none⟩=some (.int .i64 (b[j]?.getD 0))) :
  Calls prog 190 #[.slice (some ⟨g,0,none⟩) n cap,.slice (some ⟨g',f,none⟩) n B] w fun e w'=>e=.returned (.bool (decide (a=b)))/\∃ n,w'=w.drewN n:=by
 go_enter func190,ntmps190;go_wp2;go_loopw [13] (fun i wr=>∃ k z:Nat,k<=n/\i=.int .i64 k/\wr=w.drewN z/\Hid (Dh a b k)) (fun i _=>n-(intOf i).toNat)
 case atStart=>exact⟨0,0,Nat.zero_le _,rfl,rfl,fun j p=>by omega⟩
 case round =>
  obtain⟨k,z,I,rfl,rfl,t⟩:=hrel;by_cases s:k<n
  .obtain⟨x,q⟩:∃ x,a[k]? = some x:=⟨_,List.getElem?_eq_getElem (by omega)⟩
   obtain⟨y,r⟩:∃ y,b[k]? = some y:=⟨_,List.getElem?_eq_getElem (by omega)⟩
   have m:=h1 k s;have o:=h2 k s;rw[q]at m;rw[r]at o;have G:w.cell? ⟨g,k,none⟩=some (.int .i64 x):=m;have H:w.cell? ⟨g',f+k,none⟩=some (.int .i64 y):=o;have F:(k:Int)<(n:Int):=by omega
   have u:Hid _:=q;have v:Hid _:=r;have C:Hid _:=c;have D:Hid _:=d;clear h1 h2 m o q r c d;by_cases e:x=y
   .subst e
    have A:Hid (Dh a b (k+1)):=by
     intro j p;by_cases e:j=k
     .subst e;rw[u.out,v.out]
     .exact t.out j (by omega)
    go_wp2;go_quiet (fail)
    go_wp2;exact⟨⟨k+1,_,by omega,by go_num,rfl,A⟩,by simp[intOf];omega⟩
   .have E:(x != y)=true:=by simpa using e
    have l:Hid (false=decide (a=b)):=by
     refine (decide_eq_false fun h=>e ?_).symm;have:=u.out;rw[h,v.out]at this;exact (Option.some.inj this).symm
    clear e;go_wp2;go_quiet (fail)
    go_wp2;go_ret;exact⟨jj l.out,_,World.drewN_drewN _ _ _⟩
  .have l:Hid (true=decide (a=b)):=by
    refine (decide_eq_true ?_).symm;apply List.ext_getElem?
    intro j;by_cases p:j<k
    .exact t.out j p
    .rw[List.getElem?_eq_none (by omega),List.getElem?_eq_none (by omega)]
   have C:Hid _:=c;have D:Hid _:=d;clear h1 h2 c d;go_wp2;go_ret;exact⟨jj l.out,_,rfl⟩
theorem Qk {w:World} {B:Nat} {a b:Value} {d i:List Int}(p:d.length<=1048576) (k:ab w B a d) (l:il w b i) :
  Calls prog 190 #[a,b] w fun e w'=>e=.returned (.bool (decide (d=i)))/\∃ n,w'=w.drewN n:=by
 by_cases h:d.length=i.length
 .rcases k.form with ⟨rfl,rfl⟩|⟨g,m,rfl,r,s⟩
  .have e:i=[]:=List.eq_nil_of_length_eq_zero (by simpa using h.symm)
   subst e;obtain⟨x,c,rfl⟩:=l.slice;exact re w _ _ _ _
  .rcases l with ⟨x,c,rfl,rfl⟩|⟨q,f,c,rfl,_,t⟩
   .have e:d=[]:=List.eq_nil_of_length_eq_zero (by simpa using h)
    subst e;exact re w _ _ _ _
   .rw[<- h]
    exact a98 w g q f m c d.length d i rfl h.symm p (fun j hj=>k.cell j hj) (fun j hj=>by
     have o:j<i.length:=by omega
     rw[t j i[j] (List.getElem?_eq_getElem o),List.getElem?_eq_getElem o];rfl)
 .have e:decide (d=i)=false:=decide_eq_false (fun e=>h (by rw[e]))
  rw[e];obtain⟨x,c,rfl⟩:=l.slice;rcases k.form with ⟨rfl,rfl⟩|⟨g,m,rfl,r,s⟩
  .exact tw w _ _ _ _ _ _ (by simpa using h)
  .exact tw w _ _ _ _ _ _ h
theorem Qj (w:World) (B g cap:Nat) (es:List Ent) (vl:Value) (l:List Int) (p:ac w B (.slice (some ⟨g,0,none⟩) es.length cap) es) (A:il w vl l) (U:es.length<=1048576) (r:∀ e ∈ es,e.runes.length<=1048576) :
  Calls prog 168 #[.slice (some ⟨g,0,none⟩) es.length cap,vl] w fun e w'=>e=.returned (fo (dj es l))/\Below w.heap.size w w':=by
 go_enter func168,ntmps168;go_wp2;go_loopw [10] (fun i wr=>ar3 w es l i wr) (fun i _=>es.length-(intOf i).toNat)
 case atStart=>exact⟨0,Nat.zero_le _,rfl,fun j e hj=>by omega,heap_alloc_new _ _,bY _⟩
 case round =>
  obtain⟨k,T,rfl,u,f,b⟩:=hrel;have a:=hZ u;clear u;by_cases E:k<es.length
  .obtain⟨e,m⟩:∃ e,es[k]? = some e:=⟨_,List.getElem?_eq_getElem E⟩
   obtain⟨x,q,H,I,J,K,L⟩:=(p.below b).cells k e m;obtain⟨s,t,xc,rfl⟩:∃ s t xc,x=.slice s t xc:=by
    rcases q.form with ⟨rfl,_⟩|⟨_,_,rfl,_,_⟩
    .exact⟨_,_,_,rfl⟩
    .exact⟨_,_,_,rfl⟩
   have P:(k:Int)<(es.length:Int):=by omega
   have G:=r e (List.mem_of_getElem? m);have d:=(Below.refl wr.heap.size wr).alloc bR (.cells #[.slice s t xc,.int .i64 e.el.first,.int .i64 e.el.second,.int .i64 e.el.third,.bool e.el.varies] 117);have y:=b.trans (d.mono b.size);have z:=Qk G (q.below d) ((A.below b).below d);have o:Hid (Zel _ _):=f.below d;have Q:=f.facts.1;have h:Hid _:=m;clear m q p A r f d;go_wp2_with fail;refine z.mono ?_;rintro S V ⟨rfl,C,rfl⟩;clear z H I J K L;by_cases c:e.runes=l
   .have n:Hid (dj es l=some e.el):=Jt a.out h.out c
    have M:decide (e.runes=l)=true:=decide_eq_true c;obtain⟨F,⟨O,q1,q2,q3⟩,N⟩:=o.out.facts;have R:=b.size;clear a h c o;go_wp2;refine bodyPost_ret (v:=.tuple #[.agg #[.int .i64 e.el.first,.int .i64 e.el.second,.int .i64 e.el.third,.bool e.el.varies],.bool true]) ?_ rfl ⟨Dw n.out,oz (below_drewN y C) bR _ _ _ _⟩;rw[results_cell_tmp rfl];go_simp
   .have D:Hid (mn es l (k+1)):=a.out.succ h.out c
    have M:decide (e.runes=l)=false:=decide_eq_false c;clear a h c;go_wp2;exact⟨⟨k+1,by omega,by go_num,D.out,o.out,below_drewN y C⟩,by simp[intOf];omega⟩
  .have n:Hid (dj es l=none):=Hb a.out (by omega)
   obtain⟨F,⟨O,q1,q2,q3⟩,N⟩:=f.facts;clear a p r f;go_wp2;refine bodyPost_ret (v:=.tuple #[.agg #[.int .i64 0,.int .i64 0,.int .i64 0,.bool false],.bool false]) ?_ rfl ⟨mj n.out,oz b bR _ _ _ _⟩;rw[results_cell_tmp rfl];go_simp
theorem yz {w:World} {B:Nat} {v vl:Value} {es:List Ent} {l:List Int}(a:ac w B v es) (c:il w vl l) (d:es.length<=1048576) (f:∀ e ∈ es,e.runes.length<=1048576) :
  Calls prog 168 #[v,vl] w fun e w'=>e=.returned (fo (dj es l))/\Below w.heap.size w w':=by
 rcases a.form with ⟨rfl,rfl⟩|⟨g,b,rfl,_,_,_,_⟩
 .exact Ju w vl l
 .exact Qj w B g b es vl l a c d f
theorem G6 {P:Program}(w:World) (t ty e:TypeId) (i:TypeInfo) (ht:P.underlying t=some (.slice e)) (hi:P.info? e=some i) (b:Option Addr) (n c d:Nat) (a:n<=c) :
  (Builtin.append_ #[t,t] ty #[.slice b n c,.slice none 0 d]).run P w=.ok (.slice b n c) w:=by
 cases b <;> simp[Builtin.append_,run_underlying ht,sizeOf,typeInfo,hi,a,storeCells,Builtin.lenOf,Builtin.firstCells]
theorem A3 {w:World} {o:Oper} {a:Act} {K:Act->World->Prop} {Q:Exit->Act->World->Prop}(s x:Operand)
  (t:o.op=.call { callee:=.builtin .append,args:=#[s,x],argTypes:=#[39,39] }) (B:Nat) (v p:Value) (l l':List Int) (z:a.eval s=v) (A:a.eval x=p) (k:ab w B v l) (J:il w p l')
  (N:l.length+l'.length<=1048576) (D:B<=w.heap.size) (h:∀ v' w',ab w' B v' (l++l')->w.grownBy w' v.ownBlock->K (a.put o.dst v') w'):Oper.wp prog o a w K Q:=by
 obtain⟨C,r,H,F,G⟩:=info_parts dv;have q:∀ (d:Addr) (c:Nat),p=.slice (some d) l'.length c->(∀ j u,(l'.map (Value.int .i64))[j]? = some u->w.cell? (d.add j)=some u)->Oper.wp prog o a w K Q:=fun d c e m=>by
  refine wp_append_own w s x 39 t B 3 C (.int .i64 0) 1 8 underlying39 r H F G rfl (by decide) v l.length (l.map (Value.int .i64)) z k d l'.length c (l'.map (Value.int .i64)) (A.trans e) (by simp) m (fun u hu=>by obtain⟨y,_,rfl⟩:=List.mem_map.1 hu;rfl) (by unfold maxLen;omega) (by omega) D fun v' w' i h2 _=>h v' w' ?_ h2
  unfold ab;rw[List.length_append,List.map_append];exact i
 rcases J with ⟨b,c,e,rfl⟩|⟨g,f,c,e,_,m⟩
 .cases b with
  | none =>
   obtain⟨b,n,I,rfl,E⟩:∃ b n c,v=.slice b n c/\n<=c:=by
    rcases k.form with ⟨rfl,rfl⟩|⟨g,M,rfl,i,_⟩
    .exact⟨_,_,_,rfl,bR⟩
    .exact⟨_,_,_,rfl,i⟩
   refine Go.Lib.wp_append_run w s x 39 39 t _ _ z (A.trans e) _ _ (G6 w _ _ _ C underlying39 r b n I c E) ?_;refine h _ _ ?_ ⟨rfl,rfl,rfl,bR,fun _ _ _=>rfl⟩;rw[List.append_nil];exact k
  | some d=>exact q d c e (fun j u hj=>by simp at hj)
 .refine q ⟨g,f,none⟩ c e fun j u hj=>?_
  rw[List.getElem?_map,Option.map_eq_some_iff]at hj;obtain⟨y,L,rfl⟩:=hj;rw[Addr.add_mid];exact m j y L
theorem sq {w:World} {d:Array Oper} {rest:List Oper} {o:Oper} {a:Act} {Q:Exit->Act->World->Prop}(g:o.guard=none) (s x:Operand)
  (k:o.op=.call { callee:=.builtin .append,args:=#[s,x],argTypes:=#[39,39] }) (B:Nat) (v c:Value) (l b:List Int) (m:a.eval s=v) (n:a.eval x=c) (i:ab w B v l) (j:il w c b)
  (e:l.length+b.length<=1048576) (f:B<=w.heap.size) (h:∀ v' w',ab w' B v' (l++b)->w.grownBy w' v.ownBlock->wpList prog d Q rest (a.put o.dst v') w'):wpList prog d Q (o::rest) a w :=
 wpList_plain g fun _ hK=>A3 s x k B v c l b m n i j e f fun v' w' h1 h2=>hK _ _ (h v' w' h1 h2)
theorem ng {w:World} {f:Array Oper} {o:Oper} {a:Act} {K:Act->World->Prop} {Q:Exit->Act->World->Prop} {E:Prop}(e:o.guard=none) (s x:Operand)
  (j:o.op=.call { callee:=.builtin .append,args:=#[s,x],argTypes:=#[39,39] }) (B:Nat) (v b:Value) (l l':List Int) (k:a.eval s=v) (m:a.eval x=b) (g:ab w B v l) (i:il w b l')
  (c:l.length+l'.length<=1048576) (d:B<=w.heap.size) (h:∀ v' w',ab w' B v' (l++l')->w.grownBy w' v.ownBlock->K (a.put o.dst v') w') :
  if Region.wanted o (yielded f a.tmps)=true then Oper.wp prog o a w K Q else E:=by
 rw[if_pos (by simp[Region.wanted,e])];exact A3 s x j B v b l l' k m g i c d h
theorem ab.take {w:World} {B g cap:Nat} {l:List Int}(h:ab w B (.slice (some ⟨g,0,none⟩) l.length cap) l) (k:Nat) (u:k<=l.length):ab w B (.slice (some ⟨g,0,none⟩) k cap) (l.take k):=by
 have i:(l.take k).length=k:=by rw[List.length_take];omega
 rcases h.2 with ⟨a,_⟩|⟨t,r,j,a,b,c,d,e,f,q⟩
 .cases a
 .injection a with m s n
  injection m with o;injection o with p;subst p;subst n;refine⟨by simp,.inr ⟨g,cap,j,by rw[i],b,c,by omega,e,f,?_⟩⟩;rw[i,List.map_take,<- q,List.take_take];simp
  omega
def ah2:Go.Shelf.Ren:=⟨fun|15=>200|n=>n,fun|3=>3|4=>4|22=>39|n=>n,fun|n=>n⟩
theorem b36:Go.Proofs.Lays2.n15 prog ah2:={
 mixed:=by kernel_rfl
 f15:=Tryz.func200.trans (congrArg some (by kernel_rfl))
 t3:=underlying3
 a3:=Tryz.isAgg3
 z3:=Tryz.sizeOf3
 v3:=Tryz.zeroValue3
 t4:=underlying4
 a4:=Tryz.isAgg4
 z4:=Tryz.sizeOf4
 v4:=Tryz.zeroValue4
 t22:=underlying39
 a22:=Tryz.isAgg39
 z22:=Tryz.sizeOf39
 v22:=Tryz.zeroValue39
 i3:=dv }
def ah3:Go.Shelf.Ren:=⟨fun|23=>202|n=>n,fun|0=>0|3=>3|4=>4|22=>39|n=>n,fun|n=>n⟩
theorem b37:Go.Proofs.Lays2.n23 prog ah3:={
 mixed:=by kernel_rfl
 f23:=Tryz.func202.trans (congrArg some (by kernel_rfl))
 t0:=underlying0
 a0:=Tryz.isAgg0
 z0:=Tryz.sizeOf0
 v0:=Tryz.zeroValue0
 t3:=underlying3
 a3:=Tryz.isAgg3
 z3:=Tryz.sizeOf3
 v3:=Tryz.zeroValue3
 t4:=underlying4
 a4:=Tryz.isAgg4
 z4:=Tryz.sizeOf4
 v4:=Tryz.zeroValue4
 t22:=underlying39
 a22:=Tryz.isAgg39
 z22:=Tryz.sizeOf39
 v22:=Tryz.zeroValue39
 i3:=dv }
theorem a84 (w:World) (g f c:Nat) (l:List Int) (h:l.length<=1048576) (d:∀ j x,l[j]? = some x->w.cell? ⟨g,f+j,none⟩=some (.int .i64 x)) :
  Calls prog 200 #[.slice (some ⟨g,f,none⟩) l.length c] w fun e w'=>∃ v,e=.returned v/\ab w' w.heap.size v l/\Below w.heap.size w w':=by
 refine (Go.Proofs.Any.slices_Clone_int b36 g f l.length c l w bR (by omega) (fun j hj=>by
  rw[d j l[j] (List.getElem?_eq_getElem hj),List.getD_eq_getElem?_getD,List.getElem?_eq_getElem hj];rfl)).mono ?_
 rintro e w' ⟨v,rfl,a,_,b⟩;rw[List.take_length]at a;exact⟨v,rfl,a,b⟩
theorem Yi (w:World) (g f c k:Nat) (l:List Int) (m:k<l.length) (a:l.length<=c) (n:c<=maxLen) (d:∀ j x,l[j]? = some x->w.cell? ⟨g,f+j,none⟩=some (.int .i64 x)) (i:∀ j,w.frozen? ⟨g,j,none⟩=false) :
  Calls prog 202 #[.slice (some ⟨g,f,none⟩) l.length c,.int .i64 k,.int .i64 ((k:Int)+1)] w fun e w'=>e=.returned (.slice (some ⟨g,f,none⟩) (l.eraseIdx k).length c)/\∃ q,w'=(w.drewN q).setCells g f ((l.eraseIdx k++[0]).map (Value.int .i64)):=by
 have h:=Go.Proofs.Any.slices_Delete_int_cells b37 g f l.length c k (k+1) l w bR a (by unfold maxLen at n;omega) (by omega) (by omega) (fun j hj=>by
  rw[d j l[j] (List.getElem?_eq_getElem hj),List.getD_eq_getElem?_getD,List.getElem?_eq_getElem hj];rfl) (fun j _=>i _)
 have b:(((k+1:Nat):Int))=(k:Int)+1:=by omega
 rw[b]at h;refine h.mono ?_;rintro e w' ⟨rfl,q,rfl⟩;refine⟨?_,q,?_⟩
 .rw[List.length_eraseIdx_of_lt m]
  have:l.length-(k+1-k)=l.length-1:=by omega
  rw[this]
 .rw[List.take_length,List.eraseIdx_eq_take_drop_succ]
  have:k+1-k=1:=by omega
  rw[this];rfl
theorem aa7 (w:World) (n:Nat) (h0:0<n) (h:n<=1048576) :
  Calls prog 226 #[.slice none 0 0,.int .i64 n] w fun e w'=>∃ v,e=.returned v/\ab w' w.heap.size v []/\Below w.heap.size w w':=by
 obtain⟨f,d,c,a,b⟩:=info_parts dv;have g:(0:Int)<(n:Int):=by omega
 go_enter func226,ntmps226;go_wp2_with (at_builtin;refine Go.Lib.wpList_append_run _ rfl _ _ 39 3 rfl _ _ rfl rfl _ _ (Go.Lib.run_append_nil_zeros _ 39 3 _ 3 f (.int .i64 0) .i64 .i64 underlying39 underlying3 d c n h0 (by rw[a];decide) (by omega) (by rw[b];omega)) ?_)
 go_ret;refine⟨_,rfl,⟨rfl,.inr ⟨w.heap.size,_,_,rfl,bR,heap_alloc_new _ _,Nat.zero_le _,grownCap_le_maxLen w n 0 _ (by unfold maxLen;omega),?_,rfl⟩⟩,(bY _).drew⟩;have:=grownCap_ge w n 0 3;rw[Array.size_append,size_zeroCells,size_zeroCells];simp
 omega
theorem Jl {w:World} {g f:Nat} {l:List Int}(b:∀ j x,l[j]? = some x->w.cell? ⟨g,f+j,none⟩=some (.int .i64 x)):∀ j u,(l.map (Value.int .i64))[j]? = some u->w.cell? ((⟨g,f,none⟩:Addr).add j)=some u:=by
 intro j u a;rw[List.getElem?_map,Option.map_eq_some_iff]at a;obtain⟨x,c,rfl⟩:=a;rw[Addr.add_mid];exact b j x c
theorem ab.app {w:World} {B:Nat} {v:Value} {l l':List Int} {n:Nat}(a:l.length=n) (h:w.ownsRow B 3 1 v (n+l'.length) (l.map (Value.int .i64)++l'.map (Value.int .i64))):ab w B v (l++l'):=by
 unfold ab;rw[List.length_append,List.map_append,a];exact h
theorem U5 (w:World) (d q y c1 r z c2:Nat) (l1 b:List Int) (t:w.heap[d]? = some (.cells #[.slice (some ⟨q,y,none⟩) l1.length c1,.slice (some ⟨r,z,none⟩) b.length c2] 39))
  (Q:q<w.heap.size) (R:r<w.heap.size) (h1:1<=l1.length) (T:l1.length<=4000) (U:b.length<=4000)
  (D:∀ j x,l1[j]? = some x->w.cell? ⟨q,y+j,none⟩=some (.int .i64 x)) (E:∀ j x,b[j]? = some x->w.cell? ⟨r,z+j,none⟩=some (.int .i64 x)) :
  Calls prog 215 #[.slice (some ⟨d,0,none⟩) 2 2] w fun e w'=>∃ v,e=.returned v/\ab w' w.heap.size v (l1++b)/\Below w.heap.size w w':=by
 obtain⟨K,J,I,F,H⟩:=info_parts dv;have M:=cell_of_row _ _ 0 _ _ _ t;have q1:=cell_of_row _ _ 1 _ _ _ t;have o:d<w.heap.size:=(Array.getElem?_eq_some_iff.1 t).1;have O:Hid _:=D;have P:Hid _:=E;have G:=fun u=>aa7 u (l1.length+b.length) (by omega) (by omega)
 rw[show ((l1.length+b.length:Nat):Int)=(l1.length:Int)+(b.length:Int) by omega]at G;clear D E t;go_enter func215,ntmps215;go_wp2;go_loop [3,11] (fun s i=>(s=.int .i64 0/\i=.int .i64 0)\/(s=.int .i64 (l1.length:Int)/\i=.int .i64 1)\/(s=.int .i64 ((l1.length:Int)+(b.length:Int))/\i=.int .i64 2)) (fun _ i=>2-(intOf i).toNat)
 case atStart=>exact .inl ⟨rfl,rfl⟩
 case round =>
  rcases hrel with ⟨rfl,rfl⟩|⟨rfl,rfl⟩|⟨rfl,rfl⟩
  .go_wp2
   exact⟨.inr (.inl ⟨by go_num,rfl⟩),by simp[intOf]⟩
  .go_wp2
   exact⟨.inr (.inr ⟨by go_num,rfl⟩),by simp[intOf]⟩
  .go_wp2_with fail
   refine (G _).mono ?_;rintro e N ⟨V,rfl,L,p⟩;clear G;have A:N.cell? ⟨d,0,none⟩=_:=(p.cell o).trans M;have B:N.cell? ⟨d,1,none⟩=_:=(p.cell o).trans q1;go_wp2_with fail;go_loopw [6,27] (fun v i wr=>(i=.int .i64 0/\ab wr w.heap.size v []/\Below w.heap.size w wr)\/(i=.int .i64 1/\ab wr w.heap.size v l1/\Below w.heap.size w wr)\/(i=.int .i64 2/\ab wr w.heap.size v (l1++b)/\Below w.heap.size w wr)) (fun _ i _=>2-(intOf i).toNat)
   case atStart=>exact .inl ⟨rfl,L,p⟩
   case round =>
    clear L p A B;rcases hrel with ⟨rfl,c,a⟩|⟨rfl,c,a⟩|⟨rfl,c,a⟩
    .have A:wr.cell? ⟨d,0,none⟩=_:=(a.cell o).trans M
     have h:=Jl (w:=wr) (fun j x hx=>(a.cell Q).trans (O.out j x hx));have S:=a.size;go_wp2_with (at_builtin;refine wpList_append_own _ rfl _ _ 39 rfl w.heap.size 3 K (.int .i64 0) 1 8 underlying39 J I F H rfl (by decide) _ _ _ rfl c ⟨q,y,none⟩ l1.length c1 (l1.map (Value.int .i64)) rfl (by simp) h (fun u hu=>by obtain⟨x,_,rfl⟩:=List.mem_map.1 hu;rfl) (by unfold maxLen;simp;omega) (by simp;omega) (by omega) ?_)
     intro C w3 g f _;have n:ab w3 w.heap.size C l1:=g;have m:Below w.heap.size w w3:=Below.grown a f a.size (fun j hj=>(World.ownsRow.lt c j hj).1);have l:Hid (ab _ _ _ _):=n;have k:Hid _:=m;clear g f n m c a h A;go_wp2;exact⟨.inr (.inl ⟨rfl,l.out,k.out⟩),by simp[intOf]⟩
    .have B:wr.cell? ⟨d,1,none⟩=_:=(a.cell o).trans q1
     have h:=Jl (w:=wr) (fun j x hx=>(a.cell R).trans (P.out j x hx));have S:=a.size;go_wp2_with (at_builtin;refine wpList_append_own _ rfl _ _ 39 rfl w.heap.size 3 K (.int .i64 0) 1 8 underlying39 J I F H rfl (by decide) _ _ _ rfl c ⟨r,z,none⟩ b.length c2 (b.map (Value.int .i64)) rfl (by simp) h (fun u hu=>by obtain⟨x,_,rfl⟩:=List.mem_map.1 hu;rfl) (by unfold maxLen;omega) (by omega) (by omega) ?_)
     intro C w3 g f _;have n:ab w3 w.heap.size C (l1++b):=ab.app rfl g;have m:Below w.heap.size w w3:=Below.grown a f a.size (fun j hj=>(World.ownsRow.lt c j hj).1);have l:Hid (ab _ _ _ _):=n;have k:Hid _:=m;clear g f n m c a h B;go_wp2;exact⟨.inr (.inr ⟨rfl,l.out,k.out⟩),by simp[intOf]⟩
    .have l:Hid (ab _ _ _ _):=c
     have k:Hid _:=a;clear c a;go_wp2;go_ret;exact⟨_,rfl,l.out,k.out⟩
def ry (rest:List Int) (k:Nat):Prop:=∀ j x,j<k->rest[j]? = some x->cls x≠0
theorem ry.succ {rest:List Int} {k:Nat} {m:Int}(h:ry rest k) (c:rest[k]? = some m) (b:cls m≠0):ry rest (k+1):=by
 intro j x d a;by_cases e:j=k
 .subst e;rw[c]at a;cases a;exact b
 .exact h j x (by omega) a
theorem a77 {rest:List Int} {k:Nat} {m:Int}(h:ry rest k):blk (rest.take k) m=qd rest k (cls m):=by
 unfold blk qd;rw[Bool.eq_iff_iff,List.any_eq_true,List.any_eq_true];constructor
 .rintro⟨b,a,d⟩
  refine⟨b,a,?_⟩;obtain⟨j,c⟩:=List.mem_iff_getElem?.1 a;have e:j<k:=by
   have:=(List.getElem?_eq_some_iff.1 c).1;rw[List.length_take]at this;omega
  rw[List.getElem?_take_of_lt e]at c;have:=h j b e c;simpa [this] using d
 .rintro⟨b,a,d⟩
  exact⟨b,a,by simp only[Bool.or_eq_true];exact .inr d⟩
def Bx (n:Int):Value:=.tuple #[.int .i64 (if n<0 then 0 else n),.bool (decide (0<=n))]
theorem Fz {n:Int}(h:n=-1):Ending.returned (.tuple #[.int .i64 0,.bool false])=.returned (Bx n):=by subst h;rfl
theorem af7 {n:Int} {k:Nat}(h:n=(k:Int)):Ending.returned (.tuple #[.int .i64 (k:Int),.bool true])=.returned (Bx n):=by
 subst h;unfold Bx;rw[if_neg (by omega),decide_eq_true (by omega)]
def ay9 (w:World) (es:List Ent) (run rest:List Int) (ans:Int) (i:Value) (wr:World):Prop :=
 ∃ k:Nat,k<=rest.length/\i=.int .i64 k/\ry rest k/\iu es run rest (rest.drop k) k=ans/\Below w.heap.size w wr
theorem O3 (w:World) (B t L c1 g p c2:Nat) (T:Value) (es:List Ent) (run rest:List Int) (R:ac w B T es) (hn:es.length<=1048576) (hr:∀ e ∈ es,e.runes.length<=1048576) (ht:dr w)
  (a6:t<w.heap.size) (F:g<w.heap.size) (h1:1<=run.length) (ah:run.length<=3000) (ai:rest.length<=3000) (a5:rest.length<=c2)
  (Z:∀ j x,run[j]? = some x->w.cell? ⟨t,L+j,none⟩=some (.int .i64 x)) (a3:∀ j x,rest[j]? = some x->w.cell? ⟨g,p+j,none⟩=some (.int .i64 x)) :
  Calls prog 201 #[T,.slice (some ⟨t,L,none⟩) run.length c1,.slice (some ⟨g,p,none⟩) rest.length c2] w fun e w'=>e=.returned (Bx (kn es run rest))/\Below w.heap.size w w':=by
 obtain⟨b,N⟩:∃ b,Hid (kn es run rest=b):=⟨_,rfl⟩
 rw[N.out];obtain⟨va,vn,vc,rfl⟩:∃ a n c,T=.slice a n c:=by
  rcases R.form with ⟨rfl,_⟩|⟨_,_,rfl,_,_,_,_⟩
  .exact⟨_,_,_,rfl⟩
  .exact⟨_,_,_,rfl⟩
 have a4:Hid _:=Z;have O:Hid _:=a3;have HE:Hid (ac _ _ _ _):=R;have HT:Hid (dr _):=ht;clear Z a3 R ht;go_enter func201,ntmps201;go_wp2;go_loopw [14] (fun i wr=>ay9 w es run rest b i wr) (fun i _=>rest.length-(intOf i).toNat)
 case atStart=>exact⟨0,Nat.zero_le _,rfl,fun j x hj=>by omega,by rw[List.drop_zero];exact N.out,bX⟩
 case round =>
  clear N;obtain⟨k,hk,rfl,hM,hA,h⟩:=hrel;have H:Hid _:=hA;have Q:Hid (ry _ _):=hM;clear hA hM;by_cases P:k<rest.length
  .obtain⟨m,M⟩:∃ m,rest[k]? = some m:=⟨_,List.getElem?_eq_getElem P⟩
   have c0:wr.cell? ⟨g,p+k,none⟩=some (.int .i64 m):=(h.cell F).trans (O.out k m M);have af:(k:Int)<(rest.length:Int):=by omega
   have ag:k<c2:=by omega
   have A:Hid ((if cls m=0 then -1 else if qd rest k (cls m)=false/\0<=atE es (run++[m]) then (k:Int) else iu es run rest (rest.drop (k+1)) (k+1))=b):=by
    show _=_
    rw[<- H.out,Nm M];rfl
   have Y:=hZ M;clear H M;have s:=nj m wr ((HT.out.below h).1);by_cases v:cls m=0
   .have d:Hid (-1=b):=by show _=_;rw[<- A.out,if_pos v]
    rw[v]at s;clear A;go_wp2_with fail;refine s.mono ?_;rintro e U ⟨rfl,J⟩;clear s c0;go_wp2;go_ret2;exact⟨Fz d.out.symm,h.trans (J.mono h.size)⟩
   .have l:Hid ((if qd rest k (cls m)=false/\0<=atE es (run++[m]) then (k:Int) else iu es run rest (rest.drop (k+1)) (k+1))=b):=by show _=_;rw[<- A.out,if_neg v]
    have ae:(cls m == 0)=false:=by simpa using v
    have X:Hid (ry rest (k+1)):=Q.out.succ Y.out v;have W:Hid (blk (rest.take k) m=qd rest k (cls m)):=a77 Q.out;clear A Q;go_wp2_with fail;refine s.mono ?_;rintro e U ⟨rfl,J⟩;clear s c0;have f:=h.trans (J.mono h.size);have a0:g<U.heap.size:=Nat.lt_of_lt_of_le F f.size;have r:=Q7 U g p c2 (rest.take k) m (by rw[List.length_take];omega) a0 (fun j x hx=>by
     have a8:j<k:=by
      have:=(List.getElem?_eq_some_iff.1 hx).1;rw[List.length_take]at this;omega
     rw[List.getElem?_take_of_lt a8]at hx;exact (f.cell F).trans (O.out j x hx)) ((HT.out.below f).1)
    rw[W.out,show (rest.take k).length=k by rw[List.length_take];omega]at r;have aa:k<=c2:=by omega
    clear W J h;generalize hbb:qd rest k (cls m)=bb at *
    cases bb
    .go_wp2_with fail
     refine r.mono ?_;rintro e z ⟨rfl,K⟩;have C:=f.trans (K.mono f.size);clear r K f a0;have ab:=C.size;have q:∀ o:Obj,Below w.heap.size w (z.alloc o):=fun o=>C.alloc C.size o
     have CC:=fun (tb:Nat) (u:World) (ad:tb=z.heap.size) (y:u=z.alloc (.cells #[.slice (some ⟨t,L,none⟩) run.length c1,.slice (some ⟨g,p+k,none⟩) ([m]:List Int).length (c2-k)] 39))=>U5 u tb t L c1 g (p+k) (c2-k) run [m] (by subst ad;rw[y];exact heap_alloc_new _ _) (by rw[y];simp;omega) (by rw[y];simp;omega) h1 (by omega) (by simp) (fun j x hx=>by rw[y];exact ((q _).cell a6).trans (a4.out j x hx)) (fun j x hx=>by
      have a7:j=0:=by
       have:=(List.getElem?_eq_some_iff.1 hx).1;simp at this;omega
      subst a7;simp at hx;subst hx;rw[y,Nat.add_zero];exact ((q _).cell F).trans (O.out k m Y.out))
     have V:=CC z.heap.size _ rfl rfl;clear CC;go_wp2_with fail;refine V.mono ?_;rintro e w5 ⟨v5,rfl,i5,b5⟩;have D:Below w.heap.size w w5:=(q _).trans (b5.mono (q _).size);clear V b5 C q;have G:=yz (HE.out.below D) i5.rowAt hn hr;obtain⟨o,S⟩:∃ o,dj es (run++[m])=o:=⟨_,rfl⟩
     have I:Hid (o.isSome=decide (0<=atE es (run++[m]))):=by show _=_;rw[<- S];exact Aj
     rw[S]at G;clear S i5;unfold fo elV at G;generalize ph o=eo at *;generalize o.isSome=ob at *;go_wp2_with fail;refine G.mono ?_;rintro e w6 ⟨rfl,b6⟩;have E:=D.trans (b6.mono D.size);clear G b6 D
     cases ob
     .have a1:¬ 0<=atE es (run++[m]):=of_decide_eq_false I.out.symm
      have d:Hid (iu es run rest (rest.drop (k+1)) (k+1)=b):=by show _=_;rw[<- l.out,if_neg (fun c=>a1 c.2)]
      clear l I a1;go_wp2;exact⟨⟨k+1,P,by go_num,X.out,d.out,E.alloc E.size _⟩,by simp[intOf];omega⟩
     .have a2:0<=atE es (run++[m]):=of_decide_eq_true I.out.symm
      have d:Hid ((k:Int)=b):=by show _=_;rw[<- l.out,if_pos (by simp[a2])]
      clear l I a2;go_wp2;go_ret2;exact⟨af7 d.out.symm,E.alloc E.size _⟩
    .have d:Hid (iu es run rest (rest.drop (k+1)) (k+1)=b):=by show _=_;rw[<- l.out,if_neg (fun c=>by cases c.1)]
     clear l;go_wp2_with fail;refine r.mono ?_;rintro e z ⟨rfl,K⟩;clear r;go_wp2;exact⟨⟨k+1,P,by go_num,X.out,d.out,f.trans (K.mono f.size)⟩,by simp[intOf];omega⟩
  .have a9:k=rest.length:=by omega
   subst a9;have d:Hid (-1=b):=by show _=_;rw[<- H.out,List.drop_length];rfl
   clear H;go_wp2;go_ret2;exact⟨Fz d.out.symm,h⟩
theorem O2 (w:World) (d vr:Value) (a:Option Addr) (c:Nat) (es:List Ent) (run:List Int):Calls prog 201 #[d,vr,.slice a 0 c] w fun e w'=>e=.returned (Bx (kn es run []))/\Below w.heap.size w w':=by
 have b:Hid (kn es run []=-1):=rfl;go_enter func201,ntmps201;go_wp2;go_loopw [14] (fun i wr=>i=.int .i64 0/\wr=w) (fun _ _=>0)
 case atStart=>exact⟨rfl,rfl⟩
 case round =>
  obtain⟨rfl,rfl⟩:=hrel;go_wp2;go_ret2;exact⟨Fz b.out,bX⟩
def b22 (w:World) (B:Nat) (v:Value) (l:List Int):Prop :=
 (∃ a c,v=.slice a 0 c/\l=[])\/∃ g f c cs,v=.slice (some ⟨g,f,none⟩) l.length c/\l.length<=c/\c<=maxLen/\B<=g/\w.heap[g]? = some (.cells cs 3)/\∀ j x,l[j]? = some x->w.cell? ⟨g,f+j,none⟩=some (.int .i64 x)
theorem ab.midI {w:World} {B:Nat} {v:Value} {l:List Int}(h:ab w B v l):b22 w B v l:=by
 rcases h.2 with ⟨a,b⟩|⟨g,f,i,a,b,c,d,e,_⟩
 .exact .inl ⟨_,_,a,by simpa using b⟩
 .subst a
  refine .inr ⟨g,0,f,i,rfl,d,e,b,c,fun j x hx=>?_⟩;have k:=(List.getElem?_eq_some_iff.1 hx).1;rw[Nat.zero_add,h.cell j k,hx];rfl
def az3 (es:List Ent) (l:List Int) (w:World) (i:Value) (wr:World):Prop :=
 ∃ n:Nat,1<=n/\n<=4/\n<=l.length/\i=.int .i64 n/\(∀ j,n<j->j<=4->o4 es l j=false)/\Below w.heap.size w wr
theorem we {w:World} {g f c:Nat} {l:List Int}(n:Nat) (e:n<=l.length) (d:g<w.heap.size) (b:∀ j x,l[j]? = some x->w.cell? ⟨g,f+j,none⟩=some (.int .i64 x)):il w (.slice (some ⟨g,f,none⟩) n c) (l.take n):=by
 refine .inr ⟨g,f,c,?_,d,fun j x hx=>?_⟩
 .rw[List.length_take,Nat.min_eq_left e]
 .have a:j<n:=by
   have:=(List.getElem?_eq_some_iff.1 hx).1;rw[List.length_take]at this;omega
  rw[List.getElem?_take_of_lt a]at hx;exact b j x hx
theorem a29 (w:World) (B g f c:Nat) (u:Value) (es:List Ent) (l:List Int) (s:ac w B u es) (M:es.length<=1048576) (N:∀ e ∈ es,e.runes.length<=1048576)
  (F:g<w.heap.size) (h1:1<=l.length) (T:l.length<=3000) (O:l.length<=c) (E:∀ j x,l[j]? = some x->w.cell? ⟨g,f+j,none⟩=some (.int .i64 x)) :
  Calls prog 199 #[u,.slice (some ⟨g,f,none⟩) l.length c] w fun e w'=>e=.returned (.int .i64 (mw es l))/\Below w.heap.size w w':=by
 obtain⟨U,W,V,rfl⟩:∃ a n c,u=.slice a n c:=by
  rcases s.form with ⟨rfl,_⟩|⟨_,_,rfl,_,_,_,_⟩
  .exact⟨_,_,_,rfl⟩
  .exact⟨_,_,_,rfl⟩
 have K:Hid _:=E;have L:Hid (ac _ _ _ _):=s;clear E s;obtain⟨b,z,A,C,r⟩:∃ b:Nat,min (4:Int) (l.length:Int)=(b:Int)/\1<=b/\b<=4/\Hid (b<=l.length/\(b=4\/b=l.length)):=⟨min 4 l.length,by omega,by omega,by omega,by show _/\_;omega⟩
 go_enter func199,ntmps199;go_wp2;go_loopw [5] (fun i wr=>az3 es l w i wr) (fun i _=>(intOf i).toNat)
 case atStart =>
  refine⟨b,A,C,r.out.1,?_,fun j h1 h2=>Nc ?_,bX⟩
  .rw[<- z]
  .have:=r.out
   omega
 case round =>
  clear z r A C;obtain⟨n,R,J,y,rfl,v,d⟩:=hrel;have h:=hZ v;clear v;by_cases Q:1<n
  .have P:(1:Int)<(n:Int):=by omega
   have S:n<=c:=by omega
   have H:g<wr.heap.size:=Nat.lt_of_lt_of_le F d.size;have m:=yz (L.out.below d) (we (c:=c) n y H (fun j x hx=>(d.cell F).trans (K.out j x hx))) M N;obtain⟨o,t⟩:∃ o,dj es (l.take n)=o:=⟨_,rfl⟩
   have p:Hid (o.isSome=o4 es l n):=by show _=_;rw[Ka y,<- t];exact Aj
   rw[t]at m;clear t;unfold fo elV at m;generalize ph o=eo at *;generalize o.isSome=ob at *;go_wp2_with fail;refine m.mono ?_;rintro e X ⟨rfl,D⟩;have k:=d.trans (D.mono d.size);clear m D d
   cases ob
   .have G:Hid (∀ j,n-1<j->j<=4->o4 es l j=false):=fun j h3 h4=>by
     by_cases e:j=n
     .subst e;exact p.out.symm
     .exact h.out j (by omega) h4
    clear h p;go_wp2;exact⟨⟨n-1,by omega,by omega,by omega,by go_num,G.out,k.alloc k.size _⟩,by simp[intOf];omega⟩
   .have q:Hid (mw es l=n):=ag4 (by omega) J p.out.symm h.out
    clear h p;go_wp2;go_ret;rw[q.out];exact⟨rfl,k.alloc k.size _⟩
  .have I:n=1:=by omega
   subst I;have q:Hid (mw es l=1):=ag5 h.out;clear h;go_wp2;go_ret;rw[q.out];exact⟨rfl,d⟩
theorem ap1 {x:ByteArray}(h:x.size<=200):okR (Dec.decT x.size x).1=true:=decide_eq_true ⟨Nat.le_trans (Dec.decT_len x.size x bR).1 h,Fj x.size x⟩
def aR (x:ByteArray):List Int:=if ok4 x=true then rn4 x else []
theorem Xs (x:ByteArray):(aR x).length<=200:=by
 unfold aR;split
 .rename_i h
  exact (of_decide_eq_true h).2
 .simp
theorem Gl (x:ByteArray) (p:x.size<=1048576) (u:World) (ht:dr u) :
  Calls prog 152 #[.string x] u fun e u'=>∃ v,e=.returned (.tuple #[v,.bool (ok4 x)])/\ab u' u.heap.size v (aR x)/\Below u.heap.size u u':=by
 by_cases h:x.size<=200
 .have D:=fun w=>Iv x w h
  have i:=ap1 h;have s:=(Dec.decT_len x.size x bR).1;have N:=fun (u':World) (v:Value) (f:Below u.heap.size u u') (o:ab u' u.heap.size v (Dec.decT x.size x).1)=>Zk (by omega) o (ht.below f).1 (ht.below f).2.1 (ht.below f).2.2
  have b:okD (Dec.decT x.size x).1=ok4 x:=by
   rw[a05 i];unfold ok4 rn4;rw[decide_eq_decide];omega
  have g:Tr (Dec.decT x.size x).1=aR x:=by
   unfold Tr aR;rw[b];rfl
  rw[b,g]at N;generalize (Dec.decT x.size x).1=ds at *;generalize ok4 x=ok at *;generalize aR x=l at *;clear i ht b g;go_enter func152,ntmps152;go_wp2_with fail;refine (D _).mono ?_;rintro e r ⟨t,rfl,m,a⟩;clear D;have j:=N _ _ a m;clear N m;go_wp2_with fail;refine j.mono ?_;rintro e z ⟨y,rfl,q,n⟩;clear j;go_wp2;go_ret2;exact⟨_,rfl,fe q a.size,a.trans (n.mono a.size)⟩
 .have D:=fun w=>L6 x w (by omega) p
  have d:ok4 x=false:=decide_eq_false fun c=>h c.1
  have k:aR x=[]:=by unfold aR;rw[d];rfl
  rw[d,k];clear d k ht;go_enter func152,ntmps152;go_wp2_with fail;refine (D _).mono ?_;rintro e r ⟨rfl,rfl⟩;clear D;go_wp2;go_ret2;exact⟨_,rfl,⟨rfl,.inl ⟨rfl,rfl⟩⟩,bX⟩
def Gin (w0:World) (b1 b4:Nat) (v x:Value) (u:World):Prop:=u.cell? ⟨b1,0,none⟩=some v/\u.cell? ⟨b4,0,none⟩=some x/\Below w0.heap.size w0 u
theorem Gin.keep {d w1 w2:World} {e f:Nat} {v x:Value}(h1:e<d.heap.size) (i:f<d.heap.size) (g:Below w1.heap.size w1 w2) (h:Gin d e f v x w1):Gin d e f v x w2:=by
 obtain⟨a,b,c⟩:=h;exact⟨by rw[g.cell (Nat.lt_of_lt_of_le h1 c.size)];exact a,by rw[g.cell (Nat.lt_of_lt_of_le i c.size)];exact b,c.trans (g.mono c.size)⟩
theorem Gin.set4 {f u:World} {g i:Nat} {v x:Value}(h1:g<f.heap.size) (l:i<f.heap.size) (a b c d:Value) (h:Gin f g i v x u):Gin f g i v x ((((u.setCell ⟨f.heap.size,0,none⟩ a).setCell ⟨f.heap.size,1,none⟩ b).setCell ⟨f.heap.size,2,none⟩ c).setCell ⟨f.heap.size,3,none⟩ d):=by
 obtain⟨p,q,r⟩:=h;have j:∀ (m:World) (o:Nat) (y:Value),(m.setCell ⟨f.heap.size,o,none⟩ y).cell? ⟨g,0,none⟩=m.cell? ⟨g,0,none⟩:=fun m o y=>World.cell?_setCell_other _ _ _ _ (fun e=>by injection e;omega)
 have k:∀ (m:World) (o:Nat) (y:Value),(m.setCell ⟨f.heap.size,o,none⟩ y).cell? ⟨i,0,none⟩=m.cell? ⟨i,0,none⟩:=fun m o y=>World.cell?_setCell_other _ _ _ _ (fun e=>by injection e;omega)
 exact⟨by rw[j,j,j,j];exact p,by rw[k,k,k,k];exact q,(((r.setCell bR _).setCell bR _).setCell bR _).setCell bR _⟩
theorem Uf {u:World} {B a n:Nat} {v vl:Value} {es:List Ent} {l:List Int}(b:ac u B v es) (c:ab u a vl l) (f:es.length<=1048576) (d:l.length<=1048576) (g:∀ e ∈ es,e.runes.length<=1048576) :
  Calls prog 168 #[v,vl] u fun e w'=>e=.returned (fo (dj es l))/\Below u.heap.size u w'/\(∀ j,n<u.heap.size->w'.cell? ⟨n,j,none⟩=u.cell? ⟨n,j,none⟩)/\∀ j,n<u.heap.size->w'.frozen? ⟨n,j,none⟩=u.frozen? ⟨n,j,none⟩ :=
 (Ca b c f d g).mono fun _ _ h=>⟨h.1,h.2,fun _ hj=>h.2.cell hj,fun j hj=>h.2.frozen (p:=⟨n,j,none⟩) hj⟩
theorem t6 (es:List Ent) (i:Nat) (e:Ent):mo es i e=(bd e.runes && (decide (atE es e.runes=(i:Int)) && Ms e.el)):=rfl
theorem Qu (w:World) (a:Option Addr) (n c:Nat) (sh:Bool) (lv:Int) (h:40<n):Calls prog 153 #[.agg #[.slice a n c,.bool sh,.int .i64 lv]] w fun e w'=>e=.returned (.bool false)/\Below w.heap.size w w':=by
 have b:(40:Int)<(n:Int):=by omega
 go_enter func153,ntmps153;go_wp2;go_ret;exact⟨rfl,bY _⟩
theorem V3 (w:World) (a:Option Addr) (n c:Nat) (sh:Bool) (lv:Int) (h:n<=40) (b:¬ (1<=lv/\lv<=4)):Calls prog 153 #[.agg #[.slice a n c,.bool sh,.int .i64 lv]] w fun e w'=>e=.returned (.bool false)/\Below w.heap.size w w':=by
 have d:¬ (40:Int)<(n:Int):=by omega
 by_cases f:lv<1
 .clear b
  go_enter func153,ntmps153;go_wp2;go_ret;exact⟨rfl,bY _⟩
 .have g:4<lv:=by omega
  clear b;go_enter func153,ntmps153;go_wp2;go_ret;exact⟨rfl,bY _⟩
theorem V4 (w:World) (sh:Bool) (lv:Int) (a:1<=lv/\lv<=4):Calls prog 153 #[.agg #[.slice none 0 0,.bool sh,.int .i64 lv]] w fun e w'=>e=.returned (.bool true)/\Below w.heap.size w w':=by
 obtain⟨b,c⟩:=a;go_enter func153,ntmps153;go_wp2;go_loop [24] (fun i=>i=.int .i64 0) (fun _=>0)
 case atStart=>rfl
 case round =>
  subst hrel;go_wp2;go_ret;exact⟨rfl,bY _⟩
def Eb (u:World) (b:Nat) (x:Value) (e:El):Prop:=u.heap[b]? = some (.cells #[x,.int .i64 e.first,.int .i64 e.second,.int .i64 e.third,.bool e.varies] 117)
theorem Eb.facts {u:World} {b:Nat} {x:Value} {e:El}(h:Eb u b x e):b<u.heap.size/\u.cell? ⟨b,0,none⟩=some x/\u.cell? ⟨b,1,none⟩=some (.int .i64 e.first)/\u.cell? ⟨b,2,none⟩=some (.int .i64 e.second)/\u.cell? ⟨b,3,none⟩=some (.int .i64 e.third)/\u.cell? ⟨b,4,none⟩=some (.bool e.varies) :=
 ⟨(Array.getElem?_eq_some_iff.1 h).1,cell_of_row _ _ 0 _ _ _ h,cell_of_row _ _ 1 _ _ _ h,cell_of_row _ _ 2 _ _ _ h,cell_of_row _ _ 3 _ _ _ h,cell_of_row _ _ 4 _ _ _ h⟩
theorem Eb.below {u u':World} {b:Nat} {x:Value} {e:El}(h:Eb u b x e) (a:Below u.heap.size u u'):Eb u' b x e:=(a.block _ h.facts.1).trans h
theorem V5 (w:World) (B g cap:Nat) (es:List Ent) (sh:Bool) (lv:Int) (p:ac w B (.slice (some ⟨g,0,none⟩) es.length cap) es) (hn:es.length<=40) (hl:1<=lv/\lv<=4) (r:∀ e ∈ es,e.runes.length<=1048576) (ht:dr w) :
  Calls prog 153 #[.agg #[.slice (some ⟨g,0,none⟩) es.length cap,.bool sh,.int .i64 lv]] w fun e w'=>e=.returned (.bool (ay es lv))/\Below w.heap.size w w':=by
 obtain⟨ae,af⟩:=hl;have am:¬ (40:Int)<(es.length:Int):=by omega
 have HT:=hZ ht;have a5:es.length<=cap/\cap<=maxLen:=by
  rcases p.form with ⟨h,_⟩|⟨_,_,h,h2,h3,_,_⟩
  .cases h
  .cases h;exact⟨h2,h3⟩
 unfold maxLen at a5;clear ht;go_enter func153,ntmps153;go_wp2;go_loopw [24] (fun i wr=>ar5 w (.slice (some ⟨g,0,none⟩) es.length cap) sh lv es i wr) (fun i _=>es.length-(intOf i).toNat)
 case atStart=>exact⟨0,Nat.zero_le _,rfl,fun i e hi=>by omega,⟨by simp,by simp[World.cell?_alloc_new],by simp[World.cell?_alloc_new],by simp[World.cell?_alloc_new]⟩,bY _⟩
 case round =>
  obtain⟨k,hk,rfl,Y,a9,f⟩:=hrel;have s:=hZ Y;clear Y;by_cases ag:k<es.length
  .obtain⟨e,J⟩:∃ e,es[k]? = some e:=⟨_,List.getElem?_eq_getElem ag⟩
   obtain⟨x,I,a0,a1,a2,a3,a4⟩:=(p.below f).cells k e J;obtain⟨j,l,xc,rfl⟩:∃ j l xc,x=.slice j l xc:=by
    rcases I.form with ⟨rfl,_⟩|⟨_,_,rfl,_,_⟩
    .exact⟨_,_,_,rfl⟩
    .exact⟨_,_,_,rfl⟩
   have ak:(k:Int)<(es.length:Int):=by omega
   have aa:=r e (List.mem_of_getElem? J);have q:=(Below.refl wr.heap.size wr).alloc bR (.cells #[.slice j l xc,.int .i64 e.el.first,.int .i64 e.el.second,.int .i64 e.el.third,.bool e.el.varies] 117);have a8:=f.trans (q.mono f.size);have a7:=(p.below f).below q;have JN:=Au aa (I.below q) ((HT.out.below f).below q);have m:Hid _:=J;have X:Hid (ab _ _ _ _):=I.below q;have W:Hid (ac _ _ _ _):=a7;have O:Hid _:=a8;have HX:Hid (ul _ _ _ _ _):=a9.below q;have HG:Hid (Eb _ _ _ _):=show Eb (wr.alloc _) wr.heap.size (.slice j l xc) e.el from heap_alloc_new _ _
   clear J I a7 a8 q a9 f HT;go_wp2_with fail;refine JN.mono ?_;rintro e' w2 ⟨rfl,t⟩;have H:Hid _:=O.out.trans (t.mono O.out.size);have S:Hid (Eb _ _ _ _):=HG.out.below t;have x2:Hid (ul _ _ _ _ _):=HX.out.below t;have i2:Hid (ab _ _ _ _):=X.out.below t;have Z:Hid (ac _ _ _ _):=W.out.below t;clear JN a0 a1 a2 a3 a4 O HX HG X W t
   cases r1:bd e.runes
   .have z:Hid (ay es lv=false):=kc m.out (by rw[t6,r1,Bool.false_and])
    clear s m p r;go_wp2;go_ret;rw[z.out];exact⟨rfl,H.out⟩
   .obtain⟨_,d0,d1,d2,d3,d4⟩:=S.out.facts
    have GE:=fun w=>N8 e.el w
    go_wp2_with fail;refine (GE _).mono ?_;rintro e' w3 ⟨rfl,v⟩;have R:Hid _:=H.out.trans (v.mono H.out.size);have g3:Hid (Eb _ _ _ _):=S.out.below v;have V:Hid (ul _ _ _ _ _):=x2.out.below v;have i3:Hid (ab _ _ _ _):=i2.out.below v;have a6:Hid (ac _ _ _ _):=Z.out.below v;clear GE d0 d1 d2 d3 d4 H S x2 i2 Z v
    cases r2:Ms e.el
    .have z:Hid (ay es lv=false):=kc m.out (by rw[t6,r2];simp)
     clear s m p r;go_wp2;go_ret;rw[z.out];exact⟨rfl,R.out⟩
    .have al:(k:Int)<=(cap:Int):=by omega
     have E:=g3.out.facts.1;have D:=V.out.1;have T:w3.cell? ⟨w.heap.size,0,none⟩=some (.slice (some ⟨g,0,none⟩) es.length cap)/\w3.cell? ⟨wr.heap.size,0,none⟩=some (.slice j l xc)/\Below w3.heap.size w3 w3:=⟨V.out.2.1,g3.out.facts.2.1,bX⟩;have C:=Gin.keep D E ((Below.refl w3.heap.size w3).drew) T;have K:=fun (u1 u2:World) (f:Below u1.heap.size u1 u2) (y:u1.cell? ⟨w.heap.size,0,none⟩=some (.slice (some ⟨g,0,none⟩) es.length cap)/\u1.cell? ⟨wr.heap.size,0,none⟩=some (.slice j l xc)/\Below w3.heap.size w3 u1)=>Gin.keep D E f y
     have N:=Gin.keep D E (((Below.refl w3.heap.size w3).alloc bR (.cells #[.int .i64 0,.int .i64 0,.int .i64 0,.bool false] 111)).drew) T;have Q:=fun (u:World) (a b c d:Value) (y:u.cell? ⟨w.heap.size,0,none⟩=some (.slice (some ⟨g,0,none⟩) es.length cap)/\u.cell? ⟨wr.heap.size,0,none⟩=some (.slice j l xc)/\Below w3.heap.size w3 u)=>Gin.set4 D E a b c d y
     unfold Gin at C N K Q;have F:=fun (u:World) (y:u.cell? ⟨w.heap.size,0,none⟩=some (.slice (some ⟨g,0,none⟩) es.length cap)/\u.cell? ⟨wr.heap.size,0,none⟩=some (.slice j l xc)/\Below w3.heap.size w3 u)=>Uf (n:=w3.heap.size) ((a6.out.below y.2.2).take k hk) (i3.out.below y.2.2) (by rw[List.length_take];omega) aa (fun x hx=>r x (List.mem_of_mem_take hx))
     have P:Hid (dj (es.take k) e.runes=none↔atE es e.runes=(k:Int)):=a69 m.out;obtain⟨o,U⟩:∃ o,dj (es.take k) e.runes=o:=⟨_,rfl⟩
     rw[U]at F;unfold fo elV at F;have G:=hZ U;clear U;have L:Hid (o.isSome=false->pm es (k+1)):=fun c=>s.out.succ m.out (by rw[t6,r1,r2,decide_eq_true (P.out.1 (by rw[G.out];simpa using c))];rfl)
     have M:Hid (o.isSome=true->ay es lv=false):=fun c=>kc m.out (by
      have:¬ atE es e.runes=(k:Int):=fun d=>by rw[P.out.2 d]at G;have:=G.out;rw[<- this]at c;simp at c
      rw[t6,decide_eq_false this];simp)
     clear P G m s r1 r2 a6 i3;generalize ph o=x0 at *;generalize o.isSome=ob at *;go_wp2_with fail;go_region_held3 (fun u=>u.cell? ⟨w.heap.size,0,none⟩=some (.slice (some ⟨g,0,none⟩) es.length cap)/\u.cell? ⟨wr.heap.size,0,none⟩=some (.slice j l xc)/\Below w3.heap.size w3 u)
      (first
       | with_reducible exact C
       | with_reducible exact N
       | with_reducible exact K _ _ (by assumption) (by assumption)
       | (with_reducible refine Q _ _ _ _ _ ?_;first|assumption|exact K _ _ (by assumption) (by assumption))
       | (with_reducible refine K _ _ (bY _) ?_;first|assumption|exact C|exact K _ _ (by assumption) (by assumption)))
      ((go_at_call 168;refine (F _ (by assumption)).mono ?_;rintro e' w' ⟨rfl,ah,ai,aj⟩))
     all_goals
      clear T C N K Q F;obtain⟨_,_,A⟩:=(show _/\_/\Below w3.heap.size w3 _ by assumption);have x4:Hid (ul _ _ _ _ _):=V.out.below A;have c4:Hid _:=R.out.trans (A.mono R.out.size)
      cases ob
      .have ad:Hid (pm es (k+1)):=L.out rfl
       clear L M A r p;go_wp2;exact⟨⟨k+1,by omega,by go_num,ad.out,x4.out,c4.out⟩,by simp[intOf];omega⟩
      .have z:Hid (ay es lv=false):=M.out rfl
       clear L M A r p;go_wp2;go_ret;rw[z.out];exact⟨rfl,c4.out⟩
  .have HA:Hid (ay es lv=true):=F8 s.out (by omega) hn ⟨ae,af⟩
   clear s p r;go_wp2;go_ret;rw[HA.out];exact⟨rfl,f⟩
theorem ut {w:World} {B:Nat} {v:Value} {es:List Ent} {sh:Bool} {lv:Int}(d:ac w B v es) (k:∀ e ∈ es,e.runes.length<=1048576) (ht:dr w) :
  Calls prog 153 #[.agg #[v,.bool sh,.int .i64 lv]] w fun e w'=>e=.returned (.bool (ay es lv))/\Below w.heap.size w w':=by
 obtain⟨a,c,rfl⟩:∃ a c,v=.slice a es.length c:=by
  rcases d.form with ⟨rfl,rfl⟩|⟨g,i,rfl,_,_,_,_⟩
  .exact⟨_,_,rfl⟩
  .exact⟨_,_,rfl⟩
 by_cases f:es.length<=40
 .by_cases b:1<=lv/\lv<=4
  .rcases d.form with ⟨h,rfl⟩|⟨g,i,h,_,_,_,_⟩
   .rw[h]
    have j:ay [] lv=true:=decide_eq_true ⟨by simp,b,rfl⟩;rw[j];exact V4 w sh lv b
   .rw[h]at d ⊢
    exact V5 w B g i es sh lv d f b k ht
  .rw[rl (fun h=>b h.2)]
   exact V3 w a es.length c sh lv f b
 .rw[rl (fun h=>f h.1)]
  exact Qu w a es.length c sh lv (by omega)
end Go.Proofs.YtjbmgghehdemdaaGreatDoor
