/- RdBox -/
import Derived.Test.YtjbmgghehdemdaaGreatDoorMS13
import Derived.Test.YtjbmgghehdemdaaGreatDoorMS22
namespace Go.Proofs.YtjbmgghehdemdaaGreatDoor
set_option maxRecDepth 100000
set_option maxHeartbeats 16000000
open _root_.Go.Proofs.Tryz
open Go.RowKit
structure RB (u:World) (b2 br bl:Nat) (vE:Value) (sh:Bool) (lv:Int) (e:El):Prop where
 lt:b2<br/\br<bl/\bl<u.heap.size
 res:u.cell? ⟨b2,0,none⟩=some (.slice none 0 0)/\u.cell? ⟨b2,1,none⟩=some (.bool false)/\u.cell? ⟨b2,2,none⟩=some (.int .i64 0)
 rules:u.cell? ⟨br,0,none⟩=some vE/\u.cell? ⟨br,1,none⟩=some (.bool sh)/\u.cell? ⟨br,2,none⟩=some (.int .i64 lv)
 last:u.cell? ⟨bl,0,none⟩=some (.int .i64 e.first)/\u.cell? ⟨bl,1,none⟩=some (.int .i64 e.second)/\u.cell? ⟨bl,2,none⟩=some (.int .i64 e.third)/\u.cell? ⟨bl,3,none⟩=some (.bool e.varies)
 free:(∀ j,u.frozen? ⟨b2,j,none⟩=false)/\(∀ j,u.frozen? ⟨br,j,none⟩=false)/\∀ j,u.frozen? ⟨bl,j,none⟩=false
theorem RB.upTo {u u':World} {c f d B:Nat} {vE:Value} {sh:Bool} {lv:Int} {e:El}(h:RB u c f d vE sh lv e) (a:Below B u u') (b:d<B):RB u' c f d vE sh lv e:=by
 obtain⟨⟨w,x,y⟩,⟨k,l,m⟩,⟨z,A,C⟩,⟨n,o,q,r⟩,s,t,v⟩:=h;have g:c<B:=by omega
 have i:f<B:=by omega
 exact⟨⟨w,x,Nat.lt_of_lt_of_le y a.size⟩,⟨by rw[a.cell g];exact k,by rw[a.cell g];exact l,by rw[a.cell g];exact m⟩,⟨by rw[a.cell i];exact z,by rw[a.cell i];exact A,by rw[a.cell i];exact C⟩,
  ⟨by rw[a.cell b];exact n,by rw[a.cell b];exact o,by rw[a.cell b];exact q,by rw[a.cell b];exact r⟩,fun j=>by rw[a.frozen (p:=⟨c,j,none⟩) g];exact s j,fun j=>by rw[a.frozen (p:=⟨f,j,none⟩) i];exact t j,fun j=>by rw[a.frozen (p:=⟨d,j,none⟩) b];exact v j⟩
theorem RB.below {u u':World} {a c b:Nat} {vE:Value} {sh:Bool} {lv:Int} {e:El}(h:RB u a c b vE sh lv e) (d:Below u.heap.size u u'):RB u' a c b vE sh lv e:=h.upTo d h.lt.2.2
theorem RB.setE {u:World} {b a c:Nat} {vE:Value} {sh:Bool} {lv:Int} {e:El}(h:RB u b a c vE sh lv e) (v:Value):RB (u.setCell ⟨a,0,none⟩ v) b a c v sh lv e:=by
 obtain⟨⟨q,r,s⟩,⟨d,f,g⟩,⟨t,w,x⟩,⟨i,k,l,m⟩,n,o,p⟩:=h;exact⟨⟨q,r,by simpa using s⟩,⟨by rw[dp (by omega)];exact d,by rw[dp (by omega)];exact f,by rw[dp (by omega)];exact g⟩,
  ⟨Cc t,by rw[dp (by omega)];exact w,by rw[dp (by omega)];exact x⟩,
  ⟨by rw[dp (by omega)];exact i,by rw[dp (by omega)];exact k,by rw[dp (by omega)];exact l,by rw[dp (by omega)];exact m⟩,
  fun j=>by rw[World.frozen?_setCell];exact n j,fun j=>by rw[World.frozen?_setCell];exact o j,fun j=>by rw[World.frozen?_setCell];exact p j⟩
theorem RB.setSh {u:World} {c a d:Nat} {vE:Value} {sh:Bool} {lv:Int} {e:El}(h:RB u c a d vE sh lv e) (b:Bool):RB (u.setCell ⟨a,1,none⟩ (.bool b)) c a d vE b lv e:=by
 obtain⟨⟨r,s,t⟩,⟨f,g,i⟩,⟨v,w,x⟩,⟨k,l,m,n⟩,o,p,q⟩:=h;exact⟨⟨r,s,by simpa using t⟩,⟨by rw[dp (by omega)];exact f,by rw[dp (by omega)];exact g,by rw[dp (by omega)];exact i⟩,
  ⟨by rw[dp (by omega)];exact v,Cc w,by rw[dp (by omega)];exact x⟩,
  ⟨by rw[dp (by omega)];exact k,by rw[dp (by omega)];exact l,by rw[dp (by omega)];exact m,by rw[dp (by omega)];exact n⟩,
  fun j=>by rw[World.frozen?_setCell];exact o j,fun j=>by rw[World.frozen?_setCell];exact p j,fun j=>by rw[World.frozen?_setCell];exact q j⟩
theorem RB.setLv {u:World} {b a c:Nat} {vE:Value} {sh:Bool} {lv:Int} {e:El}(h:RB u b a c vE sh lv e) (n:Int):RB (u.setCell ⟨a,2,none⟩ (.int .i64 n)) b a c vE sh n e:=by
 obtain⟨⟨r,s,t⟩,⟨d,f,g⟩,⟨v,w,x⟩,⟨i,k,l,m⟩,o,p,q⟩:=h;exact⟨⟨r,s,by simpa using t⟩,⟨by rw[dp (by omega)];exact d,by rw[dp (by omega)];exact f,by rw[dp (by omega)];exact g⟩,
  ⟨by rw[dp (by omega)];exact v,by rw[dp (by omega)];exact w,Cc x⟩,
  ⟨by rw[dp (by omega)];exact i,by rw[dp (by omega)];exact k,by rw[dp (by omega)];exact l,by rw[dp (by omega)];exact m⟩,
  fun j=>by rw[World.frozen?_setCell];exact o j,fun j=>by rw[World.frozen?_setCell];exact p j,fun j=>by rw[World.frozen?_setCell];exact q j⟩
theorem RB.setLast {u:World} {b c a:Nat} {vE:Value} {sh:Bool} {lv:Int} {e:El}(h:RB u b c a vE sh lv e) (x:El):RB (mw u a x) b c a vE sh lv x:=by
 obtain⟨⟨t,v,w⟩,⟨d,f,g⟩,⟨y,z,A⟩,⟨i,k,l,m⟩,n,o,p⟩:=h;refine⟨⟨t,v,by unfold mw;simpa using w⟩,⟨by rw[sk (by omega)];exact d,by rw[sk (by omega)];exact f,by rw[sk (by omega)];exact g⟩,
  ⟨by rw[sk (by omega)];exact y,by rw[sk (by omega)];exact z,by rw[sk (by omega)];exact A⟩,?_,
  fun j=>by unfold mw;simpa using n j,fun j=>by unfold mw;simpa using o j,fun j=>by unfold mw;simpa using p j⟩
 unfold mw;have q:(u.setCell ⟨a,0,none⟩ (.int .i64 x.first)).cell? ⟨a,1,none⟩=some (.int .i64 e.second):=by rw[dp (by omega)];exact k
 have r:((u.setCell ⟨a,0,none⟩ (.int .i64 x.first)).setCell ⟨a,1,none⟩ (.int .i64 x.second)).cell? ⟨a,2,none⟩=some (.int .i64 e.third):=by rw[dp (by omega),dp (by omega)];exact l
 have s:(((u.setCell ⟨a,0,none⟩ (.int .i64 x.first)).setCell ⟨a,1,none⟩ (.int .i64 x.second)).setCell ⟨a,2,none⟩ (.int .i64 x.third)).cell? ⟨a,3,none⟩=some (.bool e.varies):=by rw[dp (by omega),dp (by omega),dp (by omega)];exact m
 refine⟨?_,?_,?_,?_⟩
 .rw[dp (by omega),dp (by omega),dp (by omega)]
  exact Cc i
 .rw[dp (by omega),dp (by omega)]
  exact Cc q
 .rw[dp (by omega)]
  exact Cc r
 .exact Cc s
theorem ah.grown {u u':World} {B:Nat} {row:Option Nat} {v:Value} {ss:List ByteArray}(h:ah u B v ss) (d:u.grownBy u' row) (a:∀ g b,v.ownBlock=some g->row=some b->g≠b):ah u' B v ss :=
 World.ownsRow.kept h d (by
  cases e:v.ownBlock with
  | none=>exact .inl rfl
  | some g=>exact .inr fun c=>a g g e c.symm rfl)
structure StM (w u:World) (ws:List ByteArray) (vw:Value) (br bl:Nat) (st:RS) (vE:Value):Prop where
 rb:RB u w.heap.size br bl vE st.sh st.lv st.last
 en:ac u (bl+1) vE st.es
 sr:ah u (w.heap.size+1) vw ws
 vl:∀ g,vw.ownBlock=some g->g<br
 be:Below w.heap.size w u
theorem StM.step {w u u':World} {e:List ByteArray} {d:Value} {c b:Nat} {st:RS} {vE:Value}(h:StM w u e d c b st vE) (a:Below u.heap.size u u'):StM w u' e d c b st vE :=
 ⟨h.rb.below a,h.en.below a,h.sr.below a,h.vl,h.be.trans (a.mono h.be.size)⟩
theorem StM.setSh {w u:World} {e:List ByteArray} {d:Value} {a c:Nat} {st:RS} {vE:Value}(h:StM w u e d a c st vE) (b:Bool):StM w (u.setCell ⟨a,1,none⟩ (.bool b)) e d a c { st with sh:=b } vE:=by
 have f:=h.rb.lt;exact⟨h.rb.setSh b,h.en.grown (au u a 1 _) (by omega),h.sr.grown (au u a 1 _) (fun g b' h1 h2=>by cases h2;have:=h.vl g h1;omega),h.vl,h.be.setCell (Nat.le_of_lt f.1) _⟩
theorem StM.setLv {w u:World} {d:List ByteArray} {c:Value} {a b:Nat} {st:RS} {vE:Value}(h:StM w u d c a b st vE) (n:Int):StM w (u.setCell ⟨a,2,none⟩ (.int .i64 n)) d c a b { st with lv:=n } vE:=by
 have e:=h.rb.lt;exact⟨h.rb.setLv n,h.en.grown (au u a 2 _) (by omega),h.sr.grown (au u a 2 _) (fun g b' h1 h2=>by cases h2;have:=h.vl g h1;omega),h.vl,h.be.setCell (Nat.le_of_lt e.1) _⟩
theorem StM.setLast {w u:World} {d:List ByteArray} {c:Value} {b a:Nat} {st:RS} {vE:Value}(h:StM w u d c b a st vE) (x:El) (r:Bool):StM w (mw u a x) d c b a { st with last:=x,reset:=r } vE:=by
 have e:=h.rb.lt;exact⟨h.rb.setLast x,h.en.grown (qu u a x) (by omega),h.sr.grown (qu u a x) (fun g b' h1 h2=>by cases h2;have:=h.vl g h1;omega),h.vl,Rx h.be (by omega) x⟩
theorem C6 {w:World} {B:Nat} {v:Value} {st:RS} {sh:Bool} {lv:Int} {n:Nat}(b:ac w B v st.es) (hi:iu st) (h:n=1\/n=2\/n=3) :
  Calls prog 58 #[.agg #[v,.bool sh,.int .i64 lv],.agg #[.int .i64 st.last.first,.int .i64 st.last.second,.int .i64 st.last.third,.bool st.last.varies],.int .i64 (n:Int)] w fun x w'=>x=.returned (elV (iw st.es st.last n))/\Below w.heap.size w w':=by
 obtain⟨c,d,a⟩:=ck hi.good;rcases h with rfl|rfl|rfl
 .exact Rq b (by omega) (fun e he=>(a e he).2.1.2) hi.f0 hi.f1
 .exact Rr b c (fun e he=>(a e he).2.2.1.2) hi.s0 hi.s1
 .exact Rs b c (fun e he=>(a e he).2.2.2.1.2) hi.t0 hi.t1
theorem StM.put {w u u':World} {m:List ByteArray} {i:Value} {c a g cap:Nat} {st:RS} {vE vl:Value} {l:List Int} {xs:List Value}(h:StM w u m i c a st vE) (r:xs.length=st.es.length)
  (h2:∀ (k:Nat) (e:Ent),st.es[k]? = some e->∃ x,xs[k]? = some x/\aa u (a+1) x e.runes) (q:aa u (a+1) vl l)
  (h1:u.ownsRow (a+1) 117 5 vE st.es.length (fj xs st.es)) (d:u.grownBy u' vE.ownBlock)
  (s:u'.ownsRow (a+1) 117 5 (.slice (some ⟨g,0,none⟩) (st.es.length+1) cap) (st.es.length+1) (fj xs st.es++iy vl st.last)) :
  StM w (u'.setCell ⟨c,0,none⟩ (.slice (some ⟨g,0,none⟩) (st.es.length+1) cap)) m i c a { st with es:=st.es++[⟨l,st.last⟩] } (.slice (some ⟨g,0,none⟩) (st.es.length+1) cap):=by
 have o:=h.rb.lt;have f:∀ j,vE.ownBlock=some j->a+1<=j:=fun j hj=>(World.ownsRow.lt h1 j hj).1
 have n:Below (a+1) u u':=Below.grown (Below.refl (a+1) u) d (by omega) f;have p:ac u' (a+1) (.slice (some ⟨g,0,none⟩) (st.es.length+1) cap) (st.es++[⟨l,st.last⟩]):=ac.snoc (e:=⟨l,st.last⟩) r h2 q h1 d s;refine⟨(h.rb.upTo n (Nat.lt_succ_self _)).setE _,p.grown (au u' c 0 _) (by omega),(h.sr.grown d (fun g b h3 h4=>by have:=h.vl g h3;have:=f b h4;omega)).grown (au u' c 0 _) (fun g b' h1 h2=>by cases h2;have:=h.vl g h1;omega),h.vl,?_⟩;exact (Below.grown h.be d h.be.size (fun j hj=>by have:=f j hj;omega)).setCell (Nat.le_of_lt o.1) _
def bc7 (w:World) (ws:List ByteArray) (vw:Value) (br bl:Nat) (ans:Except Int RS) (rv iv:Value) (wr:World):Prop :=
 ∃ (k:Nat) (st:RS) (vE:Value),k<=ws.length/\iv=.int .i64 k/\rv=.bool st.reset/\bj (ws.drop k) st=ans/\iu st/\StM w wr ws vw br bl st vE
theorem bf2 (w:World) (o:Obj):(w.alloc o).heap.size=w.heap.size+1:=by simp
def ak (c:Int):Value:=.tuple #[.agg #[.slice none 0 0,.bool false,.int .i64 0],.int .i64 c]
theorem bp {w wr:World}(h:Below w.heap.size w wr) (x y z:Value):Below w.heap.size w (((wr.setCell ⟨w.heap.size,0,none⟩ x).setCell ⟨w.heap.size,1,none⟩ y).setCell ⟨w.heap.size,2,none⟩ z) :=
 ((h.setCell bR _).setCell bR _).setCell bR _
def Ip (w:World) (a:RA) (e:Ending) (w':World):Prop :=
 ∃ vE,e=.returned (.tuple #[.agg #[vE,.bool a.sh,.int .i64 a.lv],.int .i64 a.code])/\ac w' w.heap.size vE a.es/\Below w.heap.size w w'
theorem bq {w wr:World} {a:Except Int RS} {c:Int}(h:a=.error c) (b:Below w.heap.size w wr):Ip w (Y8 a) (.returned (ak c)) wr:=by
 subst h;exact⟨_,rfl,ac.nil _ _,b⟩
theorem aa4 (s:ByteArray) (w:World) (h:300<s.size) (c:s.size<=1073741824):Calls prog 23 #[.string s] w fun e w'=>Ip w (ab s) e w':=by
 have b:(300:Int)<(s.size:Int):=by omega
 have a:ab s=⟨[],false,0,1⟩:=if_pos h;rw[a];go_enter func23,ntmps23;go_wp2;refine bodyPost_ret (v:=ak 1) ?_ rfl ⟨_,rfl,ac.nil _ _,bY _⟩;rw[results_cell_tmp rfl];unfold ak;go_simp
theorem a97 (w:World):Calls prog 54 #[] w fun e w'=>e=.returned (.agg #[.slice none 0 0,.bool false,.int .i64 3])/\Below w.heap.size w w':=by
 go_enter func54,ntmps54;go_wp2;refine bodyPost_ret (v:=.agg #[.slice none 0 0,.bool false,.int .i64 3]) ?_ rfl ⟨rfl,bY _⟩;rw[av rfl];go_simp
theorem bg4 {u:World} {d b f:Nat} {vE:Value} {sh:Bool} {lv:Int} {e:El}(g:d<b/\b<f) (h2:u.heap[d]? = some (.cells #[.slice none 0 0,.bool false,.int .i64 0] 56))
  (c:u.heap[b]? = some (.cells #[vE,.bool sh,.int .i64 lv] 56)) (a:u.heap[f]? = some (.cells #[.int .i64 e.first,.int .i64 e.second,.int .i64 e.third,.bool e.varies] 111)):RB u d b f vE sh lv e :=
 ⟨⟨g.1,g.2,(Array.getElem?_eq_some_iff.1 a).1⟩,⟨cell_of_row _ _ 0 _ _ _ h2,cell_of_row _ _ 1 _ _ _ h2,cell_of_row _ _ 2 _ _ _ h2⟩,⟨cell_of_row _ _ 0 _ _ _ c,cell_of_row _ _ 1 _ _ _ c,cell_of_row _ _ 2 _ _ _ c⟩,
  ⟨cell_of_row _ _ 0 _ _ _ a,cell_of_row _ _ 1 _ _ _ a,cell_of_row _ _ 2 _ _ _ a,cell_of_row _ _ 3 _ _ _ a⟩,fun j=>by simp[World.frozen?,h2],fun j=>by simp[World.frozen?,c],fun j=>by simp[World.frozen?,a]⟩
theorem b90 {w2:World} {b:Nat}(h:w2.heap[b]? = some (.cells #[.slice none 0 0,.bool false,.int .i64 0] 56)) :
  RB ((w2.alloc (.cells #[.slice none 0 0,.bool false,.int .i64 3] 56)).alloc (.cells #[.int .i64 0,.int .i64 0,.int .i64 0,.bool false] 111)) b w2.heap.size (w2.heap.size+1) (.slice none 0 0) false 3 ⟨0,0,0,false⟩:=by
 have c:=((Below.refl w2.heap.size w2).alloc bR (.cells #[.slice none 0 0,.bool false,.int .i64 3] 56)).alloc (by simp) (.cells #[.int .i64 0,.int .i64 0,.int .i64 0,.bool false] 111);have a:=(Array.getElem?_eq_some_iff.1 h).1;refine bg4 ⟨a,Nat.lt_succ_self _⟩ ?_ ?_ (heap_alloc2_new w2 _ _)
 .rw[c.block _ a];exact h
 .rw[Below.heap_alloc _ _ _ (by simp)];exact heap_alloc_new w2 _
theorem aa3 (st:RS):bj [] st=.ok st:=by unfold bj;rfl
theorem Kr {a:List ByteArray} {k:Nat} {x:ByteArray}(h:a[k]? = some x):a.drop k=x::a.drop (k+1):=by
 obtain⟨b,rfl⟩:=List.getElem?_eq_some_iff.1 h;exact List.drop_eq_getElem_cons b
theorem Ti {x:ByteArray} {a:List ByteArray} {st:RS}(h:(x.toList == ki)=true):bj (x::a) st=bj a { st with sh:=true }:=by
 rw[bj.eq_def];simp only;rw[if_pos h]
theorem Ya {x:ByteArray} {st:RS}(h1:(x.toList == ki)=false) (h2:(x.toList == kl)=true):bj [x] st=.error 2:=by
 rw[bj.eq_def];simp only;rw[if_neg (by simp[h1]),if_pos h2]
theorem xx {x y:ByteArray} {b:List ByteArray} {st:RS}(h1:(x.toList == ki)=false) (h2:(x.toList == kl)=true) (a:td y=none):bj (x::y::b) st=.error 2:=by
 rw[bj.eq_def];simp only;rw[if_neg (by simp[h1]),if_pos h2,a]
theorem Yb {x y:ByteArray} {a:List ByteArray} {st:RS} {n:Int}(h1:(x.toList == ki)=false) (h2:(x.toList == kl)=true) (b:td y=some n):bj (x::y::a) st=bj a { st with lv:=n }:=by
 rw[bj.eq_def];simp only;rw[if_neg (by simp[h1]),if_pos h2,b]
theorem Yc {x:ByteArray} {b:List ByteArray} {st:RS}(h1:(x.toList == ki)=false) (h2:(x.toList == kl)=false) (a:mv x=none):bj (x::b) st=.error 2:=by
 rw[bj.eq_def];simp only;rw[if_neg (by simp[h1]),if_neg (by simp[h2]),a]
theorem Yd {x:ByteArray} {st:RS} {lev:Nat}(h1:(x.toList == ki)=false) (h2:(x.toList == kl)=false) (a:mv x=some lev):bj [x] st=.error 2:=by
 rw[bj.eq_def];simp only;rw[if_neg (by simp[h1]),if_neg (by simp[h2]),a]
theorem Ye {x y:ByteArray} {c:List ByteArray} {st:RS} {lev:Nat}(h1:(x.toList == ki)=false) (h2:(x.toList == kl)=false) (a:mv x=some lev) (b:200<y.size):bj (x::y::c) st=.error 2:=by
 rw[bj.eq_def];simp only;rw[if_neg (by simp[h1]),if_neg (by simp[h2]),a];simp only;rw[if_pos b]
theorem gm {x y:ByteArray} {e:List ByteArray} {st:RS} {lev:Nat} {c:Int}(h1:(x.toList == ki)=false) (h2:(x.toList == kl)=false) (a:mv x=some lev) (b:¬ 200<y.size) (d:dh st lev (nD (Dec.decT y.size y).1)=.error c):bj (x::y::e) st=.error c:=by
 rw[bj.eq_def];simp only;rw[if_neg (by simp[h1]),if_neg (by simp[h2]),a];simp only;rw[if_neg b,d]
theorem xy {x y:ByteArray} {a:List ByteArray} {st st':RS} {lev:Nat}(h1:(x.toList == ki)=false) (h2:(x.toList == kl)=false) (b:mv x=some lev) (c:¬ 200<y.size) (d:dh st lev (nD (Dec.decT y.size y).1)=.ok st'):bj (x::y::a) st=bj a st':=by
 rw[bj.eq_def];simp only;rw[if_neg (by simp[h1]),if_neg (by simp[h2]),b];simp only;rw[if_neg c,d]
theorem T8 {x:ByteArray} {lev:Nat}(h:mv x=some lev):(lev=0/\(x.toList == [38])=true)\/(lev=1/\(x.toList == [38])=false/\(x.toList == [60])=true)\/(lev=2/\(x.toList == [38])=false/\(x.toList == [60])=false/\(x.toList == [60,60])=true) \/
  (lev=3/\(x.toList == [38])=false/\(x.toList == [60])=false/\(x.toList == [60,60])=false/\(x.toList == [60,60,60])=true):=by
 unfold mv at h
 cases d0:(x.toList == [38]) <;> rw[d0]at h
 .cases d1:(x.toList == [60]) <;> rw[d1]at h
  .cases d2:(x.toList == [60,60]) <;> rw[d2]at h
   .cases d3:(x.toList == [60,60,60]) <;> rw[d3]at h
    .simp at h
    .simp at h;subst h;simp
   .simp at h;subst h;simp
  .simp at h;subst h;simp
 .simp at h;subst h;simp
theorem Eq {u:World} {B b:Nat} {v:Value} {l:List Int}(h:aa u B v l) (a:b+1<=B):v.ownBlock=none\/v.ownBlock≠some b:=by
 cases e:v.ownBlock with
 | none=>exact .inl rfl
 | some g =>
  refine .inr fun c=>?_
  have:=(World.ownsRow.lt h g e).1
  cases c
  omega
theorem Oi {a:List ByteArray} {k:Nat}(h:a.length<=k):a.drop k=[]:=List.drop_eq_nil_of_le h
theorem al6 {y:ByteArray}(h:y.size=2/\49<=Dec.bt y 0/\Dec.bt y 0<=52/\Dec.bt y 1=93):td y=some ((Dec.bt y 0:Int)-48):=if_pos h
theorem Fq {y:ByteArray}(h:¬ (y.size=2/\49<=Dec.bt y 0/\Dec.bt y 0<=52/\Dec.bt y 1=93)):td y=none:=if_neg h
theorem A3 {st:RS} {lev:Nat} {l:List Int}(h:bh l=false):dh st lev l=.error 2:=if_pos h
theorem Q8 {st:RS} {l:List Int}(h:bh l=true) (h2:go st.es l=none):dh st 0 l=.error 3:=by
 unfold dh;rw[if_neg (by simp[h]),if_pos rfl,h2]
theorem Q9 {st:RS} {l:List Int} {e:El}(h:bh l=true) (h2:go st.es l=some e) (a:e.varies=true):dh st 0 l=.error 3:=by
 unfold dh;rw[if_neg (by simp[h]),if_pos rfl,h2];simp only;rw[if_pos a]
theorem Eu {st:RS} {l:List Int} {e:El}(h:bh l=true) (h2:go st.es l=some e) (a:e.varies=false):dh st 0 l=.ok { st with last:=e,reset:=true }:=by
 unfold dh;rw[if_neg (by simp[h]),if_pos rfl,h2];simp only;rw[if_neg (by simp[a])]
theorem Aw {st:RS} {lev:Nat} {l:List Int}(h:bh l=true) (a:lev≠0) (b:st.reset=false):dh st lev l=.error 3:=by
 unfold dh;rw[if_neg (by simp[h]),if_neg a,if_pos b]
theorem Ax {st:RS} {lev:Nat} {l:List Int}(h:bh l=true) (b:lev≠0) (c:st.reset=true) (a:0<=atE st.es l):dh st lev l=.error 4:=by
 unfold dh;rw[if_neg (by simp[h]),if_neg b,if_neg (by simp[c]),if_pos a]
theorem Et {st:RS} {lev:Nat} {l:List Int}(h:bh l=true) (b:lev≠0) (c:st.reset=true) (a:¬ 0<=atE st.es l):dh st lev l=if bd (st.es++[⟨l,iw st.es st.last lev⟩]) st.lv=true then .ok { st with es:=st.es++[⟨l,iw st.es st.last lev⟩],last:=iw st.es st.last lev } else .error 5:=by
 unfold dh;rw[if_neg (by simp[h]),if_neg b,if_neg (by simp[c]),if_neg a]
theorem Yf (s:ByteArray) (w:World) (hs:s.size<=300):Calls prog 23 #[.string s] w fun e w'=>Ip w (ab s) e w':=by
 have h2:¬ (300:Int)<(s.size:Int):=by omega
 have hA:ab s=Y8 (bj (ub s) rs0):=if_neg (by omega);rw[hA];clear hA;have W:=fun w=>ad9 s w (by omega)
 have bw:(ub s).length<=301:=Nat.le_trans (Mr s (s.size+1)).1 (by omega);generalize ub s=ws at *;obtain⟨R,ax⟩:∃ R,Hid (bj ws rs0=R):=⟨_,rfl⟩
 rw[ax.out];go_enter func23,ntmps23;go_wp2_with fail;refine (W _).mono ?_;rintro e w1 ⟨vw,rfl,bc,b1⟩;have b9:=((Below.refl w.heap.size w).alloc bR (.cells #[.slice none 0 0,.bool false,.int .i64 0] 56)).trans (b1.mono (by simp));have P:=fun w=>a97 w
 have aV:Hid _:=b9;have b8:Hid (ah _ _ _ _):=bc;have aT:Hid (w1.heap[w.heap.size]? = some (.cells #[.slice none 0 0,.bool false,.int .i64 0] 56)):=by
  show _=_
  rw[b1.block _ (by simp)];exact heap_alloc_new w _
 clear b9 b1 bc W;go_wp2_with fail;refine (P _).mono ?_;rintro e F ⟨rfl,b2⟩;clear P;have aF:=(Array.getElem?_eq_some_iff.1 aT.out).1;have bb:StM w ((F.alloc (.cells #[.slice none 0 0,.bool false,.int .i64 3] 56)).alloc (.cells #[.int .i64 0,.int .i64 0,.int .i64 0,.bool false] 111)) ws vw F.heap.size (F.heap.size+1) rs0 (.slice none 0 0):=by
  have aP:=aV.out.trans (b2.mono aV.out.size);have aU:=b8.out.below b2;rw[bf2]at aU;exact⟨b90 (by rw[b2.block _ aF];exact aT.out),ac.nil _ _,aU.below (((Below.refl F.heap.size F).alloc bR _).alloc (by simp) _),fun g e=>(World.ownsRow.lt aU g e).2,(aP.alloc aP.size _).alloc (aP.alloc aP.size _).size _⟩
 have aR:Hid _:=bb;clear aV b2 aT aF b8 bb;obtain⟨aw,cw,rfl⟩:∃ aw cw,vw=.slice aw ws.length cw:=by
  rcases aR.out.sr.form with ⟨rfl,rfl⟩|⟨g,az,rfl,_,_⟩
  .exact⟨_,_,rfl⟩
  .exact⟨_,_,rfl⟩
 go_wp2_with fail;go_loopw [7,8] (fun rv iv wr=>bc7 w ws (.slice aw ws.length cw) F.heap.size (F.heap.size+1) R rv iv wr) (fun _ iv _=>ws.length-(intOf iv).toNat)
 case atStart=>exact⟨0,rs0,_,Nat.zero_le _,rfl,rfl,by rw[List.drop_zero];exact ax.out,Yn,aR.out⟩
 case round =>
  clear aR ax;obtain⟨k,b,vE,hk,rfl,rfl,hR,hI,hM⟩:=hrel;have HR:=hZ hR;have T:=hZ hI;have X:Hid (StM w wr ws _ _ _ b vE):=hM;clear hR hI hM;obtain⟨ae,ce,rfl⟩:∃ a c,vE=.slice a b.es.length c:=by
   rcases X.out.en.form with ⟨h,h'⟩|⟨g,az,rfl,_,_,_,_⟩
   .exact⟨none,0,by rw[h,h'];rfl⟩
   .exact⟨_,_,rfl⟩
  have d:=X.out.be;obtain⟨⟨N,O,Q⟩,⟨u,q1,q2⟩,⟨A,C,E⟩,_,r,t,_⟩:=X.out.rb;by_cases aY:k<ws.length
  .obtain⟨x,hx⟩:∃ x,ws[k]? = some x:=⟨_,List.getElem?_eq_getElem aY⟩
   obtain⟨gw,rfl⟩:∃ g,aw=some ⟨g,0,none⟩:=by
    rcases X.out.sr.form with ⟨_,rfl⟩|⟨g,az,h,_,_⟩
    .simp at aY
    .injection h with h _ _;exact⟨g,h⟩
   have aQ:=X.out.sr.cell k x hx;have bu:(k:Int)<(ws.length:Int):=by omega
   have bf:=Kr hx;have a7:Hid (bj (x::ws.drop (k+1)) b=R):=by show _=_;rw[<- bf];exact HR.out
   clear HR bf hx
   cases c1:(x.toList == ki)
   .cases c2:(x.toList == kl)
    .cases c3:mv x with
     | none =>
      have p:Hid (R=.error 2):=by show _=_;rw[<- a7.out,Yc c1 c2 c3]
      unfold mv at c3
      cases d0:(x.toList == [38])
      .rw[d0]at c3
       cases d1:(x.toList == [60])
       .rw[d1]at c3
        cases d2:(x.toList == [60,60])
        .rw[d2]at c3
         cases d3:(x.toList == [60,60,60])
         .clear c3 a7
          unfold ki at c1;unfold kl at c2;go_wp2;refine bodyPost_ret (v:=ak 2) ?_ rfl (bq p.out (bp d _ _ _));rw[results_cell_tmp rfl];unfold ak;go_simp
         .rw[d3]at c3;simp at c3
        .rw[d2]at c3;simp at c3
       .rw[d1]at c3;simp at c3
      .rw[d0]at c3;simp at c3
     | some lev =>
      have i:Hid _:=c1;have m:Hid _:=c2;have G:Hid _:=c3;have aW:=T8 c3;unfold ki at c1;unfold kl at c2;clear c3;by_cases aq:k+1<ws.length
      .obtain⟨y,hy⟩:∃ y,ws[k+1]? = some y:=⟨_,List.getElem?_eq_getElem aq⟩
       have aD:=X.out.sr.cell (k+1) y hy;have o:Hid (bj (x::y::ws.drop (k+1+1)) b=R):=by show _=_;rw[<- Kr hy];exact a7.out
       have he:((k:Int)+1 == (ws.length:Int))=false:=by simp;omega
       have bn:(k:Int)+1<(ws.length:Int):=by omega
       clear hy a7;by_cases a2:200<y.size
       .have p:Hid (R=.error 2):=by show _=_;rw[<- o.out,Ye i.out m.out G.out a2]
        have b0:(200:Int)<(y.size:Int):=by omega
        clear o X i m G;rcases aW with ⟨_,d0⟩|⟨_,d0,d1⟩|⟨_,d0,d1,d2⟩|⟨_,d0,d1,d2,d3⟩
        .go_wp2
         refine bodyPost_ret (v:=ak 2) ?_ rfl (bq p.out (bp d _ _ _));rw[results_cell_tmp rfl];unfold ak;go_simp
        .go_wp2
         refine bodyPost_ret (v:=ak 2) ?_ rfl (bq p.out (bp d _ _ _));rw[results_cell_tmp rfl];unfold ak;go_simp
        .go_wp2
         refine bodyPost_ret (v:=ak 2) ?_ rfl (bq p.out (bp d _ _ _));rw[results_cell_tmp rfl];unfold ak;go_simp
        .go_wp2
         refine bodyPost_ret (v:=ak 2) ?_ rfl (bq p.out (bp d _ _ _));rw[results_cell_tmp rfl];unfold ak;go_simp
       .have am:=fun w=>Ed y w (by omega)
        have bs:=(Dec.decT_len y.size y bR).1;have b0:¬ (200:Int)<(y.size:Int):=by omega
        have bv:(nD (Dec.decT y.size y).1).length<=1800:=by rw[Bn];have:=B0 (Dec.decT y.size y).1;omega
        rcases aW with ⟨rfl,d0⟩|⟨rfl,d0,d1⟩|⟨rfl,d0,d1,d2⟩|⟨rfl,d0,d1,d2,d3⟩
        .go_wp2_with fail
         refine (am _).mono ?_;rintro e w3 ⟨v3,rfl,i3,b3⟩;have D:=Fl (zs:=(Dec.decT y.size y).1) (by omega) i3;have a8:Hid _:=X.out.step b3;have aj:Hid (F.heap.size+1+1<=w3.heap.size):=by show _<=_;have:=b3.size;omega
         clear am X u q1 q2 A C E r t aQ aD d N O Q b3 i3;go_wp2_with fail;refine D.mono ?_;rintro e w4 ⟨v4,rfl,i4,b4⟩;have a9:Hid _:=a8.out.step b4;have a5:=gd i4 aj.out;clear D a8 b4 aj i4;generalize hl4:nD (Dec.decT y.size y).1=l at *;have H:Hid _:=hl4;clear hl4;obtain⟨a4,c4,rfl⟩:∃ a c,v4=.slice a l.length c:=by
          rcases a5.form with ⟨rfl,rfl⟩|⟨g,az,rfl,_,_⟩
          .exact⟨_,_,rfl⟩
          .exact⟨_,_,rfl⟩
         have RN:=tm (by omega) a5;go_wp2_with fail;refine RN.mono ?_;rintro e Y ⟨rfl,b5⟩;have q:Hid _:=a9.out.step b5;have Z:Hid (aa _ _ _ _):=a5.below b5;clear RN a9 b5 a5
         cases hro:bh l
         .have p:Hid (R=.error 2):=by show _=_;rw[<- o.out,gm i.out m.out G.out a2 (by rw[H.out];exact A3 hro)]
          have d:=q.out.be;obtain⟨⟨N,O,Q⟩,⟨u,q1,q2⟩,⟨A,C,E⟩,⟨I,J,K,L⟩,r,t,M⟩:=q.out.rb;have U:w.heap.size<Y.heap.size:=by omega
          have V:F.heap.size<Y.heap.size:=by omega
          clear o q i m G Z H;go_wp2;refine bodyPost_ret (v:=ak 2) ?_ rfl (bq p.out (bp d _ _ _));rw[results_cell_tmp rfl];unfold ak;go_simp
         .have aA:=ez hro
          have a6:∀ e ∈ b.es,e.runes.length<=1048576:=fun e he=>Nat.le_trans (ez ((ck T.out.good).2.2 e he).1) (by omega)
          have aX:b.es.length<=40:=(ck T.out.good).1;have bg:=Qj hro;have EL:=a21 (sh:=b.sh) (lv:=b.lv) q.out.en Z.out (by omega) (by omega) a6 bg;clear bg a6;have d:=q.out.be;obtain⟨⟨N,O,Q⟩,⟨u,q1,q2⟩,⟨A,C,E⟩,⟨I,J,K,L⟩,r,t,M⟩:=q.out.rb;have U:w.heap.size<Y.heap.size:=by omega
          have V:F.heap.size<Y.heap.size:=by omega
          cases hee:go b.es l with
          | none =>
           have p:Hid (R=.error 3):=by show _=_;rw[<- o.out,gm i.out m.out G.out a2 (by rw[H.out];exact Q8 hro hee)]
           rw[hee]at EL;unfold ie elV qn at EL;simp only[Option.getD_none,Option.isSome_none]at EL;clear o i m G Z H hee;go_wp2_with fail;refine EL.mono ?_;rintro e w6 ⟨rfl,b6⟩;have S:Hid _:=q.out.step b6;clear u q1 q2 A C E I J K L r t M d N O Q U V;have d:=S.out.be;obtain⟨⟨N,O,Q⟩,⟨u,q1,q2⟩,⟨A,C,E⟩,⟨I,J,K,L⟩,r,t,M⟩:=S.out.rb;have U:w.heap.size<w6.heap.size:=by omega
           have V:F.heap.size<w6.heap.size:=by omega
           clear EL q S b6;go_wp2;refine bodyPost_ret (v:=ak 3) ?_ rfl (bq p.out ((bp d _ _ _).alloc (by simpa using d.size) _));rw[results_cell_tmp rfl];unfold ak;go_simp
          | some x0 =>
           rw[hee]at EL;unfold ie elV qn at EL
           cases hv:x0.varies
           .have al:Hid (bj (ws.drop (k+1+1)) { b with last:=x0,reset:=true }=R):=by show _=_;rw[<- o.out,xy i.out m.out G.out a2 (by rw[H.out];exact Eu hro hee hv)]
            have ay:Hid (iu { b with last:=x0,reset:=true }):=sj T.out (Eu hro hee hv);have HV:=hZ hv;simp only[Option.getD_some,Option.isSome_some,hv]at EL;clear o i m G Z H hee hv;go_wp2_with fail;refine EL.mono ?_;rintro e w6 ⟨rfl,b6⟩;have S:Hid _:=q.out.step b6;clear u q1 q2 A C E I J K L r t M d N O Q U V;have a3:Hid (StM _ _ _ _ _ _ _ _):=(S.out.setLast x0 true).step (bY (.cells #[.int .i64 x0.first,.int .i64 x0.second,.int .i64 x0.third,.bool x0.varies] 111));rw[HV.out]at a3;unfold mw at a3;rw[HV.out]at a3;have d:=S.out.be;obtain⟨⟨N,O,Q⟩,⟨u,q1,q2⟩,⟨A,C,E⟩,⟨I,J,K,L⟩,r,t,M⟩:=S.out.rb;have U:w.heap.size<w6.heap.size:=by omega
            have V:F.heap.size<w6.heap.size:=by omega
            clear EL q S b6 d;go_wp2;exact⟨⟨k+1+1,{ b with last:=x0,reset:=true },_,aq,by go_num,rfl,al.out,ay.out,a3.out⟩,by simp[intOf];omega⟩
           .have p:Hid (R=.error 3):=by show _=_;rw[<- o.out,gm i.out m.out G.out a2 (by rw[H.out];exact Q9 hro hee hv)]
            simp only[Option.getD_some,Option.isSome_some,hv]at EL;clear o i m G Z H hee hv;go_wp2_with fail;refine EL.mono ?_;rintro e w6 ⟨rfl,b6⟩;have S:Hid _:=q.out.step b6;clear u q1 q2 A C E I J K L r t M d N O Q U V;have d:=S.out.be;obtain⟨⟨N,O,Q⟩,⟨u,q1,q2⟩,⟨A,C,E⟩,⟨I,J,K,L⟩,r,t,M⟩:=S.out.rb;have U:w.heap.size<w6.heap.size:=by omega
            have V:F.heap.size<w6.heap.size:=by omega
            clear EL q S b6;go_wp2;refine bodyPost_ret (v:=ak 3) ?_ rfl (bq p.out ((bp d _ _ _).alloc (by simpa using d.size) _));rw[results_cell_tmp rfl];unfold ak;go_simp
        .go_wp2_with fail
         refine (am _).mono ?_;rintro e w3 ⟨v3,rfl,i3,b3⟩;have D:=Fl (zs:=(Dec.decT y.size y).1) (by omega) i3;have a8:Hid _:=X.out.step b3;have aj:Hid (F.heap.size+1+1<=w3.heap.size):=by show _<=_;have:=b3.size;omega
         clear am X u q1 q2 A C E r t aQ aD d N O Q b3 i3;go_wp2_with fail;refine D.mono ?_;rintro e w4 ⟨v4,rfl,i4,b4⟩;have a9:Hid _:=a8.out.step b4;have a5:=gd i4 aj.out;clear D a8 b4 aj i4;generalize hl4:nD (Dec.decT y.size y).1=l at *;have H:Hid _:=hl4;clear hl4;obtain⟨a4,c4,rfl⟩:∃ a c,v4=.slice a l.length c:=by
          rcases a5.form with ⟨rfl,rfl⟩|⟨g,az,rfl,_,_⟩
          .exact⟨_,_,rfl⟩
          .exact⟨_,_,rfl⟩
         have RN:=tm (by omega) a5;go_wp2_with fail;refine RN.mono ?_;rintro e Y ⟨rfl,b5⟩;have q:Hid _:=a9.out.step b5;have Z:Hid (aa _ _ _ _):=a5.below b5;clear RN a9 b5 a5
         cases hro:bh l
         .have p:Hid (R=.error 2):=by show _=_;rw[<- o.out,gm i.out m.out G.out a2 (by rw[H.out];exact A3 hro)]
          have d:=q.out.be;obtain⟨⟨N,O,Q⟩,⟨u,q1,q2⟩,⟨A,C,E⟩,⟨I,J,K,L⟩,r,t,M⟩:=q.out.rb;have U:w.heap.size<Y.heap.size:=by omega
          have V:F.heap.size<Y.heap.size:=by omega
          clear o q i m G Z H;go_wp2;refine bodyPost_ret (v:=ak 2) ?_ rfl (bq p.out (bp d _ _ _));rw[results_cell_tmp rfl];unfold ak;go_simp
         .have aA:=ez hro
          have a6:∀ e ∈ b.es,e.runes.length<=1048576:=fun e he=>Nat.le_trans (ez ((ck T.out.good).2.2 e he).1) (by omega)
          have aX:b.es.length<=40:=(ck T.out.good).1
          cases hrs:b.reset
          .have p:Hid (R=.error 3):=by show _=_;rw[<- o.out,gm i.out m.out G.out a2 (by rw[H.out];exact Aw hro (by omega) hrs)]
           have d:=q.out.be;obtain⟨⟨N,O,Q⟩,⟨u,q1,q2⟩,⟨A,C,E⟩,⟨I,J,K,L⟩,r,t,M⟩:=q.out.rb;have U:w.heap.size<Y.heap.size:=by omega
           have V:F.heap.size<Y.heap.size:=by omega
           clear o q i m G Z H a6;go_wp2;refine bodyPost_ret (v:=ak 3) ?_ rfl (bq p.out (bp d _ _ _));rw[results_cell_tmp rfl];unfold ak;go_simp
          .have AT:=rt (sh:=b.sh) (lv:=b.lv) q.out.en Z.out (by omega) (by omega) a6
           clear a6;have d:=q.out.be;obtain⟨⟨N,O,Q⟩,⟨u,q1,q2⟩,⟨A,C,E⟩,⟨I,J,K,L⟩,r,t,M⟩:=q.out.rb;have U:w.heap.size<Y.heap.size:=by omega
           have V:F.heap.size<Y.heap.size:=by omega
           go_wp2_with fail;refine AT.mono ?_;rintro e w6 ⟨rfl,b6⟩;have S:Hid _:=q.out.step b6;have I6:Hid (aa _ _ _ _):=Z.out.below b6;clear u q1 q2 A C E I J K L r t M d N O Q U V;clear AT q Z b6;have d:=S.out.be;obtain⟨⟨N,O,Q⟩,⟨u,q1,q2⟩,⟨A,C,E⟩,⟨I,J,K,L⟩,r,t,M⟩:=S.out.rb;have U:w.heap.size<w6.heap.size:=by omega
           have V:F.heap.size<w6.heap.size:=by omega
           by_cases ap:0<=atE b.es l
           .have p:Hid (R=.error 4):=by show _=_;rw[<- o.out,gm i.out m.out G.out a2 (by rw[H.out];exact Ax hro (by omega) hrs ap)]
            clear o S i m G I6 H;go_wp2;refine bodyPost_ret (v:=ak 4) ?_ rfl (bq p.out (bp d _ _ _));rw[results_cell_tmp rfl];unfold ak;go_simp
           .have BH:=C6 (sh:=b.sh) (lv:=b.lv) (n:=1) S.out.en T.out (by omega)
            have a0:=Et (lev:=1) hro (by omega) hrs ap;obtain⟨f,aB⟩:∃ f,Hid (iw b.es b.last 1=f):=⟨_,rfl⟩
            rw[aB.out]at BH a0;unfold elV at BH;go_wp2_with fail;refine BH.mono ?_;rintro e w7 ⟨rfl,b7⟩;have a3:Hid _:=S.out.step b7;have I7:Hid (aa _ _ _ _):=I6.out.below b7;clear u q1 q2 A C E I J K L r t M d N O Q U V;clear BH S I6 b7;have af:=a3.out.setLast f b.reset;have i8:aa (mw w7 (F.heap.size+1) f) _ _ _:=World.ownsRow.kept I7.out (qu w7 (F.heap.size+1) f) (Eq I7.out bR);have d:=a3.out.be;obtain⟨⟨N,O,Q⟩,⟨u,q1,q2⟩,⟨A,C,E⟩,⟨I,J,K,L⟩,r,t,M⟩:=a3.out.rb;have U:w.heap.size<w7.heap.size:=by omega
            have V:F.heap.size<w7.heap.size:=by omega
            obtain⟨xs,aG,h1,h2⟩:=af.en;have ad:Hid _:=af;have H2:Hid _:=h2;have I8:Hid (aa _ _ _ _):=i8;obtain⟨it,aE,aK,aH,aI⟩:=info_parts Cn;clear a3 I7 af h2 i8 d;go_wp2_with (at_builtin;refine wpList_append_lies _ rfl _ _ 54 rfl (F.heap.size+1+1) 117 it _ 5 56 underlying54 aE aK aH aI rfl (by decide) _ _ _ rfl (h1.alloc _) ⟨w7.heap.size,0,none⟩ 1 1 (iy (.slice a4 l.length c4) f) rfl rfl (Dt _ _ _ _ _ (by simp)) ?hone (by omega) (by unfold maxLen;omega) (by omega) (by simp;omega) (w7.heap.size+1) (by simp) ?_)
            case hone =>
             intro z hz;simp[iy]at hz
             rcases hz with rfl|rfl|rfl|rfl|rfl <;> rfl
            intro g9 aC w9 ar ai _ _;have ag:=StM.put (l:=l) (ad.out.step (bY (.cells #[.slice a4 l.length c4,.int .i64 f.first,.int .i64 f.second,.int .i64 f.third,.bool f.varies] 117))) aG
             (fun kk ee he=>by obtain⟨z,hz,aJ⟩:=H2.out kk ee he;exact⟨z,hz,aJ.below (bY _)⟩) (I8.out.below (bY _)) (h1.alloc _) ai ar
            have an:Hid _:=ag;have av:∀ e ∈ b.es++[⟨l,f⟩],e.runes.length<=1048576:=fun e he=>by
             rcases List.mem_append.1 he with h|h
             .exact Nat.le_trans (ez ((ck T.out.good).2.2 e h).1) (by omega)
             .simp at h;subst h;exact Nat.le_trans aA (by omega)
            have GR:=E7 (sh:=b.sh) (lv:=b.lv) ag.en av;have aO:=(ad.out.step (bY (.cells #[.slice a4 l.length c4,.int .i64 f.first,.int .i64 f.second,.int .i64 f.third,.bool f.varies] 117))).rb.upTo (Below.grown (Below.refl (F.heap.size+1+1) _) ai (by unfold mw;simp;omega) (fun j hj=>(World.ownsRow.lt h1 j hj).1)) (Nat.lt_succ_self _);clear u q1 q2 A C E I J K L r t M ag ad H2 I8 h1 ai ar av;obtain⟨⟨aL,aM,aN⟩,⟨u,q1,q2⟩,⟨A,C,E⟩,⟨I,J,K,L⟩,r,t,M⟩:=aO;go_wp2_with fail;refine GR.mono ?_;rintro e bi ⟨rfl,ao⟩;have a1:Hid _:=an.out.step ao;clear u q1 q2 A C E I J K L r t M GR an N O Q U V aL aM aN ao
            cases hgd:bd (b.es++[⟨l,f⟩]) b.lv
            .have p:Hid (R=.error 5):=by show _=_;rw[<- o.out,gm i.out m.out G.out a2 (by rw[H.out,a0,if_neg (by simp[hgd])])]
             have d:=a1.out.be;obtain⟨⟨N,O,Q⟩,⟨u,q1,q2⟩,⟨A,C,E⟩,⟨I,J,K,L⟩,r,t,M⟩:=a1.out.rb;clear o i m G H a0 a1;go_wp2;refine bodyPost_ret (v:=ak 5) ?_ rfl (bq p.out (bp d _ _ _));rw[results_cell_tmp rfl];unfold ak;go_simp
            .have HP:dh b 1 l=.ok { b with es:=b.es++[⟨l,f⟩],last:=f }:=by rw[a0,if_pos hgd]
             have al:Hid (bj (ws.drop (k+1+1)) { b with es:=b.es++[⟨l,f⟩],last:=f }=R):=by show _=_;rw[<- o.out,xy i.out m.out G.out a2 (by rw[H.out];exact HP)]
             have ay:Hid (iu { b with es:=b.es++[⟨l,f⟩],last:=f }):=sj T.out HP;clear o i m G H a0 HP;go_wp2;exact⟨⟨k+1+1,{ b with es:=b.es++[⟨l,f⟩],last:=f },_,aq,by go_num,by show Value.bool true=Value.bool b.reset;rw[hrs],al.out,ay.out,a1.out⟩,by simp[intOf];omega⟩
        .go_wp2_with fail
         refine (am _).mono ?_;rintro e w3 ⟨v3,rfl,i3,b3⟩;have D:=Fl (zs:=(Dec.decT y.size y).1) (by omega) i3;have a8:Hid _:=X.out.step b3;have aj:Hid (F.heap.size+1+1<=w3.heap.size):=by show _<=_;have:=b3.size;omega
         clear am X u q1 q2 A C E r t aQ aD d N O Q b3 i3;go_wp2_with fail;refine D.mono ?_;rintro e w4 ⟨v4,rfl,i4,b4⟩;have a9:Hid _:=a8.out.step b4;have a5:=gd i4 aj.out;clear D a8 b4 aj i4;generalize hl4:nD (Dec.decT y.size y).1=l at *;have H:Hid _:=hl4;clear hl4;obtain⟨a4,c4,rfl⟩:∃ a c,v4=.slice a l.length c:=by
          rcases a5.form with ⟨rfl,rfl⟩|⟨g,az,rfl,_,_⟩
          .exact⟨_,_,rfl⟩
          .exact⟨_,_,rfl⟩
         have RN:=tm (by omega) a5;go_wp2_with fail;refine RN.mono ?_;rintro e Y ⟨rfl,b5⟩;have q:Hid _:=a9.out.step b5;have Z:Hid (aa _ _ _ _):=a5.below b5;clear RN a9 b5 a5
         cases hro:bh l
         .have p:Hid (R=.error 2):=by show _=_;rw[<- o.out,gm i.out m.out G.out a2 (by rw[H.out];exact A3 hro)]
          have d:=q.out.be;obtain⟨⟨N,O,Q⟩,⟨u,q1,q2⟩,⟨A,C,E⟩,⟨I,J,K,L⟩,r,t,M⟩:=q.out.rb;have U:w.heap.size<Y.heap.size:=by omega
          have V:F.heap.size<Y.heap.size:=by omega
          clear o q i m G Z H;go_wp2;refine bodyPost_ret (v:=ak 2) ?_ rfl (bq p.out (bp d _ _ _));rw[results_cell_tmp rfl];unfold ak;go_simp
         .have aA:=ez hro
          have a6:∀ e ∈ b.es,e.runes.length<=1048576:=fun e he=>Nat.le_trans (ez ((ck T.out.good).2.2 e he).1) (by omega)
          have aX:b.es.length<=40:=(ck T.out.good).1
          cases hrs:b.reset
          .have p:Hid (R=.error 3):=by show _=_;rw[<- o.out,gm i.out m.out G.out a2 (by rw[H.out];exact Aw hro (by omega) hrs)]
           have d:=q.out.be;obtain⟨⟨N,O,Q⟩,⟨u,q1,q2⟩,⟨A,C,E⟩,⟨I,J,K,L⟩,r,t,M⟩:=q.out.rb;have U:w.heap.size<Y.heap.size:=by omega
           have V:F.heap.size<Y.heap.size:=by omega
           clear o q i m G Z H a6;go_wp2;refine bodyPost_ret (v:=ak 3) ?_ rfl (bq p.out (bp d _ _ _));rw[results_cell_tmp rfl];unfold ak;go_simp
          .have AT:=rt (sh:=b.sh) (lv:=b.lv) q.out.en Z.out (by omega) (by omega) a6
           clear a6;have d:=q.out.be;obtain⟨⟨N,O,Q⟩,⟨u,q1,q2⟩,⟨A,C,E⟩,⟨I,J,K,L⟩,r,t,M⟩:=q.out.rb;have U:w.heap.size<Y.heap.size:=by omega
           have V:F.heap.size<Y.heap.size:=by omega
           go_wp2_with fail;refine AT.mono ?_;rintro e w6 ⟨rfl,b6⟩;have S:Hid _:=q.out.step b6;have I6:Hid (aa _ _ _ _):=Z.out.below b6;clear u q1 q2 A C E I J K L r t M d N O Q U V;clear AT q Z b6;have d:=S.out.be;obtain⟨⟨N,O,Q⟩,⟨u,q1,q2⟩,⟨A,C,E⟩,⟨I,J,K,L⟩,r,t,M⟩:=S.out.rb;have U:w.heap.size<w6.heap.size:=by omega
           have V:F.heap.size<w6.heap.size:=by omega
           by_cases ap:0<=atE b.es l
           .have p:Hid (R=.error 4):=by show _=_;rw[<- o.out,gm i.out m.out G.out a2 (by rw[H.out];exact Ax hro (by omega) hrs ap)]
            clear o S i m G I6 H;go_wp2;refine bodyPost_ret (v:=ak 4) ?_ rfl (bq p.out (bp d _ _ _));rw[results_cell_tmp rfl];unfold ak;go_simp
           .have BH:=C6 (sh:=b.sh) (lv:=b.lv) (n:=2) S.out.en T.out (by omega)
            have a0:=Et (lev:=2) hro (by omega) hrs ap;obtain⟨f,aB⟩:∃ f,Hid (iw b.es b.last 2=f):=⟨_,rfl⟩
            rw[aB.out]at BH a0;unfold elV at BH;go_wp2_with fail;refine BH.mono ?_;rintro e w7 ⟨rfl,b7⟩;have a3:Hid _:=S.out.step b7;have I7:Hid (aa _ _ _ _):=I6.out.below b7;clear u q1 q2 A C E I J K L r t M d N O Q U V;clear BH S I6 b7;have af:=a3.out.setLast f b.reset;have i8:aa (mw w7 (F.heap.size+1) f) _ _ _:=World.ownsRow.kept I7.out (qu w7 (F.heap.size+1) f) (Eq I7.out bR);have d:=a3.out.be;obtain⟨⟨N,O,Q⟩,⟨u,q1,q2⟩,⟨A,C,E⟩,⟨I,J,K,L⟩,r,t,M⟩:=a3.out.rb;have U:w.heap.size<w7.heap.size:=by omega
            have V:F.heap.size<w7.heap.size:=by omega
            obtain⟨xs,aG,h1,h2⟩:=af.en;have ad:Hid _:=af;have H2:Hid _:=h2;have I8:Hid (aa _ _ _ _):=i8;obtain⟨it,aE,aK,aH,aI⟩:=info_parts Cn;clear a3 I7 af h2 i8 d;go_wp2_with (at_builtin;refine wpList_append_lies _ rfl _ _ 54 rfl (F.heap.size+1+1) 117 it _ 5 56 underlying54 aE aK aH aI rfl (by decide) _ _ _ rfl (h1.alloc _) ⟨w7.heap.size,0,none⟩ 1 1 (iy (.slice a4 l.length c4) f) rfl rfl (Dt _ _ _ _ _ (by simp)) ?hone (by omega) (by unfold maxLen;omega) (by omega) (by simp;omega) (w7.heap.size+1) (by simp) ?_)
            case hone =>
             intro z hz;simp[iy]at hz
             rcases hz with rfl|rfl|rfl|rfl|rfl <;> rfl
            intro g9 aC w9 ar ai _ _;have ag:=StM.put (l:=l) (ad.out.step (bY (.cells #[.slice a4 l.length c4,.int .i64 f.first,.int .i64 f.second,.int .i64 f.third,.bool f.varies] 117))) aG
             (fun kk ee he=>by obtain⟨z,hz,aJ⟩:=H2.out kk ee he;exact⟨z,hz,aJ.below (bY _)⟩) (I8.out.below (bY _)) (h1.alloc _) ai ar
            have an:Hid _:=ag;have av:∀ e ∈ b.es++[⟨l,f⟩],e.runes.length<=1048576:=fun e he=>by
             rcases List.mem_append.1 he with h|h
             .exact Nat.le_trans (ez ((ck T.out.good).2.2 e h).1) (by omega)
             .simp at h;subst h;exact Nat.le_trans aA (by omega)
            have GR:=E7 (sh:=b.sh) (lv:=b.lv) ag.en av;have aO:=(ad.out.step (bY (.cells #[.slice a4 l.length c4,.int .i64 f.first,.int .i64 f.second,.int .i64 f.third,.bool f.varies] 117))).rb.upTo (Below.grown (Below.refl (F.heap.size+1+1) _) ai (by unfold mw;simp;omega) (fun j hj=>(World.ownsRow.lt h1 j hj).1)) (Nat.lt_succ_self _);clear u q1 q2 A C E I J K L r t M ag ad H2 I8 h1 ai ar av;obtain⟨⟨aL,aM,aN⟩,⟨u,q1,q2⟩,⟨A,C,E⟩,⟨I,J,K,L⟩,r,t,M⟩:=aO;go_wp2_with fail;refine GR.mono ?_;rintro e bi ⟨rfl,ao⟩;have a1:Hid _:=an.out.step ao;clear u q1 q2 A C E I J K L r t M GR an N O Q U V aL aM aN ao
            cases hgd:bd (b.es++[⟨l,f⟩]) b.lv
            .have p:Hid (R=.error 5):=by show _=_;rw[<- o.out,gm i.out m.out G.out a2 (by rw[H.out,a0,if_neg (by simp[hgd])])]
             have d:=a1.out.be;obtain⟨⟨N,O,Q⟩,⟨u,q1,q2⟩,⟨A,C,E⟩,⟨I,J,K,L⟩,r,t,M⟩:=a1.out.rb;clear o i m G H a0 a1;go_wp2;refine bodyPost_ret (v:=ak 5) ?_ rfl (bq p.out (bp d _ _ _));rw[results_cell_tmp rfl];unfold ak;go_simp
            .have HP:dh b 2 l=.ok { b with es:=b.es++[⟨l,f⟩],last:=f }:=by rw[a0,if_pos hgd]
             have al:Hid (bj (ws.drop (k+1+1)) { b with es:=b.es++[⟨l,f⟩],last:=f }=R):=by show _=_;rw[<- o.out,xy i.out m.out G.out a2 (by rw[H.out];exact HP)]
             have ay:Hid (iu { b with es:=b.es++[⟨l,f⟩],last:=f }):=sj T.out HP;clear o i m G H a0 HP;go_wp2;exact⟨⟨k+1+1,{ b with es:=b.es++[⟨l,f⟩],last:=f },_,aq,by go_num,by show Value.bool true=Value.bool b.reset;rw[hrs],al.out,ay.out,a1.out⟩,by simp[intOf];omega⟩
        .go_wp2_with fail
         refine (am _).mono ?_;rintro e w3 ⟨v3,rfl,i3,b3⟩;have D:=Fl (zs:=(Dec.decT y.size y).1) (by omega) i3;have a8:Hid _:=X.out.step b3;have aj:Hid (F.heap.size+1+1<=w3.heap.size):=by show _<=_;have:=b3.size;omega
         clear am X u q1 q2 A C E r t aQ aD d N O Q b3 i3;go_wp2_with fail;refine D.mono ?_;rintro e w4 ⟨v4,rfl,i4,b4⟩;have a9:Hid _:=a8.out.step b4;have a5:=gd i4 aj.out;clear D a8 b4 aj i4;generalize hl4:nD (Dec.decT y.size y).1=l at *;have H:Hid _:=hl4;clear hl4;obtain⟨a4,c4,rfl⟩:∃ a c,v4=.slice a l.length c:=by
          rcases a5.form with ⟨rfl,rfl⟩|⟨g,az,rfl,_,_⟩
          .exact⟨_,_,rfl⟩
          .exact⟨_,_,rfl⟩
         have RN:=tm (by omega) a5;go_wp2_with fail;refine RN.mono ?_;rintro e Y ⟨rfl,b5⟩;have q:Hid _:=a9.out.step b5;have Z:Hid (aa _ _ _ _):=a5.below b5;clear RN a9 b5 a5
         cases hro:bh l
         .have p:Hid (R=.error 2):=by show _=_;rw[<- o.out,gm i.out m.out G.out a2 (by rw[H.out];exact A3 hro)]
          have d:=q.out.be;obtain⟨⟨N,O,Q⟩,⟨u,q1,q2⟩,⟨A,C,E⟩,⟨I,J,K,L⟩,r,t,M⟩:=q.out.rb;have U:w.heap.size<Y.heap.size:=by omega
          have V:F.heap.size<Y.heap.size:=by omega
          clear o q i m G Z H;go_wp2;refine bodyPost_ret (v:=ak 2) ?_ rfl (bq p.out (bp d _ _ _));rw[results_cell_tmp rfl];unfold ak;go_simp
         .have aA:=ez hro
          have a6:∀ e ∈ b.es,e.runes.length<=1048576:=fun e he=>Nat.le_trans (ez ((ck T.out.good).2.2 e he).1) (by omega)
          have aX:b.es.length<=40:=(ck T.out.good).1
          cases hrs:b.reset
          .have p:Hid (R=.error 3):=by show _=_;rw[<- o.out,gm i.out m.out G.out a2 (by rw[H.out];exact Aw hro (by omega) hrs)]
           have d:=q.out.be;obtain⟨⟨N,O,Q⟩,⟨u,q1,q2⟩,⟨A,C,E⟩,⟨I,J,K,L⟩,r,t,M⟩:=q.out.rb;have U:w.heap.size<Y.heap.size:=by omega
           have V:F.heap.size<Y.heap.size:=by omega
           clear o q i m G Z H a6;go_wp2;refine bodyPost_ret (v:=ak 3) ?_ rfl (bq p.out (bp d _ _ _));rw[results_cell_tmp rfl];unfold ak;go_simp
          .have AT:=rt (sh:=b.sh) (lv:=b.lv) q.out.en Z.out (by omega) (by omega) a6
           clear a6;have d:=q.out.be;obtain⟨⟨N,O,Q⟩,⟨u,q1,q2⟩,⟨A,C,E⟩,⟨I,J,K,L⟩,r,t,M⟩:=q.out.rb;have U:w.heap.size<Y.heap.size:=by omega
           have V:F.heap.size<Y.heap.size:=by omega
           go_wp2_with fail;refine AT.mono ?_;rintro e w6 ⟨rfl,b6⟩;have S:Hid _:=q.out.step b6;have I6:Hid (aa _ _ _ _):=Z.out.below b6;clear u q1 q2 A C E I J K L r t M d N O Q U V;clear AT q Z b6;have d:=S.out.be;obtain⟨⟨N,O,Q⟩,⟨u,q1,q2⟩,⟨A,C,E⟩,⟨I,J,K,L⟩,r,t,M⟩:=S.out.rb;have U:w.heap.size<w6.heap.size:=by omega
           have V:F.heap.size<w6.heap.size:=by omega
           by_cases ap:0<=atE b.es l
           .have p:Hid (R=.error 4):=by show _=_;rw[<- o.out,gm i.out m.out G.out a2 (by rw[H.out];exact Ax hro (by omega) hrs ap)]
            clear o S i m G I6 H;go_wp2;refine bodyPost_ret (v:=ak 4) ?_ rfl (bq p.out (bp d _ _ _));rw[results_cell_tmp rfl];unfold ak;go_simp
           .have BH:=C6 (sh:=b.sh) (lv:=b.lv) (n:=3) S.out.en T.out (by omega)
            have a0:=Et (lev:=3) hro (by omega) hrs ap;obtain⟨f,aB⟩:∃ f,Hid (iw b.es b.last 3=f):=⟨_,rfl⟩
            rw[aB.out]at BH a0;unfold elV at BH;go_wp2_with fail;refine BH.mono ?_;rintro e w7 ⟨rfl,b7⟩;have a3:Hid _:=S.out.step b7;have I7:Hid (aa _ _ _ _):=I6.out.below b7;clear u q1 q2 A C E I J K L r t M d N O Q U V;clear BH S I6 b7;have af:=a3.out.setLast f b.reset;have i8:aa (mw w7 (F.heap.size+1) f) _ _ _:=World.ownsRow.kept I7.out (qu w7 (F.heap.size+1) f) (Eq I7.out bR);have d:=a3.out.be;obtain⟨⟨N,O,Q⟩,⟨u,q1,q2⟩,⟨A,C,E⟩,⟨I,J,K,L⟩,r,t,M⟩:=a3.out.rb;have U:w.heap.size<w7.heap.size:=by omega
            have V:F.heap.size<w7.heap.size:=by omega
            obtain⟨xs,aG,h1,h2⟩:=af.en;have ad:Hid _:=af;have H2:Hid _:=h2;have I8:Hid (aa _ _ _ _):=i8;obtain⟨it,aE,aK,aH,aI⟩:=info_parts Cn;clear a3 I7 af h2 i8 d;go_wp2_with (at_builtin;refine wpList_append_lies _ rfl _ _ 54 rfl (F.heap.size+1+1) 117 it _ 5 56 underlying54 aE aK aH aI rfl (by decide) _ _ _ rfl (h1.alloc _) ⟨w7.heap.size,0,none⟩ 1 1 (iy (.slice a4 l.length c4) f) rfl rfl (Dt _ _ _ _ _ (by simp)) ?hone (by omega) (by unfold maxLen;omega) (by omega) (by simp;omega) (w7.heap.size+1) (by simp) ?_)
            case hone =>
             intro z hz;simp[iy]at hz
             rcases hz with rfl|rfl|rfl|rfl|rfl <;> rfl
            intro g9 aC w9 ar ai _ _;have ag:=StM.put (l:=l) (ad.out.step (bY (.cells #[.slice a4 l.length c4,.int .i64 f.first,.int .i64 f.second,.int .i64 f.third,.bool f.varies] 117))) aG
             (fun kk ee he=>by obtain⟨z,hz,aJ⟩:=H2.out kk ee he;exact⟨z,hz,aJ.below (bY _)⟩) (I8.out.below (bY _)) (h1.alloc _) ai ar
            have an:Hid _:=ag;have av:∀ e ∈ b.es++[⟨l,f⟩],e.runes.length<=1048576:=fun e he=>by
             rcases List.mem_append.1 he with h|h
             .exact Nat.le_trans (ez ((ck T.out.good).2.2 e h).1) (by omega)
             .simp at h;subst h;exact Nat.le_trans aA (by omega)
            have GR:=E7 (sh:=b.sh) (lv:=b.lv) ag.en av;have aO:=(ad.out.step (bY (.cells #[.slice a4 l.length c4,.int .i64 f.first,.int .i64 f.second,.int .i64 f.third,.bool f.varies] 117))).rb.upTo (Below.grown (Below.refl (F.heap.size+1+1) _) ai (by unfold mw;simp;omega) (fun j hj=>(World.ownsRow.lt h1 j hj).1)) (Nat.lt_succ_self _);clear u q1 q2 A C E I J K L r t M ag ad H2 I8 h1 ai ar av;obtain⟨⟨aL,aM,aN⟩,⟨u,q1,q2⟩,⟨A,C,E⟩,⟨I,J,K,L⟩,r,t,M⟩:=aO;go_wp2_with fail;refine GR.mono ?_;rintro e bi ⟨rfl,ao⟩;have a1:Hid _:=an.out.step ao;clear u q1 q2 A C E I J K L r t M GR an N O Q U V aL aM aN ao
            cases hgd:bd (b.es++[⟨l,f⟩]) b.lv
            .have p:Hid (R=.error 5):=by show _=_;rw[<- o.out,gm i.out m.out G.out a2 (by rw[H.out,a0,if_neg (by simp[hgd])])]
             have d:=a1.out.be;obtain⟨⟨N,O,Q⟩,⟨u,q1,q2⟩,⟨A,C,E⟩,⟨I,J,K,L⟩,r,t,M⟩:=a1.out.rb;clear o i m G H a0 a1;go_wp2;refine bodyPost_ret (v:=ak 5) ?_ rfl (bq p.out (bp d _ _ _));rw[results_cell_tmp rfl];unfold ak;go_simp
            .have HP:dh b 3 l=.ok { b with es:=b.es++[⟨l,f⟩],last:=f }:=by rw[a0,if_pos hgd]
             have al:Hid (bj (ws.drop (k+1+1)) { b with es:=b.es++[⟨l,f⟩],last:=f }=R):=by show _=_;rw[<- o.out,xy i.out m.out G.out a2 (by rw[H.out];exact HP)]
             have ay:Hid (iu { b with es:=b.es++[⟨l,f⟩],last:=f }):=sj T.out HP;clear o i m G H a0 HP;go_wp2;exact⟨⟨k+1+1,{ b with es:=b.es++[⟨l,f⟩],last:=f },_,aq,by go_num,by show Value.bool true=Value.bool b.reset;rw[hrs],al.out,ay.out,a1.out⟩,by simp[intOf];omega⟩
      .have p:Hid (R=.error 2):=by show _=_;rw[<- a7.out,Oi (by omega),Yd i.out m.out G.out]
       have he:((k:Int)+1 == (ws.length:Int))=true:=by simp;omega
       clear a7 X i m G;rcases aW with ⟨_,d0⟩|⟨_,d0,d1⟩|⟨_,d0,d1,d2⟩|⟨_,d0,d1,d2,d3⟩
       .go_wp2
        refine bodyPost_ret (v:=ak 2) ?_ rfl (bq p.out (bp d _ _ _));rw[results_cell_tmp rfl];unfold ak;go_simp
       .go_wp2
        refine bodyPost_ret (v:=ak 2) ?_ rfl (bq p.out (bp d _ _ _));rw[results_cell_tmp rfl];unfold ak;go_simp
       .go_wp2
        refine bodyPost_ret (v:=ak 2) ?_ rfl (bq p.out (bp d _ _ _));rw[results_cell_tmp rfl];unfold ak;go_simp
       .go_wp2
        refine bodyPost_ret (v:=ak 2) ?_ rfl (bq p.out (bp d _ _ _));rw[results_cell_tmp rfl];unfold ak;go_simp
    .have i:Hid _:=c1
     have m:Hid _:=c2;unfold ki at c1;unfold kl at c2;by_cases aq:k+1<ws.length
     .obtain⟨y,hy⟩:∃ y,ws[k+1]? = some y:=⟨_,List.getElem?_eq_getElem aq⟩
      have aD:=X.out.sr.cell (k+1) y hy;have o:Hid (bj (x::y::ws.drop (k+1+1)) b=R):=by show _=_;rw[<- Kr hy];exact a7.out
      have he:((k:Int)+1 == (ws.length:Int))=false:=by simp;omega
      have bn:(k:Int)+1<(ws.length:Int):=by omega
      clear hy a7;by_cases z0:y.size=2
      .have br:((y.size:Int) != 2)=false:=by simp;omega
       have y0:0<y.size:=by omega
       have y1:1<y.size:=by omega
       have E0:=Dec.bt_get y 0 y0;have E1:=Dec.bt_get y 1 y1;have i3:(y[0]'y0).toNat<256:=(y[0]'y0).toNat_lt;have i4:(y[1]'y1).toNat<256:=(y[1]'y1).toNat_lt;by_cases z1:49<=Dec.bt y 0
       .have i0:¬ ((y[0]'y0).toNat:Int)<49:=by omega
        by_cases z2:Dec.bt y 0<=52
        .have i1:¬ (52:Int)<((y[0]'y0).toNat:Int):=by omega
         by_cases z3:Dec.bt y 1=93
         .have aZ:=al6 ⟨z0,z1,z2,z3⟩
          rw[<- E0]at aZ;have al:Hid (bj (ws.drop (k+1+1)) { b with lv:=((y[0]'y0).toNat:Int)-48 }=R):=by show _=_;rw[<- o.out,Yb i.out m.out aZ]
          have i2:(((y[1]'y1).toNat:Int) != 93)=false:=by simp;omega
          have aS:Hid _:=X.out.setLv (((y[0]'y0).toNat:Int)-48);have bo:Hid (1<=((y[0]'y0).toNat:Int)-48/\((y[0]'y0).toNat:Int)-48<=4):=by show _/\_;omega
          clear o z1 z2 z3 E0 E1 aZ X d i m;go_wp2;exact⟨⟨k+1+1,{ b with lv:=((y[0]'y0).toNat:Int)-48 },_,aq,by go_num,rfl,al.out,⟨D7 T.out.good bo.out,T.out.f0,T.out.f1,T.out.s0,T.out.s1,T.out.t0,T.out.t1⟩,aS.out⟩,by simp[intOf];omega⟩
         .have p:Hid (R=.error 2):=by show _=_;rw[<- o.out,xx i.out m.out (Fq fun h=>z3 h.2.2.2)]
          have i2:(((y[1]'y1).toNat:Int) != 93)=true:=by simp;omega
          clear o z1 z2 z3 E0 E1 X i m;go_wp2;refine bodyPost_ret (v:=ak 2) ?_ rfl (bq p.out (bp d _ _ _));rw[results_cell_tmp rfl];unfold ak;go_simp
        .have p:Hid (R=.error 2):=by show _=_;rw[<- o.out,xx i.out m.out (Fq fun h=>z2 h.2.2.1)]
         have i1:(52:Int)<((y[0]'y0).toNat:Int):=by omega
         clear o z1 z2 E0 E1 X i m;go_wp2;refine bodyPost_ret (v:=ak 2) ?_ rfl (bq p.out (bp d _ _ _));rw[results_cell_tmp rfl];unfold ak;go_simp
       .have p:Hid (R=.error 2):=by show _=_;rw[<- o.out,xx i.out m.out (Fq fun h=>z1 h.2.1)]
        have i0:((y[0]'y0).toNat:Int)<49:=by omega
        clear o z1 E0 E1 X i m;go_wp2;refine bodyPost_ret (v:=ak 2) ?_ rfl (bq p.out (bp d _ _ _));rw[results_cell_tmp rfl];unfold ak;go_simp
      .have p:Hid (R=.error 2):=by show _=_;rw[<- o.out,xx i.out m.out (Fq fun h=>z0 h.1)]
       have br:((y.size:Int) != 2)=true:=by simp;omega
       clear o z0 X i m;go_wp2;refine bodyPost_ret (v:=ak 2) ?_ rfl (bq p.out (bp d _ _ _));rw[results_cell_tmp rfl];unfold ak;go_simp
     .have p:Hid (R=.error 2):=by show _=_;rw[<- a7.out,Oi (by omega),Ya i.out m.out]
      have he:((k:Int)+1 == (ws.length:Int))=true:=by simp;omega
      clear a7 X i m;go_wp2;refine bodyPost_ret (v:=ak 2) ?_ rfl (bq p.out (bp d _ _ _));rw[results_cell_tmp rfl];unfold ak;go_simp
   .have bl:Hid (bj (ws.drop (k+1)) { b with sh:=true }=R):=by
     show _=_
     rw[<- a7.out,Ti c1]
    unfold ki at c1;have aS:Hid _:=X.out.setSh true;clear a7 X d;go_wp2;exact⟨⟨k+1,{ b with sh:=true },_,aY,by go_num,rfl,bl.out,⟨T.out.good,T.out.f0,T.out.f1,T.out.s0,T.out.s1,T.out.t0,T.out.t1⟩,aS.out⟩,by simp[intOf];omega⟩
  .have bm:k=ws.length:=by omega
   subst bm;have HA:Hid (R=.ok b):=by show _=_;rw[<- HR.out,List.drop_length,aa3]
   have ba:=((((X.out.en.grown (au wr w.heap.size 0 (.slice ae b.es.length ce)) (by omega)).grown (au _ w.heap.size 1 (.bool b.sh)) (by omega)).grown (au _ w.heap.size 2 (.int .i64 b.lv)) (by omega))).low (B:=w.heap.size) (by omega);have bk:Hid (ac _ _ _ _):=ba;clear HR ba X;go_wp2;refine bodyPost_ret (v:=.tuple #[.agg #[.slice ae b.es.length ce,.bool b.sh,.int .i64 b.lv],.int .i64 0]) ?_ rfl ⟨_,by rw[HA.out];rfl,by rw[HA.out];exact bk.out,bp d _ _ _⟩;rw[results_cell_tmp rfl];go_simp
theorem Qe (s:ByteArray) (w:World) (a:s.size<=1073741824):Calls prog 23 #[.string s] w fun e w'=>Ip w (ab s) e w':=by
 by_cases h:300<s.size
 .exact aa4 s w h a
 .exact Yf s w (by omega)
end Go.Proofs.YtjbmgghehdemdaaGreatDoor
