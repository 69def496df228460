/- RdBox -/
import Derived.Test.YtjbmgghehdemdaaGreatDoorMR13
import Derived.Test.YtjbmgghehdemdaaGreatDoorMR24
namespace Go.Proofs.YtjbmgghehdemdaaGreatDoor
set_option maxRecDepth 100000
set_option maxHeartbeats 16000000
open _root_.Go.Proofs.Tryz
open Go.RowKit
structure RB (u:World) (b2 br bl:Nat) (vE:Value) (sh:Bool) (lv:Int) (e:El):Prop where
 lt:b2<br/\br<bl/\bl<u.heap.size
 res:u.cell? ⟨b2,0,none⟩=some (.slice none 0 0)/\u.cell? ⟨b2,1,none⟩=some (.bool false)/\u.cell? ⟨b2,2,none⟩=some (.int .i64 0)
 rules:u.cell? ⟨br,0,none⟩=some vE/\u.cell? ⟨br,1,none⟩=some (.bool sh)/\u.cell? ⟨br,2,none⟩=some (.int .i64 lv)
 last:u.cell? ⟨bl,0,none⟩=some (.int .i64 e.first)/\u.cell? ⟨bl,1,none⟩=some (.int .i64 e.second)/\u.cell? ⟨bl,2,none⟩=some (.int .i64 e.third)/\u.cell? ⟨bl,3,none⟩=some (.bool e.varies)
 free:(∀ j,u.frozen? ⟨b2,j,none⟩=false)/\(∀ j,u.frozen? ⟨br,j,none⟩=false)/\∀ j,u.frozen? ⟨bl,j,none⟩=false
theorem RB.upTo {u u':World} {c f d B:Nat} {vE:Value} {sh:Bool} {lv:Int} {e:El}(h:RB u c f d vE sh lv e) (a:Below B u u') (b:d<B):RB u' c f d vE sh lv e:=by
 obtain⟨⟨w,x,y⟩,⟨k,l,m⟩,⟨z,A,C⟩,⟨n,o,q,r⟩,s,t,v⟩:=h;have g:c<B:=by omega
 have i:f<B:=by omega
 exact⟨⟨w,x,Nat.lt_of_lt_of_le y a.size⟩,⟨by rw[a.cell g];exact k,by rw[a.cell g];exact l,by rw[a.cell g];exact m⟩,⟨by rw[a.cell i];exact z,by rw[a.cell i];exact A,by rw[a.cell i];exact C⟩,
  ⟨by rw[a.cell b];exact n,by rw[a.cell b];exact o,by rw[a.cell b];exact q,by rw[a.cell b];exact r⟩,fun j=>by rw[a.frozen (p:=⟨c,j,none⟩) g];exact s j,fun j=>by rw[a.frozen (p:=⟨f,j,none⟩) i];exact t j,fun j=>by rw[a.frozen (p:=⟨d,j,none⟩) b];exact v j⟩
theorem RB.below {u u':World} {a c b:Nat} {vE:Value} {sh:Bool} {lv:Int} {e:El}(h:RB u a c b vE sh lv e) (d:Below u.heap.size u u'):RB u' a c b vE sh lv e:=h.upTo d h.lt.2.2
theorem RB.setE {u:World} {b a c:Nat} {vE:Value} {sh:Bool} {lv:Int} {e:El}(h:RB u b a c vE sh lv e) (v:Value):RB (u.setCell ⟨a,0,none⟩ v) b a c v sh lv e:=by
 obtain⟨⟨q,r,s⟩,⟨d,f,g⟩,⟨t,w,x⟩,⟨i,k,l,m⟩,n,o,p⟩:=h;exact⟨⟨q,r,by simpa using s⟩,⟨by rw[de (by omega)];exact d,by rw[de (by omega)];exact f,by rw[de (by omega)];exact g⟩,
  ⟨Ae t,by rw[de (by omega)];exact w,by rw[de (by omega)];exact x⟩,
  ⟨by rw[de (by omega)];exact i,by rw[de (by omega)];exact k,by rw[de (by omega)];exact l,by rw[de (by omega)];exact m⟩,
  fun j=>by rw[World.frozen?_setCell];exact n j,fun j=>by rw[World.frozen?_setCell];exact o j,fun j=>by rw[World.frozen?_setCell];exact p j⟩
theorem RB.setSh {u:World} {c a d:Nat} {vE:Value} {sh:Bool} {lv:Int} {e:El}(h:RB u c a d vE sh lv e) (b:Bool):RB (u.setCell ⟨a,1,none⟩ (.bool b)) c a d vE b lv e:=by
 obtain⟨⟨r,s,t⟩,⟨f,g,i⟩,⟨v,w,x⟩,⟨k,l,m,n⟩,o,p,q⟩:=h;exact⟨⟨r,s,by simpa using t⟩,⟨by rw[de (by omega)];exact f,by rw[de (by omega)];exact g,by rw[de (by omega)];exact i⟩,
  ⟨by rw[de (by omega)];exact v,Ae w,by rw[de (by omega)];exact x⟩,
  ⟨by rw[de (by omega)];exact k,by rw[de (by omega)];exact l,by rw[de (by omega)];exact m,by rw[de (by omega)];exact n⟩,
  fun j=>by rw[World.frozen?_setCell];exact o j,fun j=>by rw[World.frozen?_setCell];exact p j,fun j=>by rw[World.frozen?_setCell];exact q j⟩
theorem RB.setLv {u:World} {b a c:Nat} {vE:Value} {sh:Bool} {lv:Int} {e:El}(h:RB u b a c vE sh lv e) (n:Int):RB (u.setCell ⟨a,2,none⟩ (.int .i64 n)) b a c vE sh n e:=by
 obtain⟨⟨r,s,t⟩,⟨d,f,g⟩,⟨v,w,x⟩,⟨i,k,l,m⟩,o,p,q⟩:=h;exact⟨⟨r,s,by simpa using t⟩,⟨by rw[de (by omega)];exact d,by rw[de (by omega)];exact f,by rw[de (by omega)];exact g⟩,
  ⟨by rw[de (by omega)];exact v,by rw[de (by omega)];exact w,Ae x⟩,
  ⟨by rw[de (by omega)];exact i,by rw[de (by omega)];exact k,by rw[de (by omega)];exact l,by rw[de (by omega)];exact m⟩,
  fun j=>by rw[World.frozen?_setCell];exact o j,fun j=>by rw[World.frozen?_setCell];exact p j,fun j=>by rw[World.frozen?_setCell];exact q j⟩
theorem RB.setLast {u:World} {b c a:Nat} {vE:Value} {sh:Bool} {lv:Int} {e:El}(h:RB u b c a vE sh lv e) (x:El):RB (mb u a x) b c a vE sh lv x:=by
 obtain⟨⟨t,v,w⟩,⟨d,f,g⟩,⟨y,z,A⟩,⟨i,k,l,m⟩,n,o,p⟩:=h;refine⟨⟨t,v,by unfold mb;simpa using w⟩,⟨by rw[qs (by omega)];exact d,by rw[qs (by omega)];exact f,by rw[qs (by omega)];exact g⟩,
  ⟨by rw[qs (by omega)];exact y,by rw[qs (by omega)];exact z,by rw[qs (by omega)];exact A⟩,?_,
  fun j=>by unfold mb;simpa using n j,fun j=>by unfold mb;simpa using o j,fun j=>by unfold mb;simpa using p j⟩
 unfold mb;have q:(u.setCell ⟨a,0,none⟩ (.int .i64 x.first)).cell? ⟨a,1,none⟩=some (.int .i64 e.second):=by rw[de (by omega)];exact k
 have r:((u.setCell ⟨a,0,none⟩ (.int .i64 x.first)).setCell ⟨a,1,none⟩ (.int .i64 x.second)).cell? ⟨a,2,none⟩=some (.int .i64 e.third):=by rw[de (by omega),de (by omega)];exact l
 have s:(((u.setCell ⟨a,0,none⟩ (.int .i64 x.first)).setCell ⟨a,1,none⟩ (.int .i64 x.second)).setCell ⟨a,2,none⟩ (.int .i64 x.third)).cell? ⟨a,3,none⟩=some (.bool e.varies):=by rw[de (by omega),de (by omega),de (by omega)];exact m
 refine⟨?_,?_,?_,?_⟩
 .rw[de (by omega),de (by omega),de (by omega)]
  exact Ae i
 .rw[de (by omega),de (by omega)]
  exact Ae q
 .rw[de (by omega)]
  exact Ae r
 .exact Ae s
theorem ak.grown {u u':World} {B:Nat} {row:Option Nat} {v:Value} {ss:List ByteArray}(h:ak u B v ss) (d:u.grownBy u' row) (a:∀ g b,v.ownBlock=some g->row=some b->g≠b):ak u' B v ss :=
 World.ownsRow.kept h d (by
  cases e:v.ownBlock with
  | none=>exact .inl rfl
  | some g=>exact .inr fun c=>a g g e c.symm rfl)
structure StM (w u:World) (ws:List ByteArray) (vw:Value) (br bl:Nat) (st:RS) (vE:Value):Prop where
 rb:RB u w.heap.size br bl vE st.sh st.lv st.last
 en:ac u (bl+1) vE st.es
 sr:ak u (w.heap.size+1) vw ws
 vl:∀ g,vw.ownBlock=some g->g<br
 be:Below w.heap.size w u
theorem StM.step {w u u':World} {e:List ByteArray} {d:Value} {c b:Nat} {st:RS} {vE:Value}(h:StM w u e d c b st vE) (a:Below u.heap.size u u'):StM w u' e d c b st vE :=
 ⟨h.rb.below a,h.en.below a,h.sr.below a,h.vl,h.be.trans (a.mono h.be.size)⟩
theorem StM.setSh {w u:World} {e:List ByteArray} {d:Value} {a c:Nat} {st:RS} {vE:Value}(h:StM w u e d a c st vE) (b:Bool):StM w (u.setCell ⟨a,1,none⟩ (.bool b)) e d a c { st with sh:=b } vE:=by
 have f:=h.rb.lt;exact⟨h.rb.setSh b,h.en.grown (au u a 1 _) (by omega),h.sr.grown (au u a 1 _) (fun g b' h1 h2=>by cases h2;have:=h.vl g h1;omega),h.vl,h.be.setCell (Nat.le_of_lt f.1) _⟩
theorem StM.setLv {w u:World} {d:List ByteArray} {c:Value} {a b:Nat} {st:RS} {vE:Value}(h:StM w u d c a b st vE) (n:Int):StM w (u.setCell ⟨a,2,none⟩ (.int .i64 n)) d c a b { st with lv:=n } vE:=by
 have e:=h.rb.lt;exact⟨h.rb.setLv n,h.en.grown (au u a 2 _) (by omega),h.sr.grown (au u a 2 _) (fun g b' h1 h2=>by cases h2;have:=h.vl g h1;omega),h.vl,h.be.setCell (Nat.le_of_lt e.1) _⟩
theorem StM.setLast {w u:World} {d:List ByteArray} {c:Value} {b a:Nat} {st:RS} {vE:Value}(h:StM w u d c b a st vE) (x:El) (r:Bool):StM w (mb u a x) d c b a { st with last:=x,reset:=r } vE:=by
 have e:=h.rb.lt;exact⟨h.rb.setLast x,h.en.grown (pz u a x) (by omega),h.sr.grown (pz u a x) (fun g b' h1 h2=>by cases h2;have:=h.vl g h1;omega),h.vl,Q6 h.be (by omega) x⟩
theorem Ab {w:World} {B:Nat} {v:Value} {st:RS} {sh:Bool} {lv:Int} {n:Nat}(b:ac w B v st.es) (hi:gj st) (h:n=1\/n=2\/n=3) :
  Calls prog 58 #[.agg #[v,.bool sh,.int .i64 lv],.agg #[.int .i64 st.last.first,.int .i64 st.last.second,.int .i64 st.last.third,.bool st.last.varies],.int .i64 (n:Int)] w fun x w'=>x=.returned (elV (gk st.es st.last n))/\Below w.heap.size w w':=by
 obtain⟨c,d,a⟩:=cg hi.good;rcases h with rfl|rfl|rfl
 .exact Q0 b (by omega) (fun e he=>(a e he).2.1.2) hi.f0 hi.f1
 .exact Q1 b c (fun e he=>(a e he).2.2.1.2) hi.s0 hi.s1
 .exact Q2 b c (fun e he=>(a e he).2.2.2.1.2) hi.t0 hi.t1
theorem StM.put {w u u':World} {m:List ByteArray} {i:Value} {c a g cap:Nat} {st:RS} {vE vl:Value} {l:List Int} {xs:List Value}(h:StM w u m i c a st vE) (r:xs.length=st.es.length)
  (h2:∀ (k:Nat) (e:Ent),st.es[k]? = some e->∃ x,xs[k]? = some x/\ab u (a+1) x e.runes) (q:ab u (a+1) vl l)
  (h1:u.ownsRow (a+1) 117 5 vE st.es.length (eu xs st.es)) (d:u.grownBy u' vE.ownBlock)
  (s:u'.ownsRow (a+1) 117 5 (.slice (some ⟨g,0,none⟩) (st.es.length+1) cap) (st.es.length+1) (eu xs st.es++gm vl st.last)) :
  StM w (u'.setCell ⟨c,0,none⟩ (.slice (some ⟨g,0,none⟩) (st.es.length+1) cap)) m i c a { st with es:=st.es++[⟨l,st.last⟩] } (.slice (some ⟨g,0,none⟩) (st.es.length+1) cap):=by
 have o:=h.rb.lt;have f:∀ j,vE.ownBlock=some j->a+1<=j:=fun j hj=>(World.ownsRow.lt h1 j hj).1
 have n:Below (a+1) u u':=Below.grown (Below.refl (a+1) u) d (by omega) f;have p:ac u' (a+1) (.slice (some ⟨g,0,none⟩) (st.es.length+1) cap) (st.es++[⟨l,st.last⟩]):=ac.snoc (e:=⟨l,st.last⟩) r h2 q h1 d s;refine⟨(h.rb.upTo n (Nat.lt_succ_self _)).setE _,p.grown (au u' c 0 _) (by omega),(h.sr.grown d (fun g b h3 h4=>by have:=h.vl g h3;have:=f b h4;omega)).grown (au u' c 0 _) (fun g b' h1 h2=>by cases h2;have:=h.vl g h1;omega),h.vl,?_⟩;exact (Below.grown h.be d h.be.size (fun j hj=>by have:=f j hj;omega)).setCell (Nat.le_of_lt o.1) _
def az2 (w:World) (ws:List ByteArray) (vw:Value) (br bl:Nat) (ans:Except Int RS) (rv iv:Value) (wr:World):Prop :=
 ∃ (k:Nat) (st:RS) (vE:Value),k<=ws.length/\iv=.int .i64 k/\rv=.bool st.reset/\bf (ws.drop k) st=ans/\gj st/\StM w wr ws vw br bl st vE
theorem b07 (w:World) (o:Obj):(w.alloc o).heap.size=w.heap.size+1:=by simp
def aj (c:Int):Value:=.tuple #[.agg #[.slice none 0 0,.bool false,.int .i64 0],.int .i64 c]
theorem bm {w wr:World}(h:Below w.heap.size w wr) (x y z:Value):Below w.heap.size w (((wr.setCell ⟨w.heap.size,0,none⟩ x).setCell ⟨w.heap.size,1,none⟩ y).setCell ⟨w.heap.size,2,none⟩ z) :=
 ((h.setCell bR _).setCell bR _).setCell bR _
def Gi (w:World) (a:RA) (e:Ending) (w':World):Prop :=
 ∃ vE,e=.returned (.tuple #[.agg #[vE,.bool a.sh,.int .i64 a.lv],.int .i64 a.code])/\ac w' w.heap.size vE a.es/\Below w.heap.size w w'
theorem bn {w wr:World} {a:Except Int RS} {c:Int}(h:a=.error c) (b:Below w.heap.size w wr):Gi w (Wc a) (.returned (aj c)) wr:=by
 subst h;exact⟨_,rfl,ac.nil _ _,b⟩
theorem a24 (s:ByteArray) (w:World) (h:300<s.size) (c:s.size<=1073741824):Calls prog 23 #[.string s] w fun e w'=>Gi w (aa s) e w':=by
 have b:(300:Int)<(s.size:Int):=by omega
 have a:aa s=⟨[],false,0,1⟩:=if_pos h;rw[a];go_enter func23,ntmps23;go_wp2;refine bodyPost_ret (v:=aj 1) ?_ rfl ⟨_,rfl,ac.nil _ _,bY _⟩;rw[results_cell_tmp rfl];unfold aj;go_simp
theorem a16 (w:World):Calls prog 54 #[] w fun e w'=>e=.returned (.agg #[.slice none 0 0,.bool false,.int .i64 3])/\Below w.heap.size w w':=by
 go_enter func54,ntmps54;go_wp2;refine bodyPost_ret (v:=.agg #[.slice none 0 0,.bool false,.int .i64 3]) ?_ rfl ⟨rfl,bY _⟩;rw[av rfl];go_simp
theorem b20 {u:World} {d b f:Nat} {vE:Value} {sh:Bool} {lv:Int} {e:El}(g:d<b/\b<f) (h2:u.heap[d]? = some (.cells #[.slice none 0 0,.bool false,.int .i64 0] 56))
  (c:u.heap[b]? = some (.cells #[vE,.bool sh,.int .i64 lv] 56)) (a:u.heap[f]? = some (.cells #[.int .i64 e.first,.int .i64 e.second,.int .i64 e.third,.bool e.varies] 111)):RB u d b f vE sh lv e :=
 ⟨⟨g.1,g.2,(Array.getElem?_eq_some_iff.1 a).1⟩,⟨cell_of_row _ _ 0 _ _ _ h2,cell_of_row _ _ 1 _ _ _ h2,cell_of_row _ _ 2 _ _ _ h2⟩,⟨cell_of_row _ _ 0 _ _ _ c,cell_of_row _ _ 1 _ _ _ c,cell_of_row _ _ 2 _ _ _ c⟩,
  ⟨cell_of_row _ _ 0 _ _ _ a,cell_of_row _ _ 1 _ _ _ a,cell_of_row _ _ 2 _ _ _ a,cell_of_row _ _ 3 _ _ _ a⟩,fun j=>by simp[World.frozen?,h2],fun j=>by simp[World.frozen?,c],fun j=>by simp[World.frozen?,a]⟩
theorem aw0 {w2:World} {b:Nat}(h:w2.heap[b]? = some (.cells #[.slice none 0 0,.bool false,.int .i64 0] 56)) :
  RB ((w2.alloc (.cells #[.slice none 0 0,.bool false,.int .i64 3] 56)).alloc (.cells #[.int .i64 0,.int .i64 0,.int .i64 0,.bool false] 111)) b w2.heap.size (w2.heap.size+1) (.slice none 0 0) false 3 ⟨0,0,0,false⟩:=by
 have c:=((Below.refl w2.heap.size w2).alloc bR (.cells #[.slice none 0 0,.bool false,.int .i64 3] 56)).alloc (by simp) (.cells #[.int .i64 0,.int .i64 0,.int .i64 0,.bool false] 111);have a:=(Array.getElem?_eq_some_iff.1 h).1;refine b20 ⟨a,Nat.lt_succ_self _⟩ ?_ ?_ (heap_alloc2_new w2 _ _)
 .rw[c.block _ a];exact h
 .rw[Below.heap_alloc _ _ _ (by simp)];exact heap_alloc_new w2 _
theorem a23 (st:RS):bf [] st=.ok st:=by unfold bf;rfl
theorem Iq {a:List ByteArray} {k:Nat} {x:ByteArray}(h:a[k]? = some x):a.drop k=x::a.drop (k+1):=by
 obtain⟨b,rfl⟩:=List.getElem?_eq_some_iff.1 h;exact List.drop_eq_getElem_cons b
theorem Ro {x:ByteArray} {a:List ByteArray} {st:RS}(h:(x.toList == jl)=true):bf (x::a) st=bf a { st with sh:=true }:=by
 rw[bf.eq_def];simp only;rw[if_pos h]
theorem Wg {x:ByteArray} {st:RS}(h1:(x.toList == jl)=false) (h2:(x.toList == jp)=true):bf [x] st=.error 2:=by
 rw[bf.eq_def];simp only;rw[if_neg (by simp[h1]),if_pos h2]
theorem wa {x y:ByteArray} {b:List ByteArray} {st:RS}(h1:(x.toList == jl)=false) (h2:(x.toList == jp)=true) (a:rk y=none):bf (x::y::b) st=.error 2:=by
 rw[bf.eq_def];simp only;rw[if_neg (by simp[h1]),if_pos h2,a]
theorem Wh {x y:ByteArray} {a:List ByteArray} {st:RS} {n:Int}(h1:(x.toList == jl)=false) (h2:(x.toList == jp)=true) (b:rk y=some n):bf (x::y::a) st=bf a { st with lv:=n }:=by
 rw[bf.eq_def];simp only;rw[if_neg (by simp[h1]),if_pos h2,b]
theorem Wi {x:ByteArray} {b:List ByteArray} {st:RS}(h1:(x.toList == jl)=false) (h2:(x.toList == jp)=false) (a:ma x=none):bf (x::b) st=.error 2:=by
 rw[bf.eq_def];simp only;rw[if_neg (by simp[h1]),if_neg (by simp[h2]),a]
theorem Wj {x:ByteArray} {st:RS} {lev:Nat}(h1:(x.toList == jl)=false) (h2:(x.toList == jp)=false) (a:ma x=some lev):bf [x] st=.error 2:=by
 rw[bf.eq_def];simp only;rw[if_neg (by simp[h1]),if_neg (by simp[h2]),a]
theorem Wk {x y:ByteArray} {c:List ByteArray} {st:RS} {lev:Nat}(h1:(x.toList == jl)=false) (h2:(x.toList == jp)=false) (a:ma x=some lev) (b:200<y.size):bf (x::y::c) st=.error 2:=by
 rw[bf.eq_def];simp only;rw[if_neg (by simp[h1]),if_neg (by simp[h2]),a];simp only;rw[if_pos b]
theorem fi {x y:ByteArray} {e:List ByteArray} {st:RS} {lev:Nat} {c:Int}(h1:(x.toList == jl)=false) (h2:(x.toList == jp)=false) (a:ma x=some lev) (b:¬ 200<y.size) (d:d8 st lev (nD (Dec.decT y.size y).1)=.error c):bf (x::y::e) st=.error c:=by
 rw[bf.eq_def];simp only;rw[if_neg (by simp[h1]),if_neg (by simp[h2]),a];simp only;rw[if_neg b,d]
theorem wd {x y:ByteArray} {a:List ByteArray} {st st':RS} {lev:Nat}(h1:(x.toList == jl)=false) (h2:(x.toList == jp)=false) (b:ma x=some lev) (c:¬ 200<y.size) (d:d8 st lev (nD (Dec.decT y.size y).1)=.ok st'):bf (x::y::a) st=bf a st':=by
 rw[bf.eq_def];simp only;rw[if_neg (by simp[h1]),if_neg (by simp[h2]),b];simp only;rw[if_neg c,d]
theorem Rc {x:ByteArray} {lev:Nat}(h:ma x=some lev):(lev=0/\(x.toList == [38])=true)\/(lev=1/\(x.toList == [38])=false/\(x.toList == [60])=true)\/(lev=2/\(x.toList == [38])=false/\(x.toList == [60])=false/\(x.toList == [60,60])=true) \/
  (lev=3/\(x.toList == [38])=false/\(x.toList == [60])=false/\(x.toList == [60,60])=false/\(x.toList == [60,60,60])=true):=by
 unfold ma at h
 cases d0:(x.toList == [38]) <;> rw[d0]at h
 .cases d1:(x.toList == [60]) <;> rw[d1]at h
  .cases d2:(x.toList == [60,60]) <;> rw[d2]at h
   .cases d3:(x.toList == [60,60,60]) <;> rw[d3]at h
    .simp at h
    .simp at h;subst h;simp
   .simp at h;subst h;simp
  .simp at h;subst h;simp
 .simp at h;subst h;simp
theorem Cs {u:World} {B b:Nat} {v:Value} {l:List Int}(h:ab u B v l) (a:b+1<=B):v.ownBlock=none\/v.ownBlock≠some b:=by
 cases e:v.ownBlock with
 | none=>exact .inl rfl
 | some g =>
  refine .inr fun c=>?_
  have:=(World.ownsRow.lt h g e).1
  cases c
  omega
theorem Mq {a:List ByteArray} {k:Nat}(h:a.length<=k):a.drop k=[]:=List.drop_eq_nil_of_le h
theorem ac3 {y:ByteArray}(h:y.size=2/\49<=Dec.bt y 0/\Dec.bt y 0<=52/\Dec.bt y 1=93):rk y=some ((Dec.bt y 0:Int)-48):=if_pos h
theorem Du {y:ByteArray}(h:¬ (y.size=2/\49<=Dec.bt y 0/\Dec.bt y 0<=52/\Dec.bt y 1=93)):rk y=none:=if_neg h
theorem yi {st:RS} {lev:Nat} {l:List Int}(h:bd l=false):d8 st lev l=.error 2:=if_pos h
theorem Oh {st:RS} {l:List Int}(h:bd l=true) (h2:fj st.es l=none):d8 st 0 l=.error 3:=by
 unfold d8;rw[if_neg (by simp[h]),if_pos rfl,h2]
theorem Oi {st:RS} {l:List Int} {e:El}(h:bd l=true) (h2:fj st.es l=some e) (a:e.varies=true):d8 st 0 l=.error 3:=by
 unfold d8;rw[if_neg (by simp[h]),if_pos rfl,h2];simp only;rw[if_pos a]
theorem Cw {st:RS} {l:List Int} {e:El}(h:bd l=true) (h2:fj st.es l=some e) (a:e.varies=false):d8 st 0 l=.ok { st with last:=e,reset:=true }:=by
 unfold d8;rw[if_neg (by simp[h]),if_pos rfl,h2];simp only;rw[if_neg (by simp[a])]
theorem zg {st:RS} {lev:Nat} {l:List Int}(h:bd l=true) (a:lev≠0) (b:st.reset=false):d8 st lev l=.error 3:=by
 unfold d8;rw[if_neg (by simp[h]),if_neg a,if_pos b]
theorem zh {st:RS} {lev:Nat} {l:List Int}(h:bd l=true) (b:lev≠0) (c:st.reset=true) (a:0<=atE st.es l):d8 st lev l=.error 4:=by
 unfold d8;rw[if_neg (by simp[h]),if_neg b,if_neg (by simp[c]),if_pos a]
theorem Cv {st:RS} {lev:Nat} {l:List Int}(h:bd l=true) (b:lev≠0) (c:st.reset=true) (a:¬ 0<=atE st.es l):d8 st lev l=if ay (st.es++[⟨l,gk st.es st.last lev⟩]) st.lv=true then .ok { st with es:=st.es++[⟨l,gk st.es st.last lev⟩],last:=gk st.es st.last lev } else .error 5:=by
 unfold d8;rw[if_neg (by simp[h]),if_neg b,if_neg (by simp[c]),if_neg a]
theorem Wl (s:ByteArray) (w:World) (hs:s.size<=300):Calls prog 23 #[.string s] w fun e w'=>Gi w (aa s) e w':=by
 have h2:¬ (300:Int)<(s.size:Int):=by omega
 have hA:aa s=Wc (bf (rx s) rs0):=if_neg (by omega);rw[hA];clear hA;have W:=fun w=>a63 s w (by omega)
 have bw:(rx s).length<=301:=Nat.le_trans (L0 s (s.size+1)).1 (by omega);generalize rx s=ws at *;obtain⟨R,ax⟩:∃ R,Hid (bf ws rs0=R):=⟨_,rfl⟩
 rw[ax.out];go_enter func23,ntmps23;go_wp2_with fail;refine (W _).mono ?_;rintro e w1 ⟨vw,rfl,bg,b1⟩;have ba:=((Below.refl w.heap.size w).alloc bR (.cells #[.slice none 0 0,.bool false,.int .i64 0] 56)).trans (b1.mono (by simp));have P:=fun w=>a16 w
 have aW:Hid _:=ba;have b9:Hid (ak _ _ _ _):=bg;have aU:Hid (w1.heap[w.heap.size]? = some (.cells #[.slice none 0 0,.bool false,.int .i64 0] 56)):=by
  show _=_
  rw[b1.block _ (by simp)];exact heap_alloc_new w _
 clear ba b1 bg W;go_wp2_with fail;refine (P _).mono ?_;rintro e F ⟨rfl,b2⟩;clear P;have aG:=(Array.getElem?_eq_some_iff.1 aU.out).1;have bc:StM w ((F.alloc (.cells #[.slice none 0 0,.bool false,.int .i64 3] 56)).alloc (.cells #[.int .i64 0,.int .i64 0,.int .i64 0,.bool false] 111)) ws vw F.heap.size (F.heap.size+1) rs0 (.slice none 0 0):=by
  have aQ:=aW.out.trans (b2.mono aW.out.size);have aV:=b9.out.below b2;rw[b07]at aV;exact⟨aw0 (by rw[b2.block _ aG];exact aU.out),ac.nil _ _,aV.below (((Below.refl F.heap.size F).alloc bR _).alloc (by simp) _),fun g e=>(World.ownsRow.lt aV g e).2,(aQ.alloc aQ.size _).alloc (aQ.alloc aQ.size _).size _⟩
 have aS:Hid _:=bc;clear aW b2 aU aG b9 bc;obtain⟨aw,cw,rfl⟩:∃ aw cw,vw=.slice aw ws.length cw:=by
  rcases aS.out.sr.form with ⟨rfl,rfl⟩|⟨g,aA,rfl,_,_⟩
  .exact⟨_,_,rfl⟩
  .exact⟨_,_,rfl⟩
 go_wp2_with fail;go_loopw [7,8] (fun rv iv wr=>az2 w ws (.slice aw ws.length cw) F.heap.size (F.heap.size+1) R rv iv wr) (fun _ iv _=>ws.length-(intOf iv).toNat)
 case atStart=>exact⟨0,rs0,_,Nat.zero_le _,rfl,rfl,by rw[List.drop_zero];exact ax.out,Wr,aS.out⟩
 case round =>
  clear aS ax;obtain⟨k,b,vE,hk,rfl,rfl,hR,hI,hM⟩:=hrel;have HR:=hZ hR;have T:=hZ hI;have X:Hid (StM w wr ws _ _ _ b vE):=hM;clear hR hI hM;obtain⟨ae,ce,rfl⟩:∃ a c,vE=.slice a b.es.length c:=by
   rcases X.out.en.form with ⟨h,h'⟩|⟨g,aA,rfl,_,_,_,_⟩
   .exact⟨none,0,by rw[h,h'];rfl⟩
   .exact⟨_,_,rfl⟩
  have d:=X.out.be;obtain⟨⟨N,O,Q⟩,⟨u,q1,q2⟩,⟨A,C,E⟩,_,r,t,_⟩:=X.out.rb;by_cases aZ:k<ws.length
  .obtain⟨x,hx⟩:∃ x,ws[k]? = some x:=⟨_,List.getElem?_eq_getElem aZ⟩
   obtain⟨gw,rfl⟩:∃ g,aw=some ⟨g,0,none⟩:=by
    rcases X.out.sr.form with ⟨_,rfl⟩|⟨g,aA,h,_,_⟩
    .simp at aZ
    .injection h with h _ _;exact⟨g,h⟩
   have aR:=X.out.sr.cell k x hx;have bu:(k:Int)<(ws.length:Int):=by omega
   have bh:=Iq hx;have a7:Hid (bf (x::ws.drop (k+1)) b=R):=by show _=_;rw[<- bh];exact HR.out
   clear HR bh hx
   cases c1:(x.toList == jl)
   .cases c2:(x.toList == jp)
    .cases c3:ma x with
     | none =>
      have p:Hid (R=.error 2):=by show _=_;rw[<- a7.out,Wi c1 c2 c3]
      unfold ma at c3
      cases d0:(x.toList == [38])
      .rw[d0]at c3
       cases d1:(x.toList == [60])
       .rw[d1]at c3
        cases d2:(x.toList == [60,60])
        .rw[d2]at c3
         cases d3:(x.toList == [60,60,60])
         .clear c3 a7
          unfold jl at c1;unfold jp at c2;go_wp2;refine bodyPost_ret (v:=aj 2) ?_ rfl (bn p.out (bm d _ _ _));rw[results_cell_tmp rfl];unfold aj;go_simp
         .rw[d3]at c3;simp at c3
        .rw[d2]at c3;simp at c3
       .rw[d1]at c3;simp at c3
      .rw[d0]at c3;simp at c3
     | some lev =>
      have i:Hid _:=c1;have m:Hid _:=c2;have G:Hid _:=c3;have aX:=Rc c3;unfold jl at c1;unfold jp at c2;clear c3;by_cases aq:k+1<ws.length
      .obtain⟨y,hy⟩:∃ y,ws[k+1]? = some y:=⟨_,List.getElem?_eq_getElem aq⟩
       have aE:=X.out.sr.cell (k+1) y hy;have o:Hid (bf (x::y::ws.drop (k+1+1)) b=R):=by show _=_;rw[<- Iq hy];exact a7.out
       have he:((k:Int)+1 == (ws.length:Int))=false:=by simp;omega
       have bp:(k:Int)+1<(ws.length:Int):=by omega
       clear hy a7;by_cases a2:200<y.size
       .have p:Hid (R=.error 2):=by show _=_;rw[<- o.out,Wk i.out m.out G.out a2]
        have b8:(200:Int)<(y.size:Int):=by omega
        clear o X i m G;rcases aX with ⟨_,d0⟩|⟨_,d0,d1⟩|⟨_,d0,d1,d2⟩|⟨_,d0,d1,d2,d3⟩
        .go_wp2
         refine bodyPost_ret (v:=aj 2) ?_ rfl (bn p.out (bm d _ _ _));rw[results_cell_tmp rfl];unfold aj;go_simp
        .go_wp2
         refine bodyPost_ret (v:=aj 2) ?_ rfl (bn p.out (bm d _ _ _));rw[results_cell_tmp rfl];unfold aj;go_simp
        .go_wp2
         refine bodyPost_ret (v:=aj 2) ?_ rfl (bn p.out (bm d _ _ _));rw[results_cell_tmp rfl];unfold aj;go_simp
        .go_wp2
         refine bodyPost_ret (v:=aj 2) ?_ rfl (bn p.out (bm d _ _ _));rw[results_cell_tmp rfl];unfold aj;go_simp
       .have am:=fun w=>Cg y w (by omega)
        have bs:=(Dec.decT_len y.size y bR).1;have b8:¬ (200:Int)<(y.size:Int):=by omega
        have bv:(nD (Dec.decT y.size y).1).length<=1800:=by rw[zw];have:=zj (Dec.decT y.size y).1;omega
        rcases aX with ⟨rfl,d0⟩|⟨rfl,d0,d1⟩|⟨rfl,d0,d1,d2⟩|⟨rfl,d0,d1,d2,d3⟩
        .go_wp2_with fail
         refine (am _).mono ?_;rintro e w3 ⟨v3,rfl,i3,b3⟩;have D:=Dr (zs:=(Dec.decT y.size y).1) (by omega) i3;have a8:Hid _:=X.out.step b3;have ai:Hid (F.heap.size+1+1<=w3.heap.size):=by show _<=_;have:=b3.size;omega
         clear am X u q1 q2 A C E r t aR aE d N O Q b3 i3;go_wp2_with fail;refine D.mono ?_;rintro e w4 ⟨v4,rfl,i4,b4⟩;have a9:Hid _:=a8.out.step b4;have a5:=fe i4 ai.out;clear D a8 b4 ai i4;generalize hl4:nD (Dec.decT y.size y).1=l at *;have H:Hid _:=hl4;clear hl4;obtain⟨a4,c4,rfl⟩:∃ a c,v4=.slice a l.length c:=by
          rcases a5.form with ⟨rfl,rfl⟩|⟨g,aA,rfl,_,_⟩
          .exact⟨_,_,rfl⟩
          .exact⟨_,_,rfl⟩
         have RN:=rn (by omega) a5;go_wp2_with fail;refine RN.mono ?_;rintro e Y ⟨rfl,b5⟩;have q:Hid _:=a9.out.step b5;have Z:Hid (ab _ _ _ _):=a5.below b5;clear RN a9 b5 a5
         cases hro:bd l
         .have p:Hid (R=.error 2):=by show _=_;rw[<- o.out,fi i.out m.out G.out a2 (by rw[H.out];exact yi hro)]
          have d:=q.out.be;obtain⟨⟨N,O,Q⟩,⟨u,q1,q2⟩,⟨A,C,E⟩,⟨I,J,K,L⟩,r,t,M⟩:=q.out.rb;have U:w.heap.size<Y.heap.size:=by omega
          have V:F.heap.size<Y.heap.size:=by omega
          clear o q i m G Z H;go_wp2;refine bodyPost_ret (v:=aj 2) ?_ rfl (bn p.out (bm d _ _ _));rw[results_cell_tmp rfl];unfold aj;go_simp
         .have aB:=eg hro
          have a6:∀ e ∈ b.es,e.runes.length<=1048576:=fun e he=>Nat.le_trans (eg ((cg T.out.good).2.2 e he).1) (by omega)
          have aY:b.es.length<=40:=(cg T.out.good).1;have bi:=Ov hro;have EL:=Yr (sh:=b.sh) (lv:=b.lv) q.out.en Z.out (by omega) (by omega) a6 bi;clear bi a6;have d:=q.out.be;obtain⟨⟨N,O,Q⟩,⟨u,q1,q2⟩,⟨A,C,E⟩,⟨I,J,K,L⟩,r,t,M⟩:=q.out.rb;have U:w.heap.size<Y.heap.size:=by omega
          have V:F.heap.size<Y.heap.size:=by omega
          cases hee:fj b.es l with
          | none =>
           have p:Hid (R=.error 3):=by show _=_;rw[<- o.out,fi i.out m.out G.out a2 (by rw[H.out];exact Oh hro hee)]
           rw[hee]at EL;unfold fo elV ph at EL;simp only[Option.getD_none,Option.isSome_none]at EL;clear o i m G Z H hee;go_wp2_with fail;refine EL.mono ?_;rintro e w6 ⟨rfl,b6⟩;have S:Hid _:=q.out.step b6;clear u q1 q2 A C E I J K L r t M d N O Q U V;have d:=S.out.be;obtain⟨⟨N,O,Q⟩,⟨u,q1,q2⟩,⟨A,C,E⟩,⟨I,J,K,L⟩,r,t,M⟩:=S.out.rb;have U:w.heap.size<w6.heap.size:=by omega
           have V:F.heap.size<w6.heap.size:=by omega
           clear EL q S b6;go_wp2;refine bodyPost_ret (v:=aj 3) ?_ rfl (bn p.out ((bm d _ _ _).alloc (by simpa using d.size) _));rw[results_cell_tmp rfl];unfold aj;go_simp
          | some x0 =>
           rw[hee]at EL;unfold fo elV ph at EL
           cases hv:x0.varies
           .have al:Hid (bf (ws.drop (k+1+1)) { b with last:=x0,reset:=true }=R):=by show _=_;rw[<- o.out,wd i.out m.out G.out a2 (by rw[H.out];exact Cw hro hee hv)]
            have az:Hid (gj { b with last:=x0,reset:=true }):=qr T.out (Cw hro hee hv);have HV:=hZ hv;simp only[Option.getD_some,Option.isSome_some,hv]at EL;clear o i m G Z H hee hv;go_wp2_with fail;refine EL.mono ?_;rintro e w6 ⟨rfl,b6⟩;have S:Hid _:=q.out.step b6;clear u q1 q2 A C E I J K L r t M d N O Q U V;have a3:Hid (StM _ _ _ _ _ _ _ _):=(S.out.setLast x0 true).step (bY (.cells #[.int .i64 x0.first,.int .i64 x0.second,.int .i64 x0.third,.bool x0.varies] 111));rw[HV.out]at a3;unfold mb at a3;rw[HV.out]at a3;have d:=S.out.be;obtain⟨⟨N,O,Q⟩,⟨u,q1,q2⟩,⟨A,C,E⟩,⟨I,J,K,L⟩,r,t,M⟩:=S.out.rb;have U:w.heap.size<w6.heap.size:=by omega
            have V:F.heap.size<w6.heap.size:=by omega
            clear EL q S b6 d;go_wp2;exact⟨⟨k+1+1,{ b with last:=x0,reset:=true },_,aq,by go_num,rfl,al.out,az.out,a3.out⟩,by simp[intOf];omega⟩
           .have p:Hid (R=.error 3):=by show _=_;rw[<- o.out,fi i.out m.out G.out a2 (by rw[H.out];exact Oi hro hee hv)]
            simp only[Option.getD_some,Option.isSome_some,hv]at EL;clear o i m G Z H hee hv;go_wp2_with fail;refine EL.mono ?_;rintro e w6 ⟨rfl,b6⟩;have S:Hid _:=q.out.step b6;clear u q1 q2 A C E I J K L r t M d N O Q U V;have d:=S.out.be;obtain⟨⟨N,O,Q⟩,⟨u,q1,q2⟩,⟨A,C,E⟩,⟨I,J,K,L⟩,r,t,M⟩:=S.out.rb;have U:w.heap.size<w6.heap.size:=by omega
            have V:F.heap.size<w6.heap.size:=by omega
            clear EL q S b6;go_wp2;refine bodyPost_ret (v:=aj 3) ?_ rfl (bn p.out ((bm d _ _ _).alloc (by simpa using d.size) _));rw[results_cell_tmp rfl];unfold aj;go_simp
        .go_wp2_with fail
         refine (am _).mono ?_;rintro e w3 ⟨v3,rfl,i3,b3⟩;have D:=Dr (zs:=(Dec.decT y.size y).1) (by omega) i3;have a8:Hid _:=X.out.step b3;have ai:Hid (F.heap.size+1+1<=w3.heap.size):=by show _<=_;have:=b3.size;omega
         clear am X u q1 q2 A C E r t aR aE d N O Q b3 i3;go_wp2_with fail;refine D.mono ?_;rintro e w4 ⟨v4,rfl,i4,b4⟩;have a9:Hid _:=a8.out.step b4;have a5:=fe i4 ai.out;clear D a8 b4 ai i4;generalize hl4:nD (Dec.decT y.size y).1=l at *;have H:Hid _:=hl4;clear hl4;obtain⟨a4,c4,rfl⟩:∃ a c,v4=.slice a l.length c:=by
          rcases a5.form with ⟨rfl,rfl⟩|⟨g,aA,rfl,_,_⟩
          .exact⟨_,_,rfl⟩
          .exact⟨_,_,rfl⟩
         have RN:=rn (by omega) a5;go_wp2_with fail;refine RN.mono ?_;rintro e Y ⟨rfl,b5⟩;have q:Hid _:=a9.out.step b5;have Z:Hid (ab _ _ _ _):=a5.below b5;clear RN a9 b5 a5
         cases hro:bd l
         .have p:Hid (R=.error 2):=by show _=_;rw[<- o.out,fi i.out m.out G.out a2 (by rw[H.out];exact yi hro)]
          have d:=q.out.be;obtain⟨⟨N,O,Q⟩,⟨u,q1,q2⟩,⟨A,C,E⟩,⟨I,J,K,L⟩,r,t,M⟩:=q.out.rb;have U:w.heap.size<Y.heap.size:=by omega
          have V:F.heap.size<Y.heap.size:=by omega
          clear o q i m G Z H;go_wp2;refine bodyPost_ret (v:=aj 2) ?_ rfl (bn p.out (bm d _ _ _));rw[results_cell_tmp rfl];unfold aj;go_simp
         .have aB:=eg hro
          have a6:∀ e ∈ b.es,e.runes.length<=1048576:=fun e he=>Nat.le_trans (eg ((cg T.out.good).2.2 e he).1) (by omega)
          have aY:b.es.length<=40:=(cg T.out.good).1
          cases hrs:b.reset
          .have p:Hid (R=.error 3):=by show _=_;rw[<- o.out,fi i.out m.out G.out a2 (by rw[H.out];exact zg hro (by omega) hrs)]
           have d:=q.out.be;obtain⟨⟨N,O,Q⟩,⟨u,q1,q2⟩,⟨A,C,E⟩,⟨I,J,K,L⟩,r,t,M⟩:=q.out.rb;have U:w.heap.size<Y.heap.size:=by omega
           have V:F.heap.size<Y.heap.size:=by omega
           clear o q i m G Z H a6;go_wp2;refine bodyPost_ret (v:=aj 3) ?_ rfl (bn p.out (bm d _ _ _));rw[results_cell_tmp rfl];unfold aj;go_simp
          .have AT:=ql (sh:=b.sh) (lv:=b.lv) q.out.en Z.out (by omega) (by omega) a6
           clear a6;have d:=q.out.be;obtain⟨⟨N,O,Q⟩,⟨u,q1,q2⟩,⟨A,C,E⟩,⟨I,J,K,L⟩,r,t,M⟩:=q.out.rb;have U:w.heap.size<Y.heap.size:=by omega
           have V:F.heap.size<Y.heap.size:=by omega
           go_wp2_with fail;refine AT.mono ?_;rintro e w6 ⟨rfl,b6⟩;have S:Hid _:=q.out.step b6;have I6:Hid (ab _ _ _ _):=Z.out.below b6;clear u q1 q2 A C E I J K L r t M d N O Q U V;clear AT q Z b6;have d:=S.out.be;obtain⟨⟨N,O,Q⟩,⟨u,q1,q2⟩,⟨A,C,E⟩,⟨I,J,K,L⟩,r,t,M⟩:=S.out.rb;have U:w.heap.size<w6.heap.size:=by omega
           have V:F.heap.size<w6.heap.size:=by omega
           by_cases ap:0<=atE b.es l
           .have p:Hid (R=.error 4):=by show _=_;rw[<- o.out,fi i.out m.out G.out a2 (by rw[H.out];exact zh hro (by omega) hrs ap)]
            clear o S i m G I6 H;go_wp2;refine bodyPost_ret (v:=aj 4) ?_ rfl (bn p.out (bm d _ _ _));rw[results_cell_tmp rfl];unfold aj;go_simp
           .have BH:=Ab (sh:=b.sh) (lv:=b.lv) (n:=1) S.out.en T.out (by omega)
            have a0:=Cv (lev:=1) hro (by omega) hrs ap;obtain⟨f,aC⟩:∃ f,Hid (gk b.es b.last 1=f):=⟨_,rfl⟩
            rw[aC.out]at BH a0;unfold elV at BH;go_wp2_with fail;refine BH.mono ?_;rintro e w7 ⟨rfl,b7⟩;have a3:Hid _:=S.out.step b7;have I7:Hid (ab _ _ _ _):=I6.out.below b7;clear u q1 q2 A C E I J K L r t M d N O Q U V;clear BH S I6 b7;have af:=a3.out.setLast f b.reset;have i8:ab (mb w7 (F.heap.size+1) f) _ _ _:=World.ownsRow.kept I7.out (pz w7 (F.heap.size+1) f) (Cs I7.out bR);have d:=a3.out.be;obtain⟨⟨N,O,Q⟩,⟨u,q1,q2⟩,⟨A,C,E⟩,⟨I,J,K,L⟩,r,t,M⟩:=a3.out.rb;have U:w.heap.size<w7.heap.size:=by omega
            have V:F.heap.size<w7.heap.size:=by omega
            obtain⟨xs,aH,h1,h2⟩:=af.en;have ad:Hid _:=af;have H2:Hid _:=h2;have I8:Hid (ab _ _ _ _):=i8;obtain⟨it,aF,aL,aI,aJ⟩:=info_parts Ar;clear a3 I7 af h2 i8 d;go_wp2_with (at_builtin;refine wpList_append_lies _ rfl _ _ 54 rfl (F.heap.size+1+1) 117 it _ 5 56 underlying54 aF aL aI aJ rfl (by decide) _ _ _ rfl (h1.alloc _) ⟨w7.heap.size,0,none⟩ 1 1 (gm (.slice a4 l.length c4) f) rfl rfl (C7 _ _ _ _ _ (by simp)) ?hone (by omega) (by unfold maxLen;omega) (by omega) (by simp;omega) (w7.heap.size+1) (by simp) ?_)
            case hone =>
             intro z hz;simp[gm]at hz
             rcases hz with rfl|rfl|rfl|rfl|rfl <;> rfl
            intro g9 aD w9 ar ah _ _;have ag:=StM.put (l:=l) (ad.out.step (bY (.cells #[.slice a4 l.length c4,.int .i64 f.first,.int .i64 f.second,.int .i64 f.third,.bool f.varies] 117))) aH
             (fun kk ee he=>by obtain⟨z,hz,aK⟩:=H2.out kk ee he;exact⟨z,hz,aK.below (bY _)⟩) (I8.out.below (bY _)) (h1.alloc _) ah ar
            have an:Hid _:=ag;have av:∀ e ∈ b.es++[⟨l,f⟩],e.runes.length<=1048576:=fun e he=>by
             rcases List.mem_append.1 he with h|h
             .exact Nat.le_trans (eg ((cg T.out.good).2.2 e h).1) (by omega)
             .simp at h;subst h;exact Nat.le_trans aB (by omega)
            have GR:=yd (sh:=b.sh) (lv:=b.lv) ag.en av;have aP:=(ad.out.step (bY (.cells #[.slice a4 l.length c4,.int .i64 f.first,.int .i64 f.second,.int .i64 f.third,.bool f.varies] 117))).rb.upTo (Below.grown (Below.refl (F.heap.size+1+1) _) ah (by unfold mb;simp;omega) (fun j hj=>(World.ownsRow.lt h1 j hj).1)) (Nat.lt_succ_self _);clear u q1 q2 A C E I J K L r t M ag ad H2 I8 h1 ah ar av;obtain⟨⟨aM,aN,aO⟩,⟨u,q1,q2⟩,⟨A,C,E⟩,⟨I,J,K,L⟩,r,t,M⟩:=aP;go_wp2_with fail;refine GR.mono ?_;rintro e bj ⟨rfl,ao⟩;have a1:Hid _:=an.out.step ao;clear u q1 q2 A C E I J K L r t M GR an N O Q U V aM aN aO ao
            cases hgd:ay (b.es++[⟨l,f⟩]) b.lv
            .have p:Hid (R=.error 5):=by show _=_;rw[<- o.out,fi i.out m.out G.out a2 (by rw[H.out,a0,if_neg (by simp[hgd])])]
             have d:=a1.out.be;obtain⟨⟨N,O,Q⟩,⟨u,q1,q2⟩,⟨A,C,E⟩,⟨I,J,K,L⟩,r,t,M⟩:=a1.out.rb;clear o i m G H a0 a1;go_wp2;refine bodyPost_ret (v:=aj 5) ?_ rfl (bn p.out (bm d _ _ _));rw[results_cell_tmp rfl];unfold aj;go_simp
            .have HP:d8 b 1 l=.ok { b with es:=b.es++[⟨l,f⟩],last:=f }:=by rw[a0,if_pos hgd]
             have al:Hid (bf (ws.drop (k+1+1)) { b with es:=b.es++[⟨l,f⟩],last:=f }=R):=by show _=_;rw[<- o.out,wd i.out m.out G.out a2 (by rw[H.out];exact HP)]
             have az:Hid (gj { b with es:=b.es++[⟨l,f⟩],last:=f }):=qr T.out HP;clear o i m G H a0 HP;go_wp2;exact⟨⟨k+1+1,{ b with es:=b.es++[⟨l,f⟩],last:=f },_,aq,by go_num,by show Value.bool true=Value.bool b.reset;rw[hrs],al.out,az.out,a1.out⟩,by simp[intOf];omega⟩
        .go_wp2_with fail
         refine (am _).mono ?_;rintro e w3 ⟨v3,rfl,i3,b3⟩;have D:=Dr (zs:=(Dec.decT y.size y).1) (by omega) i3;have a8:Hid _:=X.out.step b3;have ai:Hid (F.heap.size+1+1<=w3.heap.size):=by show _<=_;have:=b3.size;omega
         clear am X u q1 q2 A C E r t aR aE d N O Q b3 i3;go_wp2_with fail;refine D.mono ?_;rintro e w4 ⟨v4,rfl,i4,b4⟩;have a9:Hid _:=a8.out.step b4;have a5:=fe i4 ai.out;clear D a8 b4 ai i4;generalize hl4:nD (Dec.decT y.size y).1=l at *;have H:Hid _:=hl4;clear hl4;obtain⟨a4,c4,rfl⟩:∃ a c,v4=.slice a l.length c:=by
          rcases a5.form with ⟨rfl,rfl⟩|⟨g,aA,rfl,_,_⟩
          .exact⟨_,_,rfl⟩
          .exact⟨_,_,rfl⟩
         have RN:=rn (by omega) a5;go_wp2_with fail;refine RN.mono ?_;rintro e Y ⟨rfl,b5⟩;have q:Hid _:=a9.out.step b5;have Z:Hid (ab _ _ _ _):=a5.below b5;clear RN a9 b5 a5
         cases hro:bd l
         .have p:Hid (R=.error 2):=by show _=_;rw[<- o.out,fi i.out m.out G.out a2 (by rw[H.out];exact yi hro)]
          have d:=q.out.be;obtain⟨⟨N,O,Q⟩,⟨u,q1,q2⟩,⟨A,C,E⟩,⟨I,J,K,L⟩,r,t,M⟩:=q.out.rb;have U:w.heap.size<Y.heap.size:=by omega
          have V:F.heap.size<Y.heap.size:=by omega
          clear o q i m G Z H;go_wp2;refine bodyPost_ret (v:=aj 2) ?_ rfl (bn p.out (bm d _ _ _));rw[results_cell_tmp rfl];unfold aj;go_simp
         .have aB:=eg hro
          have a6:∀ e ∈ b.es,e.runes.length<=1048576:=fun e he=>Nat.le_trans (eg ((cg T.out.good).2.2 e he).1) (by omega)
          have aY:b.es.length<=40:=(cg T.out.good).1
          cases hrs:b.reset
          .have p:Hid (R=.error 3):=by show _=_;rw[<- o.out,fi i.out m.out G.out a2 (by rw[H.out];exact zg hro (by omega) hrs)]
           have d:=q.out.be;obtain⟨⟨N,O,Q⟩,⟨u,q1,q2⟩,⟨A,C,E⟩,⟨I,J,K,L⟩,r,t,M⟩:=q.out.rb;have U:w.heap.size<Y.heap.size:=by omega
           have V:F.heap.size<Y.heap.size:=by omega
           clear o q i m G Z H a6;go_wp2;refine bodyPost_ret (v:=aj 3) ?_ rfl (bn p.out (bm d _ _ _));rw[results_cell_tmp rfl];unfold aj;go_simp
          .have AT:=ql (sh:=b.sh) (lv:=b.lv) q.out.en Z.out (by omega) (by omega) a6
           clear a6;have d:=q.out.be;obtain⟨⟨N,O,Q⟩,⟨u,q1,q2⟩,⟨A,C,E⟩,⟨I,J,K,L⟩,r,t,M⟩:=q.out.rb;have U:w.heap.size<Y.heap.size:=by omega
           have V:F.heap.size<Y.heap.size:=by omega
           go_wp2_with fail;refine AT.mono ?_;rintro e w6 ⟨rfl,b6⟩;have S:Hid _:=q.out.step b6;have I6:Hid (ab _ _ _ _):=Z.out.below b6;clear u q1 q2 A C E I J K L r t M d N O Q U V;clear AT q Z b6;have d:=S.out.be;obtain⟨⟨N,O,Q⟩,⟨u,q1,q2⟩,⟨A,C,E⟩,⟨I,J,K,L⟩,r,t,M⟩:=S.out.rb;have U:w.heap.size<w6.heap.size:=by omega
           have V:F.heap.size<w6.heap.size:=by omega
           by_cases ap:0<=atE b.es l
           .have p:Hid (R=.error 4):=by show _=_;rw[<- o.out,fi i.out m.out G.out a2 (by rw[H.out];exact zh hro (by omega) hrs ap)]
            clear o S i m G I6 H;go_wp2;refine bodyPost_ret (v:=aj 4) ?_ rfl (bn p.out (bm d _ _ _));rw[results_cell_tmp rfl];unfold aj;go_simp
           .have BH:=Ab (sh:=b.sh) (lv:=b.lv) (n:=2) S.out.en T.out (by omega)
            have a0:=Cv (lev:=2) hro (by omega) hrs ap;obtain⟨f,aC⟩:∃ f,Hid (gk b.es b.last 2=f):=⟨_,rfl⟩
            rw[aC.out]at BH a0;unfold elV at BH;go_wp2_with fail;refine BH.mono ?_;rintro e w7 ⟨rfl,b7⟩;have a3:Hid _:=S.out.step b7;have I7:Hid (ab _ _ _ _):=I6.out.below b7;clear u q1 q2 A C E I J K L r t M d N O Q U V;clear BH S I6 b7;have af:=a3.out.setLast f b.reset;have i8:ab (mb w7 (F.heap.size+1) f) _ _ _:=World.ownsRow.kept I7.out (pz w7 (F.heap.size+1) f) (Cs I7.out bR);have d:=a3.out.be;obtain⟨⟨N,O,Q⟩,⟨u,q1,q2⟩,⟨A,C,E⟩,⟨I,J,K,L⟩,r,t,M⟩:=a3.out.rb;have U:w.heap.size<w7.heap.size:=by omega
            have V:F.heap.size<w7.heap.size:=by omega
            obtain⟨xs,aH,h1,h2⟩:=af.en;have ad:Hid _:=af;have H2:Hid _:=h2;have I8:Hid (ab _ _ _ _):=i8;obtain⟨it,aF,aL,aI,aJ⟩:=info_parts Ar;clear a3 I7 af h2 i8 d;go_wp2_with (at_builtin;refine wpList_append_lies _ rfl _ _ 54 rfl (F.heap.size+1+1) 117 it _ 5 56 underlying54 aF aL aI aJ rfl (by decide) _ _ _ rfl (h1.alloc _) ⟨w7.heap.size,0,none⟩ 1 1 (gm (.slice a4 l.length c4) f) rfl rfl (C7 _ _ _ _ _ (by simp)) ?hone (by omega) (by unfold maxLen;omega) (by omega) (by simp;omega) (w7.heap.size+1) (by simp) ?_)
            case hone =>
             intro z hz;simp[gm]at hz
             rcases hz with rfl|rfl|rfl|rfl|rfl <;> rfl
            intro g9 aD w9 ar ah _ _;have ag:=StM.put (l:=l) (ad.out.step (bY (.cells #[.slice a4 l.length c4,.int .i64 f.first,.int .i64 f.second,.int .i64 f.third,.bool f.varies] 117))) aH
             (fun kk ee he=>by obtain⟨z,hz,aK⟩:=H2.out kk ee he;exact⟨z,hz,aK.below (bY _)⟩) (I8.out.below (bY _)) (h1.alloc _) ah ar
            have an:Hid _:=ag;have av:∀ e ∈ b.es++[⟨l,f⟩],e.runes.length<=1048576:=fun e he=>by
             rcases List.mem_append.1 he with h|h
             .exact Nat.le_trans (eg ((cg T.out.good).2.2 e h).1) (by omega)
             .simp at h;subst h;exact Nat.le_trans aB (by omega)
            have GR:=yd (sh:=b.sh) (lv:=b.lv) ag.en av;have aP:=(ad.out.step (bY (.cells #[.slice a4 l.length c4,.int .i64 f.first,.int .i64 f.second,.int .i64 f.third,.bool f.varies] 117))).rb.upTo (Below.grown (Below.refl (F.heap.size+1+1) _) ah (by unfold mb;simp;omega) (fun j hj=>(World.ownsRow.lt h1 j hj).1)) (Nat.lt_succ_self _);clear u q1 q2 A C E I J K L r t M ag ad H2 I8 h1 ah ar av;obtain⟨⟨aM,aN,aO⟩,⟨u,q1,q2⟩,⟨A,C,E⟩,⟨I,J,K,L⟩,r,t,M⟩:=aP;go_wp2_with fail;refine GR.mono ?_;rintro e bj ⟨rfl,ao⟩;have a1:Hid _:=an.out.step ao;clear u q1 q2 A C E I J K L r t M GR an N O Q U V aM aN aO ao
            cases hgd:ay (b.es++[⟨l,f⟩]) b.lv
            .have p:Hid (R=.error 5):=by show _=_;rw[<- o.out,fi i.out m.out G.out a2 (by rw[H.out,a0,if_neg (by simp[hgd])])]
             have d:=a1.out.be;obtain⟨⟨N,O,Q⟩,⟨u,q1,q2⟩,⟨A,C,E⟩,⟨I,J,K,L⟩,r,t,M⟩:=a1.out.rb;clear o i m G H a0 a1;go_wp2;refine bodyPost_ret (v:=aj 5) ?_ rfl (bn p.out (bm d _ _ _));rw[results_cell_tmp rfl];unfold aj;go_simp
            .have HP:d8 b 2 l=.ok { b with es:=b.es++[⟨l,f⟩],last:=f }:=by rw[a0,if_pos hgd]
             have al:Hid (bf (ws.drop (k+1+1)) { b with es:=b.es++[⟨l,f⟩],last:=f }=R):=by show _=_;rw[<- o.out,wd i.out m.out G.out a2 (by rw[H.out];exact HP)]
             have az:Hid (gj { b with es:=b.es++[⟨l,f⟩],last:=f }):=qr T.out HP;clear o i m G H a0 HP;go_wp2;exact⟨⟨k+1+1,{ b with es:=b.es++[⟨l,f⟩],last:=f },_,aq,by go_num,by show Value.bool true=Value.bool b.reset;rw[hrs],al.out,az.out,a1.out⟩,by simp[intOf];omega⟩
        .go_wp2_with fail
         refine (am _).mono ?_;rintro e w3 ⟨v3,rfl,i3,b3⟩;have D:=Dr (zs:=(Dec.decT y.size y).1) (by omega) i3;have a8:Hid _:=X.out.step b3;have ai:Hid (F.heap.size+1+1<=w3.heap.size):=by show _<=_;have:=b3.size;omega
         clear am X u q1 q2 A C E r t aR aE d N O Q b3 i3;go_wp2_with fail;refine D.mono ?_;rintro e w4 ⟨v4,rfl,i4,b4⟩;have a9:Hid _:=a8.out.step b4;have a5:=fe i4 ai.out;clear D a8 b4 ai i4;generalize hl4:nD (Dec.decT y.size y).1=l at *;have H:Hid _:=hl4;clear hl4;obtain⟨a4,c4,rfl⟩:∃ a c,v4=.slice a l.length c:=by
          rcases a5.form with ⟨rfl,rfl⟩|⟨g,aA,rfl,_,_⟩
          .exact⟨_,_,rfl⟩
          .exact⟨_,_,rfl⟩
         have RN:=rn (by omega) a5;go_wp2_with fail;refine RN.mono ?_;rintro e Y ⟨rfl,b5⟩;have q:Hid _:=a9.out.step b5;have Z:Hid (ab _ _ _ _):=a5.below b5;clear RN a9 b5 a5
         cases hro:bd l
         .have p:Hid (R=.error 2):=by show _=_;rw[<- o.out,fi i.out m.out G.out a2 (by rw[H.out];exact yi hro)]
          have d:=q.out.be;obtain⟨⟨N,O,Q⟩,⟨u,q1,q2⟩,⟨A,C,E⟩,⟨I,J,K,L⟩,r,t,M⟩:=q.out.rb;have U:w.heap.size<Y.heap.size:=by omega
          have V:F.heap.size<Y.heap.size:=by omega
          clear o q i m G Z H;go_wp2;refine bodyPost_ret (v:=aj 2) ?_ rfl (bn p.out (bm d _ _ _));rw[results_cell_tmp rfl];unfold aj;go_simp
         .have aB:=eg hro
          have a6:∀ e ∈ b.es,e.runes.length<=1048576:=fun e he=>Nat.le_trans (eg ((cg T.out.good).2.2 e he).1) (by omega)
          have aY:b.es.length<=40:=(cg T.out.good).1
          cases hrs:b.reset
          .have p:Hid (R=.error 3):=by show _=_;rw[<- o.out,fi i.out m.out G.out a2 (by rw[H.out];exact zg hro (by omega) hrs)]
           have d:=q.out.be;obtain⟨⟨N,O,Q⟩,⟨u,q1,q2⟩,⟨A,C,E⟩,⟨I,J,K,L⟩,r,t,M⟩:=q.out.rb;have U:w.heap.size<Y.heap.size:=by omega
           have V:F.heap.size<Y.heap.size:=by omega
           clear o q i m G Z H a6;go_wp2;refine bodyPost_ret (v:=aj 3) ?_ rfl (bn p.out (bm d _ _ _));rw[results_cell_tmp rfl];unfold aj;go_simp
          .have AT:=ql (sh:=b.sh) (lv:=b.lv) q.out.en Z.out (by omega) (by omega) a6
           clear a6;have d:=q.out.be;obtain⟨⟨N,O,Q⟩,⟨u,q1,q2⟩,⟨A,C,E⟩,⟨I,J,K,L⟩,r,t,M⟩:=q.out.rb;have U:w.heap.size<Y.heap.size:=by omega
           have V:F.heap.size<Y.heap.size:=by omega
           go_wp2_with fail;refine AT.mono ?_;rintro e w6 ⟨rfl,b6⟩;have S:Hid _:=q.out.step b6;have I6:Hid (ab _ _ _ _):=Z.out.below b6;clear u q1 q2 A C E I J K L r t M d N O Q U V;clear AT q Z b6;have d:=S.out.be;obtain⟨⟨N,O,Q⟩,⟨u,q1,q2⟩,⟨A,C,E⟩,⟨I,J,K,L⟩,r,t,M⟩:=S.out.rb;have U:w.heap.size<w6.heap.size:=by omega
           have V:F.heap.size<w6.heap.size:=by omega
           by_cases ap:0<=atE b.es l
           .have p:Hid (R=.error 4):=by show _=_;rw[<- o.out,fi i.out m.out G.out a2 (by rw[H.out];exact zh hro (by omega) hrs ap)]
            clear o S i m G I6 H;go_wp2;refine bodyPost_ret (v:=aj 4) ?_ rfl (bn p.out (bm d _ _ _));rw[results_cell_tmp rfl];unfold aj;go_simp
           .have BH:=Ab (sh:=b.sh) (lv:=b.lv) (n:=3) S.out.en T.out (by omega)
            have a0:=Cv (lev:=3) hro (by omega) hrs ap;obtain⟨f,aC⟩:∃ f,Hid (gk b.es b.last 3=f):=⟨_,rfl⟩
            rw[aC.out]at BH a0;unfold elV at BH;go_wp2_with fail;refine BH.mono ?_;rintro e w7 ⟨rfl,b7⟩;have a3:Hid _:=S.out.step b7;have I7:Hid (ab _ _ _ _):=I6.out.below b7;clear u q1 q2 A C E I J K L r t M d N O Q U V;clear BH S I6 b7;have af:=a3.out.setLast f b.reset;have i8:ab (mb w7 (F.heap.size+1) f) _ _ _:=World.ownsRow.kept I7.out (pz w7 (F.heap.size+1) f) (Cs I7.out bR);have d:=a3.out.be;obtain⟨⟨N,O,Q⟩,⟨u,q1,q2⟩,⟨A,C,E⟩,⟨I,J,K,L⟩,r,t,M⟩:=a3.out.rb;have U:w.heap.size<w7.heap.size:=by omega
            have V:F.heap.size<w7.heap.size:=by omega
            obtain⟨xs,aH,h1,h2⟩:=af.en;have ad:Hid _:=af;have H2:Hid _:=h2;have I8:Hid (ab _ _ _ _):=i8;obtain⟨it,aF,aL,aI,aJ⟩:=info_parts Ar;clear a3 I7 af h2 i8 d;go_wp2_with (at_builtin;refine wpList_append_lies _ rfl _ _ 54 rfl (F.heap.size+1+1) 117 it _ 5 56 underlying54 aF aL aI aJ rfl (by decide) _ _ _ rfl (h1.alloc _) ⟨w7.heap.size,0,none⟩ 1 1 (gm (.slice a4 l.length c4) f) rfl rfl (C7 _ _ _ _ _ (by simp)) ?hone (by omega) (by unfold maxLen;omega) (by omega) (by simp;omega) (w7.heap.size+1) (by simp) ?_)
            case hone =>
             intro z hz;simp[gm]at hz
             rcases hz with rfl|rfl|rfl|rfl|rfl <;> rfl
            intro g9 aD w9 ar ah _ _;have ag:=StM.put (l:=l) (ad.out.step (bY (.cells #[.slice a4 l.length c4,.int .i64 f.first,.int .i64 f.second,.int .i64 f.third,.bool f.varies] 117))) aH
             (fun kk ee he=>by obtain⟨z,hz,aK⟩:=H2.out kk ee he;exact⟨z,hz,aK.below (bY _)⟩) (I8.out.below (bY _)) (h1.alloc _) ah ar
            have an:Hid _:=ag;have av:∀ e ∈ b.es++[⟨l,f⟩],e.runes.length<=1048576:=fun e he=>by
             rcases List.mem_append.1 he with h|h
             .exact Nat.le_trans (eg ((cg T.out.good).2.2 e h).1) (by omega)
             .simp at h;subst h;exact Nat.le_trans aB (by omega)
            have GR:=yd (sh:=b.sh) (lv:=b.lv) ag.en av;have aP:=(ad.out.step (bY (.cells #[.slice a4 l.length c4,.int .i64 f.first,.int .i64 f.second,.int .i64 f.third,.bool f.varies] 117))).rb.upTo (Below.grown (Below.refl (F.heap.size+1+1) _) ah (by unfold mb;simp;omega) (fun j hj=>(World.ownsRow.lt h1 j hj).1)) (Nat.lt_succ_self _);clear u q1 q2 A C E I J K L r t M ag ad H2 I8 h1 ah ar av;obtain⟨⟨aM,aN,aO⟩,⟨u,q1,q2⟩,⟨A,C,E⟩,⟨I,J,K,L⟩,r,t,M⟩:=aP;go_wp2_with fail;refine GR.mono ?_;rintro e bj ⟨rfl,ao⟩;have a1:Hid _:=an.out.step ao;clear u q1 q2 A C E I J K L r t M GR an N O Q U V aM aN aO ao
            cases hgd:ay (b.es++[⟨l,f⟩]) b.lv
            .have p:Hid (R=.error 5):=by show _=_;rw[<- o.out,fi i.out m.out G.out a2 (by rw[H.out,a0,if_neg (by simp[hgd])])]
             have d:=a1.out.be;obtain⟨⟨N,O,Q⟩,⟨u,q1,q2⟩,⟨A,C,E⟩,⟨I,J,K,L⟩,r,t,M⟩:=a1.out.rb;clear o i m G H a0 a1;go_wp2;refine bodyPost_ret (v:=aj 5) ?_ rfl (bn p.out (bm d _ _ _));rw[results_cell_tmp rfl];unfold aj;go_simp
            .have HP:d8 b 3 l=.ok { b with es:=b.es++[⟨l,f⟩],last:=f }:=by rw[a0,if_pos hgd]
             have al:Hid (bf (ws.drop (k+1+1)) { b with es:=b.es++[⟨l,f⟩],last:=f }=R):=by show _=_;rw[<- o.out,wd i.out m.out G.out a2 (by rw[H.out];exact HP)]
             have az:Hid (gj { b with es:=b.es++[⟨l,f⟩],last:=f }):=qr T.out HP;clear o i m G H a0 HP;go_wp2;exact⟨⟨k+1+1,{ b with es:=b.es++[⟨l,f⟩],last:=f },_,aq,by go_num,by show Value.bool true=Value.bool b.reset;rw[hrs],al.out,az.out,a1.out⟩,by simp[intOf];omega⟩
      .have p:Hid (R=.error 2):=by show _=_;rw[<- a7.out,Mq (by omega),Wj i.out m.out G.out]
       have he:((k:Int)+1 == (ws.length:Int))=true:=by simp;omega
       clear a7 X i m G;rcases aX with ⟨_,d0⟩|⟨_,d0,d1⟩|⟨_,d0,d1,d2⟩|⟨_,d0,d1,d2,d3⟩
       .go_wp2
        refine bodyPost_ret (v:=aj 2) ?_ rfl (bn p.out (bm d _ _ _));rw[results_cell_tmp rfl];unfold aj;go_simp
       .go_wp2
        refine bodyPost_ret (v:=aj 2) ?_ rfl (bn p.out (bm d _ _ _));rw[results_cell_tmp rfl];unfold aj;go_simp
       .go_wp2
        refine bodyPost_ret (v:=aj 2) ?_ rfl (bn p.out (bm d _ _ _));rw[results_cell_tmp rfl];unfold aj;go_simp
       .go_wp2
        refine bodyPost_ret (v:=aj 2) ?_ rfl (bn p.out (bm d _ _ _));rw[results_cell_tmp rfl];unfold aj;go_simp
    .have i:Hid _:=c1
     have m:Hid _:=c2;unfold jl at c1;unfold jp at c2;by_cases aq:k+1<ws.length
     .obtain⟨y,hy⟩:∃ y,ws[k+1]? = some y:=⟨_,List.getElem?_eq_getElem aq⟩
      have aE:=X.out.sr.cell (k+1) y hy;have o:Hid (bf (x::y::ws.drop (k+1+1)) b=R):=by show _=_;rw[<- Iq hy];exact a7.out
      have he:((k:Int)+1 == (ws.length:Int))=false:=by simp;omega
      have bp:(k:Int)+1<(ws.length:Int):=by omega
      clear hy a7;by_cases z0:y.size=2
      .have br:((y.size:Int) != 2)=false:=by simp;omega
       have y0:0<y.size:=by omega
       have y1:1<y.size:=by omega
       have E0:=Dec.bt_get y 0 y0;have E1:=Dec.bt_get y 1 y1;have i3:(y[0]'y0).toNat<256:=(y[0]'y0).toNat_lt;have i4:(y[1]'y1).toNat<256:=(y[1]'y1).toNat_lt;by_cases z1:49<=Dec.bt y 0
       .have i0:¬ ((y[0]'y0).toNat:Int)<49:=by omega
        by_cases z2:Dec.bt y 0<=52
        .have i1:¬ (52:Int)<((y[0]'y0).toNat:Int):=by omega
         by_cases z3:Dec.bt y 1=93
         .have b0:=ac3 ⟨z0,z1,z2,z3⟩
          rw[<- E0]at b0;have al:Hid (bf (ws.drop (k+1+1)) { b with lv:=((y[0]'y0).toNat:Int)-48 }=R):=by show _=_;rw[<- o.out,Wh i.out m.out b0]
          have i2:(((y[1]'y1).toNat:Int) != 93)=false:=by simp;omega
          have aT:Hid _:=X.out.setLv (((y[0]'y0).toNat:Int)-48);have bq:Hid (1<=((y[0]'y0).toNat:Int)-48/\((y[0]'y0).toNat:Int)-48<=4):=by show _/\_;omega
          clear o z1 z2 z3 E0 E1 b0 X d i m;go_wp2;exact⟨⟨k+1+1,{ b with lv:=((y[0]'y0).toNat:Int)-48 },_,aq,by go_num,rfl,al.out,⟨Bd T.out.good bq.out,T.out.f0,T.out.f1,T.out.s0,T.out.s1,T.out.t0,T.out.t1⟩,aT.out⟩,by simp[intOf];omega⟩
         .have p:Hid (R=.error 2):=by show _=_;rw[<- o.out,wa i.out m.out (Du fun h=>z3 h.2.2.2)]
          have i2:(((y[1]'y1).toNat:Int) != 93)=true:=by simp;omega
          clear o z1 z2 z3 E0 E1 X i m;go_wp2;refine bodyPost_ret (v:=aj 2) ?_ rfl (bn p.out (bm d _ _ _));rw[results_cell_tmp rfl];unfold aj;go_simp
        .have p:Hid (R=.error 2):=by show _=_;rw[<- o.out,wa i.out m.out (Du fun h=>z2 h.2.2.1)]
         have i1:(52:Int)<((y[0]'y0).toNat:Int):=by omega
         clear o z1 z2 E0 E1 X i m;go_wp2;refine bodyPost_ret (v:=aj 2) ?_ rfl (bn p.out (bm d _ _ _));rw[results_cell_tmp rfl];unfold aj;go_simp
       .have p:Hid (R=.error 2):=by show _=_;rw[<- o.out,wa i.out m.out (Du fun h=>z1 h.2.1)]
        have i0:((y[0]'y0).toNat:Int)<49:=by omega
        clear o z1 E0 E1 X i m;go_wp2;refine bodyPost_ret (v:=aj 2) ?_ rfl (bn p.out (bm d _ _ _));rw[results_cell_tmp rfl];unfold aj;go_simp
      .have p:Hid (R=.error 2):=by show _=_;rw[<- o.out,wa i.out m.out (Du fun h=>z0 h.1)]
       have br:((y.size:Int) != 2)=true:=by simp;omega
       clear o z0 X i m;go_wp2;refine bodyPost_ret (v:=aj 2) ?_ rfl (bn p.out (bm d _ _ _));rw[results_cell_tmp rfl];unfold aj;go_simp
     .have p:Hid (R=.error 2):=by show _=_;rw[<- a7.out,Mq (by omega),Wg i.out m.out]
      have he:((k:Int)+1 == (ws.length:Int))=true:=by simp;omega
      clear a7 X i m;go_wp2;refine bodyPost_ret (v:=aj 2) ?_ rfl (bn p.out (bm d _ _ _));rw[results_cell_tmp rfl];unfold aj;go_simp
   .have bl:Hid (bf (ws.drop (k+1)) { b with sh:=true }=R):=by
     show _=_
     rw[<- a7.out,Ro c1]
    unfold jl at c1;have aT:Hid _:=X.out.setSh true;clear a7 X d;go_wp2;exact⟨⟨k+1,{ b with sh:=true },_,aZ,by go_num,rfl,bl.out,⟨T.out.good,T.out.f0,T.out.f1,T.out.s0,T.out.s1,T.out.t0,T.out.t1⟩,aT.out⟩,by simp[intOf];omega⟩
  .have bo:k=ws.length:=by omega
   subst bo;have HA:Hid (R=.ok b):=by show _=_;rw[<- HR.out,List.drop_length,a23]
   have bb:=((((X.out.en.grown (au wr w.heap.size 0 (.slice ae b.es.length ce)) (by omega)).grown (au _ w.heap.size 1 (.bool b.sh)) (by omega)).grown (au _ w.heap.size 2 (.int .i64 b.lv)) (by omega))).low (B:=w.heap.size) (by omega);have bk:Hid (ac _ _ _ _):=bb;clear HR bb X;go_wp2;refine bodyPost_ret (v:=.tuple #[.agg #[.slice ae b.es.length ce,.bool b.sh,.int .i64 b.lv],.int .i64 0]) ?_ rfl ⟨_,by rw[HA.out];rfl,by rw[HA.out];exact bk.out,bm d _ _ _⟩;rw[results_cell_tmp rfl];go_simp
theorem Fy (s:ByteArray) (w:World) (a:s.size<=1073741824):Calls prog 23 #[.string s] w fun e w'=>Gi w (aa s) e w':=by
 by_cases h:300<s.size
 .exact a24 s w h a
 .exact Wl s w (by omega)
end Go.Proofs.YtjbmgghehdemdaaGreatDoor
