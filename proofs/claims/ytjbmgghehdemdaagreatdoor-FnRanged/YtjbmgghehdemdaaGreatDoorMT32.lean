/- RdBox -/
import Derived.Test.YtjbmgghehdemdaaGreatDoorMT18
import Derived.Test.YtjbmgghehdemdaaGreatDoorMT31
import Derived.Test.YtjbmgghehdemdaaGreatDoorMT14
namespace Go.Proofs.YtjbmgghehdemdaaGreatDoor
set_option maxRecDepth 100000
set_option maxHeartbeats 16000000
open _root_.Go.Proofs.Tryz
open Go.RowKit
structure RB (u:World) (b2 br bl:Nat) (vE:Value) (sh:Bool) (lv:Int) (e:El):Prop where
 lt:b2<br∧br<bl∧bl<u.heap.size
 res:u.cell? ⟨b2,0,none⟩=some (.slice none 0 0)∧u.cell? ⟨b2,1,none⟩=some (.bool false)∧u.cell? ⟨b2,2,none⟩=some (.int .i64 0)
 rules:u.cell? ⟨br,0,none⟩=some vE∧u.cell? ⟨br,1,none⟩=some (.bool sh)∧u.cell? ⟨br,2,none⟩=some (.int .i64 lv)
 last:u.cell? ⟨bl,0,none⟩=some (.int .i64 e.first)∧u.cell? ⟨bl,1,none⟩=some (.int .i64 e.second)∧u.cell? ⟨bl,2,none⟩=some (.int .i64 e.third)∧u.cell? ⟨bl,3,none⟩=some (.bool e.varies)
 free:(∀ j,u.frozen? ⟨b2,j,none⟩=false)∧(∀ j,u.frozen? ⟨br,j,none⟩=false)∧∀ j,u.frozen? ⟨bl,j,none⟩=false
theorem RB.upTo {u u':World} {b2 br bl B:Nat} {vE:Value} {sh:Bool} {lv:Int} {e:El}(h:RB u b2 br bl vE sh lv e) (hb:Below B u u') (hB:bl<B):RB u' b2 br bl vE sh lv e:=by
 obtain⟨⟨l1,l2,l3⟩,⟨a0,a1,a2⟩,⟨r0,r1,r2⟩,⟨e0,e1,e2,e3⟩,f0,f1,f2⟩:=h;have k2:b2<B:=by omega
 have kr:br<B:=by omega
 exact⟨⟨l1,l2,Nat.lt_of_lt_of_le l3 hb.size⟩,⟨by rw[hb.cell k2];exact a0,by rw[hb.cell k2];exact a1,by rw[hb.cell k2];exact a2⟩,⟨by rw[hb.cell kr];exact r0,by rw[hb.cell kr];exact r1,by rw[hb.cell kr];exact r2⟩,
  ⟨by rw[hb.cell hB];exact e0,by rw[hb.cell hB];exact e1,by rw[hb.cell hB];exact e2,by rw[hb.cell hB];exact e3⟩,fun j=>by rw[hb.frozen (p:=⟨b2,j,none⟩) k2];exact f0 j,fun j=>by rw[hb.frozen (p:=⟨br,j,none⟩) kr];exact f1 j,fun j=>by rw[hb.frozen (p:=⟨bl,j,none⟩) hB];exact f2 j⟩
theorem RB.below {u u':World} {b2 br bl:Nat} {vE:Value} {sh:Bool} {lv:Int} {e:El}(h:RB u b2 br bl vE sh lv e) (hb:Below u.heap.size u u'):RB u' b2 br bl vE sh lv e:=h.upTo hb h.lt.2.2
theorem RB.setE {u:World} {b2 br bl:Nat} {vE:Value} {sh:Bool} {lv:Int} {e:El}(h:RB u b2 br bl vE sh lv e) (v:Value):RB (u.setCell ⟨br,0,none⟩ v) b2 br bl v sh lv e:=by
 obtain⟨⟨l1,l2,l3⟩,⟨a0,a1,a2⟩,⟨r0,r1,r2⟩,⟨e0,e1,e2,e3⟩,f0,f1,f2⟩:=h;exact⟨⟨l1,l2,by simpa using l3⟩,⟨by rw[de (by omega)];exact a0,by rw[de (by omega)];exact a1,by rw[de (by omega)];exact a2⟩,
  ⟨Ae r0,by rw[de (by omega)];exact r1,by rw[de (by omega)];exact r2⟩,
  ⟨by rw[de (by omega)];exact e0,by rw[de (by omega)];exact e1,by rw[de (by omega)];exact e2,by rw[de (by omega)];exact e3⟩,
  fun j=>by rw[World.frozen?_setCell];exact f0 j,fun j=>by rw[World.frozen?_setCell];exact f1 j,fun j=>by rw[World.frozen?_setCell];exact f2 j⟩
theorem RB.setSh {u:World} {b2 br bl:Nat} {vE:Value} {sh:Bool} {lv:Int} {e:El}(h:RB u b2 br bl vE sh lv e) (b:Bool):RB (u.setCell ⟨br,1,none⟩ (.bool b)) b2 br bl vE b lv e:=by
 obtain⟨⟨l1,l2,l3⟩,⟨a0,a1,a2⟩,⟨r0,r1,r2⟩,⟨e0,e1,e2,e3⟩,f0,f1,f2⟩:=h;exact⟨⟨l1,l2,by simpa using l3⟩,⟨by rw[de (by omega)];exact a0,by rw[de (by omega)];exact a1,by rw[de (by omega)];exact a2⟩,
  ⟨by rw[de (by omega)];exact r0,Ae r1,by rw[de (by omega)];exact r2⟩,
  ⟨by rw[de (by omega)];exact e0,by rw[de (by omega)];exact e1,by rw[de (by omega)];exact e2,by rw[de (by omega)];exact e3⟩,
  fun j=>by rw[World.frozen?_setCell];exact f0 j,fun j=>by rw[World.frozen?_setCell];exact f1 j,fun j=>by rw[World.frozen?_setCell];exact f2 j⟩
theorem RB.setLv {u:World} {b2 br bl:Nat} {vE:Value} {sh:Bool} {lv:Int} {e:El}(h:RB u b2 br bl vE sh lv e) (n:Int):RB (u.setCell ⟨br,2,none⟩ (.int .i64 n)) b2 br bl vE sh n e:=by
 obtain⟨⟨l1,l2,l3⟩,⟨a0,a1,a2⟩,⟨r0,r1,r2⟩,⟨e0,e1,e2,e3⟩,f0,f1,f2⟩:=h;exact⟨⟨l1,l2,by simpa using l3⟩,⟨by rw[de (by omega)];exact a0,by rw[de (by omega)];exact a1,by rw[de (by omega)];exact a2⟩,
  ⟨by rw[de (by omega)];exact r0,by rw[de (by omega)];exact r1,Ae r2⟩,
  ⟨by rw[de (by omega)];exact e0,by rw[de (by omega)];exact e1,by rw[de (by omega)];exact e2,by rw[de (by omega)];exact e3⟩,
  fun j=>by rw[World.frozen?_setCell];exact f0 j,fun j=>by rw[World.frozen?_setCell];exact f1 j,fun j=>by rw[World.frozen?_setCell];exact f2 j⟩
theorem RB.setLast {u:World} {b2 br bl:Nat} {vE:Value} {sh:Bool} {lv:Int} {e:El}(h:RB u b2 br bl vE sh lv e) (x:El):RB (mb u bl x) b2 br bl vE sh lv x:=by
 obtain⟨⟨l1,l2,l3⟩,⟨a0,a1,a2⟩,⟨r0,r1,r2⟩,⟨e0,e1,e2,e3⟩,f0,f1,f2⟩:=h;refine⟨⟨l1,l2,by unfold mb;simpa using l3⟩,⟨by rw[qs (by omega)];exact a0,by rw[qs (by omega)];exact a1,by rw[qs (by omega)];exact a2⟩,
  ⟨by rw[qs (by omega)];exact r0,by rw[qs (by omega)];exact r1,by rw[qs (by omega)];exact r2⟩,?_,
  fun j=>by unfold mb;simpa using f0 j,fun j=>by unfold mb;simpa using f1 j,fun j=>by unfold mb;simpa using f2 j⟩
 unfold mb;have k1:(u.setCell ⟨bl,0,none⟩ (.int .i64 x.first)).cell? ⟨bl,1,none⟩=some (.int .i64 e.second):=by rw[de (by omega)];exact e1
 have k2:((u.setCell ⟨bl,0,none⟩ (.int .i64 x.first)).setCell ⟨bl,1,none⟩ (.int .i64 x.second)).cell? ⟨bl,2,none⟩=some (.int .i64 e.third):=by rw[de (by omega),de (by omega)];exact e2
 have k3:(((u.setCell ⟨bl,0,none⟩ (.int .i64 x.first)).setCell ⟨bl,1,none⟩ (.int .i64 x.second)).setCell ⟨bl,2,none⟩ (.int .i64 x.third)).cell? ⟨bl,3,none⟩=some (.bool e.varies):=by rw[de (by omega),de (by omega),de (by omega)];exact e3
 refine⟨?_,?_,?_,?_⟩
 .rw[de (by omega),de (by omega),de (by omega)]
  exact Ae e0
 .rw[de (by omega),de (by omega)]
  exact Ae k1
 .rw[de (by omega)]
  exact Ae k2
 .exact Ae k3
theorem ak.grown {u u':World} {B:Nat} {row:Option Nat} {v:Value} {ss:List ByteArray}(h:ak u B v ss) (hg:u.grownBy u' row) (hb:∀ g b,v.ownBlock=some g→row=some b→g≠b):ak u' B v ss :=
 World.ownsRow.kept h hg (by
  cases e:v.ownBlock with
  | none=>exact .inl rfl
  | some g=>exact .inr fun c=>hb g g e c.symm rfl)
structure StM (w u:World) (ws:List ByteArray) (vw:Value) (br bl:Nat) (st:RS) (vE:Value):Prop where
 rb:RB u w.heap.size br bl vE st.sh st.lv st.last
 en:ac u (bl+1) vE st.es
 sr:ak u (w.heap.size+1) vw ws
 vl:∀ g,vw.ownBlock=some g→g<br
 be:Below w.heap.size w u
theorem StM.step {w u u':World} {ws:List ByteArray} {vw:Value} {br bl:Nat} {st:RS} {vE:Value}(h:StM w u ws vw br bl st vE) (hb:Below u.heap.size u u'):StM w u' ws vw br bl st vE :=
 ⟨h.rb.below hb,h.en.below hb,h.sr.below hb,h.vl,h.be.trans (hb.mono h.be.size)⟩
theorem StM.setSh {w u:World} {ws:List ByteArray} {vw:Value} {br bl:Nat} {st:RS} {vE:Value}(h:StM w u ws vw br bl st vE) (b:Bool):StM w (u.setCell ⟨br,1,none⟩ (.bool b)) ws vw br bl { st with sh:=b } vE:=by
 have hl:=h.rb.lt;exact⟨h.rb.setSh b,h.en.grown (au u br 1 _) (by omega),h.sr.grown (au u br 1 _) (fun g b' h1 h2=>by cases h2;have:=h.vl g h1;omega),h.vl,h.be.setCell (Nat.le_of_lt hl.1) _⟩
theorem StM.setLv {w u:World} {ws:List ByteArray} {vw:Value} {br bl:Nat} {st:RS} {vE:Value}(h:StM w u ws vw br bl st vE) (n:Int):StM w (u.setCell ⟨br,2,none⟩ (.int .i64 n)) ws vw br bl { st with lv:=n } vE:=by
 have hl:=h.rb.lt;exact⟨h.rb.setLv n,h.en.grown (au u br 2 _) (by omega),h.sr.grown (au u br 2 _) (fun g b' h1 h2=>by cases h2;have:=h.vl g h1;omega),h.vl,h.be.setCell (Nat.le_of_lt hl.1) _⟩
theorem StM.setLast {w u:World} {ws:List ByteArray} {vw:Value} {br bl:Nat} {st:RS} {vE:Value}(h:StM w u ws vw br bl st vE) (x:El) (r:Bool):StM w (mb u bl x) ws vw br bl { st with last:=x,reset:=r } vE:=by
 have hl:=h.rb.lt;exact⟨h.rb.setLast x,h.en.grown (pz u bl x) (by omega),h.sr.grown (pz u bl x) (fun g b' h1 h2=>by cases h2;have:=h.vl g h1;omega),h.vl,Q6 h.be (by omega) x⟩
theorem Ab {w:World} {B:Nat} {v:Value} {st:RS} {sh:Bool} {lv:Int} {n:Nat}(hE:ac w B v st.es) (hi:gj st) (h:n=1∨n=2∨n=3) :
  Calls prog 58 #[.agg #[v,.bool sh,.int .i64 lv],.agg #[.int .i64 st.last.first,.int .i64 st.last.second,.int .i64 st.last.third,.bool st.last.varies],.int .i64 (n:Int)] w fun x w'=>x=.returned (elV (gk st.es st.last n))∧Below w.heap.size w w':=by
 obtain⟨h1,h2,h3⟩:=cg hi.good;rcases h with rfl|rfl|rfl
 .exact Q0 hE (by omega) (fun e he=>(h3 e he).2.1.2) hi.f0 hi.f1
 .exact Q1 hE h1 (fun e he=>(h3 e he).2.2.1.2) hi.s0 hi.s1
 .exact Q2 hE h1 (fun e he=>(h3 e he).2.2.2.1.2) hi.t0 hi.t1
theorem StM.put {w u u':World} {ws:List ByteArray} {vw:Value} {br bl g cap:Nat} {st:RS} {vE vl:Value} {l:List Int} {xs:List Value}(h:StM w u ws vw br bl st vE) (hl:xs.length=st.es.length)
  (h2:∀ (k:Nat) (e:Ent),st.es[k]? = some e→∃ x,xs[k]? = some x∧ab u (bl+1) x e.runes) (hI:ab u (bl+1) vl l)
  (h1:u.ownsRow (bl+1) 117 5 vE st.es.length (eu xs st.es)) (hg:u.grownBy u' vE.ownBlock)
  (ho:u'.ownsRow (bl+1) 117 5 (.slice (some ⟨g,0,none⟩) (st.es.length+1) cap) (st.es.length+1) (eu xs st.es++gm vl st.last)) :
  StM w (u'.setCell ⟨br,0,none⟩ (.slice (some ⟨g,0,none⟩) (st.es.length+1) cap)) ws vw br bl { st with es:=st.es++[⟨l,st.last⟩] } (.slice (some ⟨g,0,none⟩) (st.es.length+1) cap):=by
 have a2:=h.rb.lt;have a0:∀ j,vE.ownBlock=some j→bl+1≤j:=fun j hj=>(World.ownsRow.lt h1 j hj).1
 have a1:Below (bl+1) u u':=Below.grown (Below.refl (bl+1) u) hg (by omega) a0;have hE:ac u' (bl+1) (.slice (some ⟨g,0,none⟩) (st.es.length+1) cap) (st.es++[⟨l,st.last⟩]):=ac.snoc (e:=⟨l,st.last⟩) hl h2 hI h1 hg ho;refine⟨(h.rb.upTo a1 (Nat.lt_succ_self _)).setE _,hE.grown (au u' br 0 _) (by omega),(h.sr.grown hg (fun g b h3 h4=>by have:=h.vl g h3;have:=a0 b h4;omega)).grown (au u' br 0 _) (fun g b' h1 h2=>by cases h2;have:=h.vl g h1;omega),h.vl,?_⟩;exact (Below.grown h.be hg h.be.size (fun j hj=>by have:=a0 j hj;omega)).setCell (Nat.le_of_lt a2.1) _
theorem jh.up {w:World} {B T T':Nat} {v:Value} {es:List Ent}(h:jh w B T v es) (hT:T≤T'):jh w B T' v es:=by
 obtain⟨xs,hl,h1,h2,h3,h4,h5⟩:=h;exact⟨xs,hl,h1,h2,h3,fun g hg=>Nat.lt_of_lt_of_le (h4 g hg) hT,fun i x g hx hg=>Nat.lt_of_lt_of_le (h5 i x g hx hg) hT⟩
theorem jh.grown {u u':World} {B T b:Nat} {v:Value} {es:List Ent}(h:jh u B T v es) (hg:u.grownBy u' (some b)) (hb:b<B):jh u' B T v es:=by
 have ne:∀ {v:Value},(∀ g,v.ownBlock=some g→B≤g)→v.ownBlock=none∨v.ownBlock≠some b:=fun {v} h=>by
  cases e:v.ownBlock with
  | none=>exact .inl rfl
  | some g =>
   refine .inr fun c=>?_
   have:=h g e
   cases c
   omega
 obtain⟨xs,hl,h1,h2,h3,h4,h5⟩:=h;refine⟨xs,hl,World.ownsRow.kept h1 hg (ne fun g hg=>(World.ownsRow.lt h1 g hg).1),fun k e he=>?_,h3,h4,h5⟩;obtain⟨x,hx,hI⟩:=h2 k e he;exact⟨x,hx,World.ownsRow.kept hI hg (ne fun g hg=>(World.ownsRow.lt hI g hg).1)⟩
def rdC (l:List UInt8) (vE:Value) (st:RS):Array Value:=#[.string ⟨l.toArray⟩,vE,.bool st.sh,.int .i64 st.lv,.int .i64 st.last.first,.int .i64 st.last.second,.int .i64 st.last.third,.bool st.last.varies,.bool st.reset]
structure RdM (w u:World) (b T:Nat) (l:List UInt8) (st:RS) (vE:Value):Prop where
 blk:u.heap[b]? = some (.cells (rdC l vE st) 184)
 en:jh u (b+1) T vE st.es
 tl:T≤u.heap.size
 be:Below b w u
 tab:dr u
 tb:7<b∧10<b∧11<b
theorem RdM.lt {w u:World} {b T:Nat} {l:List UInt8} {st:RS} {vE:Value}(h:RdM w u b T l st vE):b<u.heap.size:=(Array.getElem?_eq_some_iff.1 h.blk).1
theorem RdM.cells {w u:World} {b T:Nat} {l:List UInt8} {st:RS} {vE:Value}(h:RdM w u b T l st vE) :
  u.cell? ⟨b,0,none⟩=some (.string ⟨l.toArray⟩)∧u.cell? ⟨b,1,none⟩=some vE∧u.cell? ⟨b,2,none⟩=some (.bool st.sh)∧u.cell? ⟨b,3,none⟩=some (.int .i64 st.lv)∧u.cell? ⟨b,4,none⟩=some (.int .i64 st.last.first)∧u.cell? ⟨b,5,none⟩=some (.int .i64 st.last.second)∧u.cell? ⟨b,6,none⟩=some (.int .i64 st.last.third)∧u.cell? ⟨b,7,none⟩=some (.bool st.last.varies)∧u.cell? ⟨b,8,none⟩=some (.bool st.reset)∧∀ j,u.frozen? ⟨b,j,none⟩=false :=
 ⟨cell_of_row _ _ 0 _ _ _ h.blk,cell_of_row _ _ 1 _ _ _ h.blk,cell_of_row _ _ 2 _ _ _ h.blk,cell_of_row _ _ 3 _ _ _ h.blk,cell_of_row _ _ 4 _ _ _ h.blk,cell_of_row _ _ 5 _ _ _ h.blk,cell_of_row _ _ 6 _ _ _ h.blk,cell_of_row _ _ 7 _ _ _ h.blk,cell_of_row _ _ 8 _ _ _ h.blk,fun j=>by simp[World.frozen?,h.blk]⟩
theorem RdM.step {w u u':World} {b T:Nat} {l:List UInt8} {st:RS} {vE:Value}(h:RdM w u b T l st vE) (hb:Below u.heap.size u u'):RdM w u' b T l st vE :=
 ⟨(hb.block _ h.lt).trans h.blk,h.en.below hb,Nat.le_trans h.tl hb.size,h.be.trans (hb.mono (Nat.le_of_lt h.lt)),h.tab.below hb,h.tb⟩
theorem RdM.up {w u:World} {b T:Nat} {l:List UInt8} {st:RS} {vE:Value}(h:RdM w u b T l st vE):RdM w u b u.heap.size l st vE :=
 ⟨h.blk,h.en.up h.tl,bR,h.be,h.tab,h.tb⟩
theorem db.set {u:World} {g b i:Nat} {zs:List Int} {x:Value}(h:db u g zs) (hg:g<b):db (u.setCell ⟨b,i,none⟩ x) g zs:=by
 obtain⟨t,fr,hh⟩:=h;exact⟨t,fr,by rw[Below.heap_setCell _ _ _ _ (by show g≠b;omega)];exact hh⟩
theorem RdM.set {w u:World} {b T i:Nat} {l l':List UInt8} {st st':RS} {vE vE' x:Value}(h:RdM w u b T l st vE) (hc:(rdC l vE st).setIfInBounds i x=rdC l' vE' st') (hv:vE'=vE) (he:st'.es=st.es) :
  RdM w (u.setCell ⟨b,i,none⟩ x) b T l' st' vE':=by
 subst hv;refine⟨?_,?_,?_,h.be.setCell bR _,⟨h.tab.1.set h.tb.1,h.tab.2.1.set h.tb.2.1,h.tab.2.2.set h.tb.2.2⟩,h.tb⟩
 .rw[heap_setCell_same u b i _ _ x h.blk,hc]
 .rw[he]
  exact h.en.grown (au u b i x) (Nat.lt_succ_self _)
 .simpa using h.tl
def ym (u:World) (b:Nat) (e:El):World:=(((u.setCell ⟨b,4,none⟩ (.int .i64 e.first)).setCell ⟨b,5,none⟩ (.int .i64 e.second)).setCell ⟨b,6,none⟩ (.int .i64 e.third)).setCell ⟨b,7,none⟩ (.bool e.varies)
theorem RdM.setLast {w u:World} {b T:Nat} {l:List UInt8} {st:RS} {vE:Value}(h:RdM w u b T l st vE) (e:El):RdM w (ym u b e) b T l { st with last:=e } vE:=by
 have h1:RdM w (u.setCell ⟨b,4,none⟩ (.int .i64 e.first)) b T l { st with last:={ st.last with first:=e.first } } vE:=h.set rfl rfl rfl;have h2:RdM w ((u.setCell ⟨b,4,none⟩ (.int .i64 e.first)).setCell ⟨b,5,none⟩ (.int .i64 e.second)) b T l { st with last:={ st.last with first:=e.first,second:=e.second } } vE:=h1.set rfl rfl rfl;have h3:RdM w (((u.setCell ⟨b,4,none⟩ (.int .i64 e.first)).setCell ⟨b,5,none⟩ (.int .i64 e.second)).setCell ⟨b,6,none⟩ (.int .i64 e.third)) b T l { st with last:={ st.last with first:=e.first,second:=e.second,third:=e.third } } vE:=h2.set rfl rfl rfl;exact h3.set rfl rfl rfl
theorem Rr (u:World) (b:Nat) (e:El):u.grownBy (ym u b e) (some b) :=
 (((au u b 4 _).trans (au _ b 5 _)).trans (au _ b 6 _)).trans (au _ b 7 _)
theorem db.grown {u u':World} {g:Nat} {zs:List Int} {row:Option Nat}(h:db u g zs) (hg:u.grownBy u' row) (hr:∀ j,row=some j→g≠j):db u' g zs:=by
 obtain⟨t,fr,hh⟩:=h;exact⟨t,fr,by rw[hg.block g (Array.getElem?_eq_some_iff.1 hh).1 (fun c=>hr g c.symm rfl)];exact hh⟩
theorem RdM.put {w u u':World} {b T B' g cap:Nat} {l:List UInt8} {st:RS} {vE vl:Value} {r:List Int} {xs:List Value}(h:RdM w u b T l st vE) (a2:xs.length=st.es.length)
  (h1:u.ownsRow (b+1) 117 5 vE st.es.length (eu xs st.es))
  (h2:∀ (k:Nat) (e:Ent),st.es[k]? = some e→∃ x,xs[k]? = some x∧ab u (b+1) x e.runes)
  (h3:∀ (i j:Nat) (x y:Value),i≠j→xs[i]? = some x→xs[j]? = some y→x.ownBlock=none∨x.ownBlock≠y.ownBlock)
  (h5:∀ (i:Nat) (x:Value) (g:Nat),xs[i]? = some x→x.ownBlock=some g→g<T)
  (hI:ab u B' vl r) (hB:T≤B') (a7:b+1≤B') (hg:u.grownBy u' vE.ownBlock)
  (ho:u'.ownsRow (b+1) 117 5 (.slice (some ⟨g,0,none⟩) (st.es.length+1) cap) (st.es.length+1) (eu xs st.es++gm vl st.last)) :
  RdM w (u'.setCell ⟨b,1,none⟩ (.slice (some ⟨g,0,none⟩) (st.es.length+1) cap)) b u'.heap.size l { st with es:=st.es++[⟨r,st.last⟩] } (.slice (some ⟨g,0,none⟩) (st.es.length+1) cap):=by
 have a0:∀ j,vE.ownBlock=some j→b+1≤j:=fun j hj=>(World.ownsRow.lt h1 j hj).1
 have a4:ab u (b+1) vl r:=fe hI a7;have hE:ac u' (b+1) (.slice (some ⟨g,0,none⟩) (st.es.length+1) cap) (st.es++[⟨r,st.last⟩]):=ac.snoc (e:=⟨r,st.last⟩) a2 h2 a4 h1 hg ho;have hD:jh u' (b+1) u'.heap.size (.slice (some ⟨g,0,none⟩) (st.es.length+1) cap) (st.es++[⟨r,st.last⟩]):=by
  refine⟨xs++[vl],by simp[a2],?_,?_,?_,?_,?_⟩
  .rw[Eh xs st.es vl ⟨r,st.last⟩ a2,List.length_append]
   exact ho
  .intro k e he
   by_cases hk:k<st.es.length
   .rw[List.getElem?_append_left hk]at he
    obtain⟨z,hz,a6⟩:=h2 k e he;have ad:=(List.getElem?_eq_some_iff.1 hz).1;exact⟨z,by rw[List.getElem?_append_left ad];exact hz,World.ownsRow.kept a6 hg (dg a6 h1 (by decide))⟩
   .have aa:k=st.es.length:=by
     have:=(List.getElem?_eq_some_iff.1 he).1;simp at this;omega
    subst aa;simp at he;subst he;exact⟨vl,by rw[<- a2];simp,World.ownsRow.kept a4 hg (dg a4 h1 (by decide))⟩
  .have a3:∀ (i:Nat) (x:Value),i<xs.length→(xs++[vl])[i]? = some x→xs[i]? = some x:=fun i x hi hx=>by rw[List.getElem?_append_left hi]at hx;exact hx
   have new:∀ (i:Nat) (x:Value),¬ i<xs.length→(xs++[vl])[i]? = some x→x=vl:=fun i x hi hx=>by
    have h8:=(List.getElem?_eq_some_iff.1 hx).1;have h9:i=xs.length:=by simp at h8;omega
    subst h9;simp at hx;exact hx.symm
   intro i j x y a9 hx hy;by_cases ci:i<xs.length
   .by_cases cj:j<xs.length
    .exact h3 i j x y a9 (a3 i x ci hx) (a3 j y cj hy)
    .have ey:=new j y cj hy
     subst ey
     cases e:x.ownBlock with
     | none=>exact .inl rfl
     | some gx =>
      refine .inr fun c=>?_
      have l1:=h5 i x gx (a3 i x ci hx) e;have l2:=(World.ownsRow.lt hI gx c.symm).1;omega
   .have ex:=new i x ci hx
    subst ex;by_cases cj:j<xs.length
    .cases e:y.ownBlock with
     | none =>
      cases e2:x.ownBlock with
      | none=>exact .inl rfl
      | some gx=>exact .inr fun c=>by cases c
     | some gy =>
      refine .inr fun c=>?_
      have l1:=h5 j y gy (a3 j y cj hy) e;have l2:=(World.ownsRow.lt hI gy c).1;omega
    .exfalso
     have h8:=(List.getElem?_eq_some_iff.1 hx).1;have h9:=(List.getElem?_eq_some_iff.1 hy).1;simp at h8 h9;omega
  .intro g' hg'
   exact (World.ownsRow.lt ho g' hg').2
  .intro i x gx hx hgx
   by_cases ci:i<xs.length
   .rw[List.getElem?_append_left ci]at hx
    exact Nat.lt_of_lt_of_le (h5 i x gx hx hgx) (Nat.le_trans h.tl hg.size)
   .have h8:=(List.getElem?_eq_some_iff.1 hx).1
    have h9:i=xs.length:=by simp at h8;omega
    subst h9;simp at hx;subst hx;exact Nat.lt_of_lt_of_le (World.ownsRow.lt hI gx hgx).2 hg.size
 have a5:u'.heap[b]? = some (.cells (rdC l vE st) 184):=by
  rw[hg.block b h.lt (fun c=>by have:=a0 b c.symm;omega)];exact h.blk
 have a8:Below b w u':=Below.grown h.be hg (Nat.le_of_lt h.lt) (fun j hj=>by have:=a0 j hj;omega);have a1:dr u':=⟨h.tab.1.grown hg (fun j hj=>by have:=a0 j hj;have:=h.tb.1;omega),h.tab.2.1.grown hg (fun j hj=>by have:=a0 j hj;have:=h.tb.2.1;omega),h.tab.2.2.grown hg (fun j hj=>by have:=a0 j hj;have:=h.tb.2.2;omega)⟩;refine⟨?_,hD.grown (au u' b 1 _) (Nat.lt_succ_self _),by simp,a8.setCell bR _,⟨a1.1.set h.tb.1,a1.2.1.set h.tb.2.1,a1.2.2.set h.tb.2.2⟩,h.tb⟩;rw[heap_setCell_same u' b 1 _ _ _ a5];rfl
theorem Ed {w wr:World}(h:Below w.heap.size w wr) (x y z t:Value) (o:Obj):Below w.heap.size w (((((wr.setCell ⟨w.heap.size+1,0,none⟩ x).setCell ⟨w.heap.size+1,1,none⟩ y).setCell ⟨w.heap.size+1,2,none⟩ z).setCell ⟨w.heap.size+1,3,none⟩ t).alloc o) :=
 (fg h x y z t).alloc (fg h x y z t).size _
theorem Li {l:List Int}(h:bd l=true):∀ x ∈ l,0≤x∧x≤1114111∧¬ (55296≤x∧x≤57343):=by
 unfold bd at h;rw[Bool.and_eq_true,Bool.and_eq_true]at h;intro x hx;have:=l7 ((qi h.2.1).2 x hx);omega
theorem Iw {w:World} {B B':Nat} {v:Value} {es:List Ent} {sh:Bool} {lv:Int} {vl:Value} {l:List Int}(hE:ac w B v es) (hL:ab w B' vl l) (hn:es.length≤1048576) (hl:l.length≤1048576) (hr:∀ e ∈ es,e.runes.length≤1048576) (ht:dr w) :
  Calls prog 167 #[.agg #[v,.bool sh,.int .i64 lv],vl] w fun e w'=>e=.returned (fo (mr es lv l))∧Below w.heap.size w w':=by
 have a3:=((Below.refl w.heap.size w).alloc bR (.cells #[v,.bool sh,.int .i64 lv] 56)).alloc (by simp) (.cells #[.int .i64 0,.int .i64 0,.int .i64 0,.bool false] 111);have a7:Hid (um _ _ _ _ _ _):=Me w v sh lv;have HB:Hid _:=a3;have HE:Hid (ac _ _ _ _):=hE.below a3;have HL:Hid (ab _ _ _ _):=hL.below a3;have HT:Hid (dr _):=ht.below a3;have GR:=ut (sh:=sh) (lv:=lv) HE.out hr HT.out;clear a3 hE hL ht
 cases hro:ay es lv
 .rw[hro]at GR
  have HF:Hid (mr es lv l=none):=by show _=_;unfold mr;rw[if_neg (by simp[hro])]
  clear hr HE HL HT hro;go_enter func167,ntmps167;go_wp2_with fail;refine GR.mono ?_;rintro e' w2 ⟨rfl,b2⟩;have hx:=a7.out.below b2;have b4:=HB.out.trans (b2.mono HB.out.size);clear GR a7 HB b2;obtain⟨⟨n1,n2⟩,_,⟨q0,q1,q2,q3⟩,f0⟩:=hx.facts;clear hx;go_wp2;refine bodyPost_ret (v:=.tuple #[.agg #[.int .i64 0,.int .i64 0,.int .i64 0,.bool false],.bool false]) ?_ rfl ⟨mj HF.out,fg b4 _ _ _ _⟩;rw[results_cell_tmp rfl];go_simp
 .rw[hro]at GR
  go_enter func167,ntmps167;go_wp2_with fail;refine GR.mono ?_;rintro e' w2 ⟨rfl,b2⟩;have a8:Hid (um _ _ _ _ _ _):=a7.out.below b2;have a2:Hid _:=HB.out.trans (b2.mono HB.out.size);have ae:Hid (ac _ _ _ _):=HE.out.below b2;have a4:Hid (ab _ _ _ _):=HL.out.below b2;have a5:Hid (dr _):=HT.out.below b2;have RN:=Au hl a4.out a5.out;clear GR a7 HB HE HL HT b2
  cases hru:bd l
  .rw[hru]at RN
   have HF:Hid (mr es lv l=none):=by show _=_;unfold mr;rw[if_neg (by simp[hru])]
   clear hr ae a4 a5 hro hru;go_wp2_with fail;refine RN.mono ?_;rintro e' w3 ⟨rfl,b3⟩;have hx:=a8.out.below b3;have b4:=a2.out.trans (b3.mono a2.out.size);clear RN a8 a2 b3;obtain⟨⟨n1,n2⟩,_,⟨q0,q1,q2,q3⟩,f0⟩:=hx.facts;clear hx;go_wp2;refine bodyPost_ret (v:=.tuple #[.agg #[.int .i64 0,.int .i64 0,.int .i64 0,.bool false],.bool false]) ?_ rfl ⟨mj HF.out,fg b4 _ _ _ _⟩;rw[results_cell_tmp rfl];go_simp
  .rw[hru]at RN
   have HF:Hid (mr es lv l=fj es l):=by show _=_;unfold mr;rw[if_pos ⟨hro,hru⟩]
   have hg:=Li hru;have ak:1≤l.length:=by
    unfold bd at hru;rw[Bool.and_eq_true]at hru;exact (of_decide_eq_true hru.1).1
   clear hro hru;go_wp2_with fail;refine RN.mono ?_;rintro e' w3 ⟨rfl,b3⟩;have HX:Hid (um _ _ _ _ _ _):=a8.out.below b3;have a0:Hid _:=a2.out.trans (b3.mono a2.out.size);have a1:Hid (ab _ _ _ _):=a4.out.below b3;have a6:Hid (dr _):=a5.out.below b3;have EL:=Ca (ae.out.below b3) a1.out hn hl hr;clear RN a8 a2 ae a4 a5 b3 hr;obtain⟨_,⟨p0,p1,p2⟩,_,_⟩:=HX.out.facts
   cases ho:dj es l with
   | some e =>
    rw[ho]at EL;have HO:Hid (mr es lv l=some e):=HF.out.trans (a89 ho);unfold fo ph elV at EL;simp only[Option.getD_some,Option.isSome_some]at EL;clear HF ho hg a1 a6;go_wp2_with fail;refine EL.mono ?_;rintro e' w4 ⟨rfl,b4⟩;have hx:=HX.out.below b4;have b5:=a0.out.trans (b4.mono a0.out.size);clear EL HX a0 b4 p0 p1 p2;obtain⟨⟨n1,n2⟩,_,⟨q0,q1,q2,q3⟩,f0⟩:=hx.facts;clear hx;go_wp2;refine bodyPost_ret (v:=.tuple #[.agg #[.int .i64 e.first,.int .i64 e.second,.int .i64 e.third,.bool e.varies],.bool true]) ?_ rfl ⟨Dw HO.out,Ed b5 _ _ _ _ _⟩;rw[results_cell_tmp rfl];go_simp
   | none =>
    rw[ho]at EL;unfold fo ph elV at EL;simp only[Option.getD_none,Option.isSome_none]at EL;have ha:=yu ho;clear ho;by_cases h1:l.length=1
    .obtain⟨r,rfl⟩:∃ r,l=[r]:=List.length_eq_one_iff.1 h1
     obtain⟨g,cap,rfl⟩:=jr a1.out (by simp);have HO:Hid (mr es lv [r]=mk (base r)):=HF.out.trans (H9 ha);have ag:=hg r (by simp);clear HF ha hg ak h1 hl;simp only[List.length_singleton]at *;go_wp2_with fail;refine EL.mono ?_;rintro e' w4 ⟨rfl,b4⟩;have a9:=(Below.refl w4.heap.size w4).alloc bR (.cells #[.int .i64 0,.int .i64 0,.int .i64 0,.bool false] 111);have ah:Hid (um _ _ _ _ _ _):=(HX.out.below b4).below a9;have aa:=a0.out.trans (b4.mono a0.out.size);have ad:Hid _:=aa.trans (a9.mono aa.size);have c0:w4.cell? ⟨g,0,none⟩=some (.int .i64 r):=by
      have h3:=World.ownsRow.cellAt (n:=1) (a1.out.below b4) 0 (by omega);rw[h3];rfl
     have aj:g<w4.heap.size:=(World.ownsRow.lt (a1.out.below b4) g rfl).2;have BS:=By r ag.1 ag.2.1 ag.2.2 _ ((a6.out.below b4).below a9).1;clear EL HX a0 aa b4 p0 p1 p2 a1 a6 a9;obtain⟨o,af⟩:∃ o,Hid (mk (base r)=o):=⟨_,rfl⟩
     rw[af.out]at BS;have ai:Hid (mr es lv [r]=o):=HO.out.trans af.out;clear HO af;unfold fo elV at BS;go_wp2_with fail;refine BS.mono ?_;rintro e' w5 ⟨rfl,b5⟩;have hx:=ah.out.below b5;have b6:=ad.out.trans (b5.mono ad.out.size);clear BS ah ad b5 c0 aj;obtain⟨⟨n1,n2⟩,_,⟨q0,q1,q2,q3⟩,f0⟩:=hx.facts;clear hx;go_wp2;refine bodyPost_ret (v:=fo o) ?_ rfl ⟨by rw[ai.out],fg b6 _ _ _ _⟩;rw[results_cell_tmp rfl];unfold fo elV;go_simp
    .have HO:Hid (mr es lv l=none):=HF.out.trans (Jr ha h1)
     obtain⟨a,c,rfl⟩:∃ a c,vl=.slice a l.length c:=by
      rcases a1.out.form with ⟨rfl,rfl⟩|⟨g,cap,rfl,_,_⟩
      .exact⟨_,_,rfl⟩
      .exact⟨_,_,rfl⟩
     have h2:(1:Int)<(l.length:Int):=by omega
     clear HF ha hg a1 a6 h1;go_wp2_with fail;refine EL.mono ?_;rintro e' w4 ⟨rfl,b4⟩;have hx:=HX.out.below b4;have b5:=a0.out.trans (b4.mono a0.out.size);clear EL HX a0 b4 p0 p1 p2;obtain⟨⟨n1,n2⟩,_,⟨q0,q1,q2,q3⟩,f0⟩:=hx.facts;clear hx;go_wp2;refine bodyPost_ret (v:=.tuple #[.agg #[.int .i64 0,.int .i64 0,.int .i64 0,.bool false],.bool false]) ?_ rfl ⟨mj HO.out,Ed b5 _ _ _ _ _⟩;rw[results_cell_tmp rfl];go_simp
end Go.Proofs.YtjbmgghehdemdaaGreatDoor
