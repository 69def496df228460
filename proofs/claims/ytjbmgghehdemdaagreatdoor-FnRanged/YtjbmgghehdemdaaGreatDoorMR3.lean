/- Table2 -/
import Derived.Test.YtjbmgghehdemdaaGreatDoorMR2
import Derived.Deep.RegionHeldLaw
namespace Go.Proofs.YtjbmgghehdemdaaGreatDoor
set_option maxRecDepth 100000
set_option maxHeartbeats 16000000
open _root_.Go.Proofs.Tryz
open Go.RowKit
def Tab (w:World) (B:Nat) (v:Value) (ls:List (List Int)):Prop :=
 ∃ vs:List Value,w.ownsRow B 39 1 v ls.length vs/\∀ (k:Nat) (l:List Int),ls[k]? = some l->∃ x,vs[k]? = some x/\ab w B x l
theorem f3 {w:World} {B g:Nat} {cs:Array Value}(zs:List Int) (a:cs=(zs.map (Value.int .i64)).toArray) (h:w.heap[g]? = some (.cells cs 3 (0,0))) (b:B<=g) (c:zs.length<=maxLen):ab w B (.slice (some ⟨g,0,none⟩) zs.length zs.length) zs:=by
 subst a;refine⟨by simp,.inr ⟨g,zs.length,_,rfl,b,h,bR,c,by simp,List.take_of_length_le (by simp)⟩⟩
theorem sg {w:World} {B c n:Nat} {x v:Value} {l:List Int} {vs:List Value}(h:ab w B x l) (ht:w.ownsRow c 39 1 v n vs):x.ownBlock=none\/x.ownBlock≠v.ownBlock:=by
 rcases h.2 with ⟨rfl,_⟩|⟨g,i,k,rfl,_,a,_⟩
 .exact .inl rfl
 .refine .inr fun e=>?_
  rcases ht.2 with ⟨rfl,_⟩|⟨g',j,m,rfl,_,b,_⟩
  .cases e
  .have d:g=g':=Option.some.inj e
   rw[d,b]at a;have:=Option.some.inj a;injection this with _ f;exact absurd f (by decide)
theorem Tab.kept {w w':World} {B:Nat} {v:Value} {ls:List (List Int)}(h:Tab w B v ls){row:Option Nat}(c:w.grownBy w' row) (h1:v.ownBlock=none\/v.ownBlock≠row) (h2:∀ x l,ab w B x l->x.ownBlock=none\/x.ownBlock≠row):Tab w' B v ls:=by
 obtain⟨f,a,b⟩:=h;refine⟨f,a.kept c h1,fun k l hl=>?_⟩;obtain⟨x,e,d⟩:=b k l hl;exact⟨x,e,World.ownsRow.kept d c (h2 x l d)⟩
theorem Zl:(prog.info? 39).map (fun i=>(i.zero,i.size,i.bytes))=some (some (.slice none 0 0),1,24):=by kernel_rfl
theorem au9:∀ k,k<9->(ni++(jv.take k).flatMap gu).length<=60:=by decide
theorem At {w:World} {B g c:Nat} {cs:Array Value}(zs:List Int) (n:Nat) (e:zs.length=n) (a:cs.toList.take n=zs.map (Value.int .i64)) (i:cs.size=c) (h:w.heap[g]? = some (.cells cs 3 (0,0))) (b:B<=g) (f:n<=c) (d:c<=maxLen):ab w B (.slice (some ⟨g,0,none⟩) n c) zs:=by
 subst e;exact⟨by simp,.inr ⟨g,c,cs,rfl,b,h,f,d,by omega,by simpa using a⟩⟩
theorem Mm (w:World):6<=(Question.appendCap 6 2 3).cut (w.tape w.drawn (Question.appendCap 6 2 3))/\(Question.appendCap 6 2 3).cut (w.tape w.drawn (Question.appendCap 6 2 3))<=maxLen :=
 ⟨grownCap_ge w 6 2 3,grownCap_le_maxLen w 6 2 3 (by unfold maxLen;omega)⟩
def Il (w:World) (out i:Value) (wr:World):Prop :=
 ∃ k:Nat,k<=8/\i=.int .i64 k/\Tab wr w.heap.size out (ni++(jv.take k).flatMap gu)/\Tab wr w.heap.size (.slice (some ⟨w.heap.size+1+1+1+1+1+1+1+1+1+1+1+1+1+1+1+1+1+1,0,none⟩) 8 8) jv/\out.ownBlock≠some (w.heap.size+1+1+1+1+1+1+1+1+1+1+1+1+1+1+1+1+1+1)/\Below w.heap.size w wr
def ar7 (w:World) (h cap:Nat) (r0 r1:Int) (ms:List Int) (L:List (List Int)) (out i:Value) (wr:World):Prop :=
 ∃ j:Nat,j<=ms.length/\i=.int .i64 j/\Tab wr w.heap.size out (L++(gu (r0::r1::ms)).take (2*j))/\Tab wr w.heap.size (.slice (some ⟨w.heap.size+1+1+1+1+1+1+1+1+1+1+1+1+1+1+1+1+1+1,0,none⟩) 8 8) jv/\ab wr w.heap.size (.slice (some ⟨h,0,none⟩) (ms.length+1+1) cap) (r0::r1::ms)/\out.ownBlock≠some (w.heap.size+1+1+1+1+1+1+1+1+1+1+1+1+1+1+1+1+1+1)/\Below w.heap.size w wr
theorem Is (w:World) (c o2 o3:Obj) (h i:Nat){v:Value}(a:h<w.heap.size) (b:w.cell? ⟨h,i,none⟩=some v):(((w.alloc c).alloc o2).alloc o3).cell? ⟨h,i,none⟩=some v:=by
 rw[World.cell?_alloc_past _ _ _ (by simp;omega),World.cell?_alloc_past _ _ _ (by simp;omega),World.cell?_alloc_past _ _ _ a];exact b
theorem ak1 (w:World) (c o2:Obj) (a b:Value) (t:TypeId):∀ j u,[a,b][j]? = some u->(((w.alloc c).alloc o2).alloc (.cells #[a,b] t)).cell? ((⟨w.heap.size+1+1,0,none⟩:Addr).add j)=some u:=by
 have h:=cell_two_new ((w.alloc c).alloc o2) a b t;have e:((w.alloc c).alloc o2).heap.size=w.heap.size+1+1:=by simp
 rw[e]at h;exact h
theorem Ql (c d:Int) (b:List Int) (j:Nat) (m:Int) (h:b[j]? = some m) :
  (gu (c::d::b)).take (2*(j+1))=(gu (c::d::b)).take (2*j)++[[c+(j:Int),d,m],[c+(j:Int)+32,d+32,m]]:=by
 have e:∀ (b:List Int) (s j:Nat),b[j]? = some m->(((b.zipIdx s).flatMap fun p=>[[c+(p.2:Int),d,p.1],[c+(p.2:Int)+32,d+32,p.1]]).take (2*(j+1)))=(((b.zipIdx s).flatMap fun p=>[[c+(p.2:Int),d,p.1],[c+(p.2:Int)+32,d+32,p.1]]).take (2*j))++[[c+((s+j:Nat):Int),d,m],[c+((s+j:Nat):Int)+32,d+32,m]]:=by
  intro b;induction b with
  | nil=>intro s j h;simp at h
  | cons a b ih =>
   intro s j h
   cases j with
   | zero =>
    simp at h;subst h;simp[List.zipIdx_cons]
   | succ j =>
    have f:b[j]? = some m:=by simpa using h
    have:=ih (s+1) j f;rw[show 2*(j+1+1)=2*(j+1)+1+1 by omega,show 2*(j+1)=2*j+1+1 by omega];simp only[List.zipIdx_cons,List.flatMap_cons,List.cons_append,List.nil_append,List.take_succ_cons];rw[show 2*j+1+1=2*(j+1) by omega,this,show s+1+j=s+(j+1) by omega]
 have:=e b 0 j h;simpa [gu] using this
theorem ai4 {wr X w':World} {B:Nat} {u v':Value} {ls:List (List Int)} {vs:List Value}(j:wr.ownsRow B 39 1 u ls.length vs) (q:∀ (k:Nat) (l:List Int),ls[k]? = some l->∃ x,vs[k]? = some x/\ab wr B x l)
  (m:wr.grownBy X none) (a b:List Int) (c e:Value) (o:ab X B c a) (p:ab X B e b) (f:X.grownBy w' u.ownBlock) {n:Nat} (v:n=ls.length+2) (r:w'.ownsRow B 39 1 v' n (vs++[c,e])):Tab w' B v' (ls++[a,b]):=by
 have g:X.ownsRow B 39 1 u ls.length vs:=j.kept m (by cases u.ownBlock <;> simp);have y:vs.length=ls.length:=by simpa using j.1
 refine⟨vs++[c,e],by simpa [v] using r,fun k l h=>?_⟩;by_cases t:k<ls.length
 .rw[List.getElem?_append_left t]at h
  obtain⟨x,w,s⟩:=q k l h;have i:ab X B x l:=World.ownsRow.kept s m (by cases x.ownBlock <;> simp);exact⟨x,by rw[List.getElem?_append_left (by omega)];exact w,World.ownsRow.kept i f (sg i g)⟩
 .rw[List.getElem?_append_right (by omega)]at h
  rw[List.getElem?_append_right (by omega)];match hd:k-ls.length,h with
  | 0,h =>
   simp at h;subst h;exact⟨c,by rw[show k-vs.length=0 by omega];rfl,World.ownsRow.kept o f (sg o g)⟩
  | 1,h =>
   simp at h;subst h;exact⟨e,by rw[show k-vs.length=1 by omega];rfl,World.ownsRow.kept p f (sg p g)⟩
  | d+2,h=>simp at h
theorem Lq (w:World) (a o2 o3:Obj):(((w.alloc a).alloc o2).alloc o3).heap[w.heap.size]? = some a/\(((w.alloc a).alloc o2).alloc o3).heap[w.heap.size+1]? = some o2:=by
 have b:(w.alloc a).heap.size=w.heap.size+1:=by simp
 refine⟨?_,?_⟩
 .rw[Below.heap_alloc _ _ _ (by simp;omega),Below.heap_alloc _ _ _ (by simp)]
  exact heap_alloc_new w a
 .rw[Below.heap_alloc _ _ _ (by simp),<- b]
  exact heap_alloc_new _ o2
theorem au0 (w:World) (a o2 o3:Obj):w.grownBy (((w.alloc a).alloc o2).alloc o3) none :=
 ((World.grownBy_alloc w a none).trans (World.grownBy_alloc _ o2 none)).trans (World.grownBy_alloc _ o3 none)
theorem Kd {w wr w':World} {h cap j:Nat} {b c m:Int} {a:List Int} {L:List (List Int)} {u:Value} {vs:List Value} {n:Nat}(J:n=(L++(gu (b::c::a)).take (2*j)).length) (i o2 o3:Obj)
  (O:j<a.length) (I:a[j]? = some m)
  (o:wr.ownsRow w.heap.size 39 1 u n vs)
  (D:∀ (k:Nat) (l:List Int),(L++(gu (b::c::a)).take (2*j))[k]? = some l->∃ x,vs[k]? = some x/\ab wr w.heap.size x l)
  (z:Tab wr w.heap.size (.slice (some ⟨w.heap.size+1+1+1+1+1+1+1+1+1+1+1+1+1+1+1+1+1+1,0,none⟩) 8 8) jv) (H:ab wr w.heap.size (.slice (some ⟨h,0,none⟩) (a.length+1+1) cap) (b::c::a)) (t:u.ownBlock≠some (w.heap.size+1+1+1+1+1+1+1+1+1+1+1+1+1+1+1+1+1+1)) (d:Below w.heap.size w wr)
  (p q:Value) (K:ab (((wr.alloc i).alloc o2).alloc o3) w.heap.size p [b+(j:Int),c,m]) (M:ab (((wr.alloc i).alloc o2).alloc o3) w.heap.size q [b+(j:Int)+32,c+32,m])
  {g' r:Nat} (E:w'.ownsRow w.heap.size 39 1 (.slice (some ⟨g',0,none⟩) (n+2) r) (n+2) (vs++[p,q]))
  (f:(((wr.alloc i).alloc o2).alloc o3).grownBy w' u.ownBlock) (C:u.ownBlock=some g'\/g'=wr.heap.size+1+1+1) :
  ar7 w h cap b c a L (.slice (some ⟨g',0,none⟩) (n+2) r) (.int .i64 ((j:Int)+1)) w':=by
 subst J;have g:=au0 wr i o2 o3;have v:=o.kept g (by cases u.ownBlock <;> simp);have B:=z.kept g (.inr (by simp[Value.ownBlock])) (fun x l _=>by cases x.ownBlock <;> simp);have s:ab _ _ _ _:=World.ownsRow.kept H g (.inr (by simp[Value.ownBlock]));have N:w.heap.size+1+1+1+1+1+1+1+1+1+1+1+1+1+1+1+1+1+1<wr.heap.size:=by
  obtain⟨P,F,_⟩:=z;exact (F.lt _ rfl).2
 have A:=ai4 o D g _ _ p q K M f rfl E;rw[List.append_assoc,<- Ql b c a j m I]at A;refine⟨j+1,by omega,by simp,A,B.kept f (.inr (fun e=>t e.symm)) (fun x l hx=>sg hx v),World.ownsRow.kept s f (sg s v),?_,?_⟩
 .intro e
  have G:g'=w.heap.size+1+1+1+1+1+1+1+1+1+1+1+1+1+1+1+1+1+1:=Option.some.inj e;rcases C with y|y
  .exact t (by rw[y,G])
  .omega
 .refine Below.grown (((d.alloc d.size _).alloc (by simp;have:=d.size;omega) _).alloc (by simp;have:=d.size;omega) _) f (by simp;have:=d.size;omega) (fun k hk=>(o.lt k hk).1)
theorem A6:∀ (os:List Obj) (w:World) (k:Nat),k<w.heap.size->(os.foldl World.alloc w).heap[k]? = w.heap[k]?
 | [],_,_,_=>rfl
 | o::os,w,k,h=>(A6 os (w.alloc o) k (by simp;omega)).trans (Below.heap_alloc w o k h)
theorem E8:∀ (os:List Obj) (w:World),(os.foldl World.alloc w).heap.size=w.heap.size+os.length
 | [],_=>rfl
 | o::os,w=>by
  show (os.foldl World.alloc (w.alloc o)).heap.size=_
  rw[E8 os (w.alloc o)];simp;omega
theorem E7:∀ (os:List Obj) (w:World) (k:Nat) (o:Obj),os[k]? = some o->(os.foldl World.alloc w).heap[w.heap.size+k]? = some o
 | [],_,_,_,h=>by simp at h
 | a::os,w,0,o,h=>by
  have e:a=o:=by simpa using h
  subst e;show (os.foldl World.alloc (w.alloc a)).heap[w.heap.size]? = some a
  rw[A6 os (w.alloc a) w.heap.size (by simp)];exact heap_alloc_new w a
 | a::os,w,k+1,o,h=>by
  have e:os[k]? = some o:=by simpa using h
  have:=E7 os (w.alloc a) k o e;rw[show (w.alloc a).heap.size=w.heap.size+1 by simp,show w.heap.size+1+k=w.heap.size+(k+1) by omega]at this;exact this
theorem Lz (os:List Obj) (w:World):Below w.heap.size w (os.foldl World.alloc w):=by
 refine⟨?_,?_,?_,by rw[E8];omega,fun k hk=>A6 os w k hk⟩;all_goals
  induction os generalizing w with
  | nil=>rfl
  | cons o os ih=>exact ih (w.alloc o)
def Ob (w:World) (c1 c2 c3:Nat):List Obj:=[
 .cells #[.int .i64 255,.int .i64 121,.int .i64 776] 3,
 .cells #[.int .i64 7844,.int .i64 194,.int .i64 769] 3,
 .cells #[.int .i64 7845,.int .i64 226,.int .i64 769] 3,
 .cells #[.int .i64 7779,.int .i64 115,.int .i64 803] 3,
 .cells #[.int .i64 7785,.int .i64 7779,.int .i64 775] 3,
 .cells #[.slice (some ⟨w.heap.size,0,none⟩) 3 3,.slice (some ⟨w.heap.size+1,0,none⟩) 3 3,.slice (some ⟨w.heap.size+1+1,0,none⟩) 3 3,.slice (some ⟨w.heap.size+1+1+1,0,none⟩) 3 3,.slice (some ⟨w.heap.size+1+1+1+1,0,none⟩) 3 3] 39,
 .cells #[.int .i64 768,.int .i64 769,.int .i64 770,.int .i64 776] 3,
 .cells #[.int .i64 192,.int .i64 65,.int .i64 768,.int .i64 769,.int .i64 770,.int .i64 771,.int .i64 776,.int .i64 778] 3,
 .cells #[.int .i64 199,.int .i64 67,.int .i64 807] 3,
 .cells #[.int .i64 200,.int .i64 69] 3,
 .cells (#[.int .i64 200,.int .i64 69]++(#[.int .i64 768,.int .i64 769,.int .i64 770,.int .i64 776]++Builtin.zeroCells #[.int .i64 0] (c1-6))) 3,
 .cells #[.int .i64 204,.int .i64 73] 3,
 .cells (#[.int .i64 204,.int .i64 73]++(#[.int .i64 768,.int .i64 769,.int .i64 770,.int .i64 776]++Builtin.zeroCells #[.int .i64 0] (c2-6))) 3,
 .cells #[.int .i64 209,.int .i64 78,.int .i64 771] 3,
 .cells #[.int .i64 210,.int .i64 79,.int .i64 768,.int .i64 769,.int .i64 770,.int .i64 771,.int .i64 776] 3,
 .cells #[.int .i64 217,.int .i64 85] 3,
 .cells (#[.int .i64 217,.int .i64 85]++(#[.int .i64 768,.int .i64 769,.int .i64 770,.int .i64 776]++Builtin.zeroCells #[.int .i64 0] (c3-6))) 3,
 .cells #[.int .i64 221,.int .i64 89,.int .i64 769] 3,
 .cells #[.slice (some ⟨w.heap.size+1+1+1+1+1+1+1,0,none⟩) 8 8,.slice (some ⟨w.heap.size+1+1+1+1+1+1+1+1,0,none⟩) 3 3,.slice (some ⟨w.heap.size+1+1+1+1+1+1+1+1+1+1,0,none⟩) 6 c1,.slice (some ⟨w.heap.size+1+1+1+1+1+1+1+1+1+1+1+1,0,none⟩) 6 c2,.slice (some ⟨w.heap.size+1+1+1+1+1+1+1+1+1+1+1+1+1,0,none⟩) 3 3,.slice (some ⟨w.heap.size+1+1+1+1+1+1+1+1+1+1+1+1+1+1,0,none⟩) 7 7,.slice (some ⟨w.heap.size+1+1+1+1+1+1+1+1+1+1+1+1+1+1+1+1,0,none⟩) 6 c3,.slice (some ⟨w.heap.size+1+1+1+1+1+1+1+1+1+1+1+1+1+1+1+1+1,0,none⟩) 3 3] 39]
theorem aw4 {W:World}(w:World) (c1 c2 c:Nat) (b:∀ (k:Nat) (o:Obj),(Ob w c1 c2 c)[k]? = some o->W.heap[w.heap.size+k]? = some o):Tab W w.heap.size (.slice (some ⟨w.heap.size+1+1+1+1+1,0,none⟩) 5 5) ni:=by
 have d:ab W w.heap.size (.slice (some ⟨w.heap.size,0,none⟩) 3 3) [255,121,776]:=f3 _ rfl (b 0 _ rfl) (by omega) (by unfold maxLen;simp);have e:ab W w.heap.size (.slice (some ⟨w.heap.size+1,0,none⟩) 3 3) [7844,194,769]:=f3 _ rfl (b 1 _ rfl) (by omega) (by unfold maxLen;simp);have f:ab W w.heap.size (.slice (some ⟨w.heap.size+1+1,0,none⟩) 3 3) [7845,226,769]:=f3 _ rfl (b 2 _ rfl) (by omega) (by unfold maxLen;simp);have g:ab W w.heap.size (.slice (some ⟨w.heap.size+1+1+1,0,none⟩) 3 3) [7779,115,803]:=f3 _ rfl (b 3 _ rfl) (by omega) (by unfold maxLen;simp);have h:ab W w.heap.size (.slice (some ⟨w.heap.size+1+1+1+1,0,none⟩) 3 3) [7785,7779,775]:=f3 _ rfl (b 4 _ rfl) (by omega) (by unfold maxLen;simp)
 refine⟨[.slice (some ⟨w.heap.size,0,none⟩) 3 3,.slice (some ⟨w.heap.size+1,0,none⟩) 3 3,.slice (some ⟨w.heap.size+1+1,0,none⟩) 3 3,.slice (some ⟨w.heap.size+1+1+1,0,none⟩) 3 3,.slice (some ⟨w.heap.size+1+1+1+1,0,none⟩) 3 3],⟨rfl,.inr ⟨_,5,_,rfl,by omega,b 5 _ rfl,by simp[ni],by unfold maxLen;omega,rfl,rfl⟩⟩,?_⟩;intro k l a;match k,a with
 | 0,a=>cases a;exact⟨_,rfl,d⟩
 | 1,a=>cases a;exact⟨_,rfl,e⟩
 | 2,a=>cases a;exact⟨_,rfl,f⟩
 | 3,a=>cases a;exact⟨_,rfl,g⟩
 | 4,a=>cases a;exact⟨_,rfl,h⟩
 | k+5,a=>simp[ni]at a
theorem aw5 {W:World}(w:World) (c1 c2 c:Nat) (b:∀ (k:Nat) (o:Obj),(Ob w c1 c2 c)[k]? = some o->W.heap[w.heap.size+k]? = some o) (h1:6<=c1/\c1<=maxLen) (h2:6<=c2/\c2<=maxLen) (n:6<=c/\c<=maxLen):Tab W w.heap.size (.slice (some ⟨w.heap.size+1+1+1+1+1+1+1+1+1+1+1+1+1+1+1+1+1+1,0,none⟩) 8 8) jv:=by
 have d:ab W w.heap.size (.slice (some ⟨w.heap.size+1+1+1+1+1+1+1,0,none⟩) 8 8) [192,65,768,769,770,771,776,778]:=f3 _ rfl (b 7 _ rfl) (by omega) (by unfold maxLen;simp);have e:ab W w.heap.size (.slice (some ⟨w.heap.size+1+1+1+1+1+1+1+1,0,none⟩) 3 3) [199,67,807]:=f3 _ rfl (b 8 _ rfl) (by omega) (by unfold maxLen;simp);have f:ab W w.heap.size (.slice (some ⟨w.heap.size+1+1+1+1+1+1+1+1+1+1,0,none⟩) 6 c1) [200,69,768,769,770,776]:=At _ 6 rfl (by simp) (by simp[size_zeroCells];omega) (b 10 _ rfl) (by omega) (by omega) (by omega);have g:ab W w.heap.size (.slice (some ⟨w.heap.size+1+1+1+1+1+1+1+1+1+1+1+1,0,none⟩) 6 c2) [204,73,768,769,770,776]:=At _ 6 rfl (by simp) (by simp[size_zeroCells];omega) (b 12 _ rfl) (by omega) (by omega) (by omega)
 have h:ab W w.heap.size (.slice (some ⟨w.heap.size+1+1+1+1+1+1+1+1+1+1+1+1+1,0,none⟩) 3 3) [209,78,771]:=f3 _ rfl (b 13 _ rfl) (by omega) (by unfold maxLen;simp);have i:ab W w.heap.size (.slice (some ⟨w.heap.size+1+1+1+1+1+1+1+1+1+1+1+1+1+1,0,none⟩) 7 7) [210,79,768,769,770,771,776]:=f3 _ rfl (b 14 _ rfl) (by omega) (by unfold maxLen;simp);have j:ab W w.heap.size (.slice (some ⟨w.heap.size+1+1+1+1+1+1+1+1+1+1+1+1+1+1+1+1,0,none⟩) 6 c) [217,85,768,769,770,776]:=At _ 6 rfl (by simp) (by simp[size_zeroCells];omega) (b 16 _ rfl) (by omega) (by omega) (by omega);have m:ab W w.heap.size (.slice (some ⟨w.heap.size+1+1+1+1+1+1+1+1+1+1+1+1+1+1+1+1+1,0,none⟩) 3 3) [221,89,769]:=f3 _ rfl (b 17 _ rfl) (by omega) (by unfold maxLen;simp)
 refine⟨[.slice (some ⟨w.heap.size+1+1+1+1+1+1+1,0,none⟩) 8 8,.slice (some ⟨w.heap.size+1+1+1+1+1+1+1+1,0,none⟩) 3 3,.slice (some ⟨w.heap.size+1+1+1+1+1+1+1+1+1+1,0,none⟩) 6 c1,.slice (some ⟨w.heap.size+1+1+1+1+1+1+1+1+1+1+1+1,0,none⟩) 6 c2,.slice (some ⟨w.heap.size+1+1+1+1+1+1+1+1+1+1+1+1+1,0,none⟩) 3 3,.slice (some ⟨w.heap.size+1+1+1+1+1+1+1+1+1+1+1+1+1+1,0,none⟩) 7 7,.slice (some ⟨w.heap.size+1+1+1+1+1+1+1+1+1+1+1+1+1+1+1+1,0,none⟩) 6 c,.slice (some ⟨w.heap.size+1+1+1+1+1+1+1+1+1+1+1+1+1+1+1+1+1,0,none⟩) 3 3],⟨rfl,.inr ⟨_,8,_,rfl,by omega,b 18 _ rfl,by simp[jv],by unfold maxLen;omega,rfl,rfl⟩⟩,?_⟩;intro k l a;match k,a with
 | 0,a=>cases a;exact⟨_,rfl,d⟩
 | 1,a=>cases a;exact⟨_,rfl,e⟩
 | 2,a=>cases a;exact⟨_,rfl,f⟩
 | 3,a=>cases a;exact⟨_,rfl,g⟩
 | 4,a=>cases a;exact⟨_,rfl,h⟩
 | 5,a=>cases a;exact⟨_,rfl,i⟩
 | 6,a=>cases a;exact⟨_,rfl,j⟩
 | 7,a=>cases a;exact⟨_,rfl,m⟩
 | k+8,a=>simp[jv]at a
theorem Ry (w:World) (c1 c2 a:Nat) (h1:6<=c1/\c1<=maxLen) (h2:6<=c2/\c2<=maxLen) (c:6<=a/\a<=maxLen) :
  Il w (.slice (some ⟨w.heap.size+1+1+1+1+1,0,none⟩) 5 5) (.int .i64 0) ((Ob w c1 c2 a).foldl World.alloc w):=by
 have b:=E7 (Ob w c1 c2 a) w;refine⟨0,by omega,rfl,by simpa using aw4 w c1 c2 a b,aw5 w c1 c2 a b h1 h2 c,by simp[Value.ownBlock],Lz _ w⟩
theorem Il.drew {w W:World} {a b:Value}(h:Il w a b W):Il w a b W.drew:=by
 obtain⟨k,c,d,⟨l,g,i⟩,⟨j,u1,u2⟩,e,f⟩:=h;exact⟨k,c,d,⟨l,g,i⟩,⟨j,u1,u2⟩,e,f.drew⟩
theorem av4 (w:World) (c1 c2 a:Nat):(Ob w c1 c2 a).foldl World.alloc w=(((((((((((((((((((w.alloc (.cells #[.int .i64 255,.int .i64 121,.int .i64 776] 3)).alloc (.cells #[.int .i64 7844,.int .i64 194,.int .i64 769] 3)).alloc (.cells #[.int .i64 7845,.int .i64 226,.int .i64 769] 3)).alloc (.cells #[.int .i64 7779,.int .i64 115,.int .i64 803] 3)).alloc (.cells #[.int .i64 7785,.int .i64 7779,.int .i64 775] 3)).alloc (.cells #[.slice (some ⟨w.heap.size,0,none⟩) 3 3,.slice (some ⟨w.heap.size+1,0,none⟩) 3 3,.slice (some ⟨w.heap.size+1+1,0,none⟩) 3 3,.slice (some ⟨w.heap.size+1+1+1,0,none⟩) 3 3,.slice (some ⟨w.heap.size+1+1+1+1,0,none⟩) 3 3] 39)).alloc (.cells #[.int .i64 768,.int .i64 769,.int .i64 770,.int .i64 776] 3)).alloc (.cells #[.int .i64 192,.int .i64 65,.int .i64 768,.int .i64 769,.int .i64 770,.int .i64 771,.int .i64 776,.int .i64 778] 3)).alloc (.cells #[.int .i64 199,.int .i64 67,.int .i64 807] 3)).alloc (.cells #[.int .i64 200,.int .i64 69] 3)).alloc (.cells (#[.int .i64 200,.int .i64 69]++(#[.int .i64 768,.int .i64 769,.int .i64 770,.int .i64 776]++Builtin.zeroCells #[.int .i64 0] (c1-6))) 3)).alloc (.cells #[.int .i64 204,.int .i64 73] 3)).alloc (.cells (#[.int .i64 204,.int .i64 73]++(#[.int .i64 768,.int .i64 769,.int .i64 770,.int .i64 776]++Builtin.zeroCells #[.int .i64 0] (c2-6))) 3)).alloc (.cells #[.int .i64 209,.int .i64 78,.int .i64 771] 3)).alloc (.cells #[.int .i64 210,.int .i64 79,.int .i64 768,.int .i64 769,.int .i64 770,.int .i64 771,.int .i64 776] 3)).alloc (.cells #[.int .i64 217,.int .i64 85] 3)).alloc (.cells (#[.int .i64 217,.int .i64 85]++(#[.int .i64 768,.int .i64 769,.int .i64 770,.int .i64 776]++Builtin.zeroCells #[.int .i64 0] (a-6))) 3)).alloc (.cells #[.int .i64 221,.int .i64 89,.int .i64 769] 3)).alloc (.cells #[.slice (some ⟨w.heap.size+1+1+1+1+1+1+1,0,none⟩) 8 8,.slice (some ⟨w.heap.size+1+1+1+1+1+1+1+1,0,none⟩) 3 3,.slice (some ⟨w.heap.size+1+1+1+1+1+1+1+1+1+1,0,none⟩) 6 c1,.slice (some ⟨w.heap.size+1+1+1+1+1+1+1+1+1+1+1+1,0,none⟩) 6 c2,.slice (some ⟨w.heap.size+1+1+1+1+1+1+1+1+1+1+1+1+1,0,none⟩) 3 3,.slice (some ⟨w.heap.size+1+1+1+1+1+1+1+1+1+1+1+1+1+1,0,none⟩) 7 7,.slice (some ⟨w.heap.size+1+1+1+1+1+1+1+1+1+1+1+1+1+1+1+1,0,none⟩) 6 a,.slice (some ⟨w.heap.size+1+1+1+1+1+1+1+1+1+1+1+1+1+1+1+1+1,0,none⟩) 3 3] 39)):=rfl
theorem Rx (w:World) (c1 c2 a:Nat) (h1:6<=c1/\c1<=maxLen) (h2:6<=c2/\c2<=maxLen) (b:6<=a/\a<=maxLen) :
  Il w (.slice (some ⟨w.heap.size+1+1+1+1+1,0,none⟩) 5 5) (.int .i64 0) ((((((((((((((((((((w.alloc (.cells #[.int .i64 255,.int .i64 121,.int .i64 776] 3)).alloc (.cells #[.int .i64 7844,.int .i64 194,.int .i64 769] 3)).alloc (.cells #[.int .i64 7845,.int .i64 226,.int .i64 769] 3)).alloc (.cells #[.int .i64 7779,.int .i64 115,.int .i64 803] 3)).alloc (.cells #[.int .i64 7785,.int .i64 7779,.int .i64 775] 3)).alloc (.cells #[.slice (some ⟨w.heap.size,0,none⟩) 3 3,.slice (some ⟨w.heap.size+1,0,none⟩) 3 3,.slice (some ⟨w.heap.size+1+1,0,none⟩) 3 3,.slice (some ⟨w.heap.size+1+1+1,0,none⟩) 3 3,.slice (some ⟨w.heap.size+1+1+1+1,0,none⟩) 3 3] 39)).alloc (.cells #[.int .i64 768,.int .i64 769,.int .i64 770,.int .i64 776] 3)).alloc (.cells #[.int .i64 192,.int .i64 65,.int .i64 768,.int .i64 769,.int .i64 770,.int .i64 771,.int .i64 776,.int .i64 778] 3)).alloc (.cells #[.int .i64 199,.int .i64 67,.int .i64 807] 3)).alloc (.cells #[.int .i64 200,.int .i64 69] 3)).alloc (.cells (#[.int .i64 200,.int .i64 69]++(#[.int .i64 768,.int .i64 769,.int .i64 770,.int .i64 776]++Builtin.zeroCells #[.int .i64 0] (c1-6))) 3)).alloc (.cells #[.int .i64 204,.int .i64 73] 3)).alloc (.cells (#[.int .i64 204,.int .i64 73]++(#[.int .i64 768,.int .i64 769,.int .i64 770,.int .i64 776]++Builtin.zeroCells #[.int .i64 0] (c2-6))) 3)).alloc (.cells #[.int .i64 209,.int .i64 78,.int .i64 771] 3)).alloc (.cells #[.int .i64 210,.int .i64 79,.int .i64 768,.int .i64 769,.int .i64 770,.int .i64 771,.int .i64 776] 3)).alloc (.cells #[.int .i64 217,.int .i64 85] 3)).alloc (.cells (#[.int .i64 217,.int .i64 85]++(#[.int .i64 768,.int .i64 769,.int .i64 770,.int .i64 776]++Builtin.zeroCells #[.int .i64 0] (a-6))) 3)).alloc (.cells #[.int .i64 221,.int .i64 89,.int .i64 769] 3)).alloc (.cells #[.slice (some ⟨w.heap.size+1+1+1+1+1+1+1,0,none⟩) 8 8,.slice (some ⟨w.heap.size+1+1+1+1+1+1+1+1,0,none⟩) 3 3,.slice (some ⟨w.heap.size+1+1+1+1+1+1+1+1+1+1,0,none⟩) 6 c1,.slice (some ⟨w.heap.size+1+1+1+1+1+1+1+1+1+1+1+1,0,none⟩) 6 c2,.slice (some ⟨w.heap.size+1+1+1+1+1+1+1+1+1+1+1+1+1,0,none⟩) 3 3,.slice (some ⟨w.heap.size+1+1+1+1+1+1+1+1+1+1+1+1+1+1,0,none⟩) 7 7,.slice (some ⟨w.heap.size+1+1+1+1+1+1+1+1+1+1+1+1+1+1+1+1,0,none⟩) 6 a,.slice (some ⟨w.heap.size+1+1+1+1+1+1+1+1+1+1+1+1+1+1+1+1+1,0,none⟩) 3 3] 39)).drew.drew.drew):=by
 have h:=Ry w c1 c2 a h1 h2 b;rw[av4]at h;exact h.drew.drew.drew
theorem rh {X w':World} {row:Option Nat}(h:X.drew.grownBy w' row):X.grownBy w' row:=⟨h.os,h.tape,h.output,h.size,h.block⟩
theorem a59 {k:Nat} {row:List Int}(h:jv[k]? = some row):ni++(jv.take (k+1)).flatMap gu=ni++(jv.take k).flatMap gu++gu row:=by
 have a:k<jv.length:=(List.getElem?_eq_some_iff.1 h).1;have e:jv[k]=row:=by
  have:=List.getElem?_eq_getElem a;rw[h]at this;exact (Option.some.inj this).symm
 rw[List.take_succ_eq_append_getElem a,e];simp
theorem Uh (c d:Int) (b:List Int) (j:Nat) (e:¬ j<b.length):(gu (c::d::b)).take (2*j)=gu (c::d::b):=by
 apply List.take_of_length_le
 have:∀ (b:List Int) (s:Nat),((b.zipIdx s).flatMap fun p=>[[c+(p.2:Int),d,p.1],[c+(p.2:Int)+32,d+32,p.1]]).length=2*b.length:=by
  intro b;induction b with
  | nil=>intro s;rfl
  | cons a b ih=>intro s;simp only[List.zipIdx_cons,List.flatMap_cons,List.length_append,ih];simp;omega
 have h:=this b 0;show (gu (c::d::b)).length<=2*j
 unfold gu;simp only;rw[h];omega
theorem a58 (w:World) :
  Calls prog 149 #[] w fun e w'=>∃ v,e=.returned v/\Tab w' w.heap.size v tab/\Below w.heap.size w w':=by
 obtain⟨U,T,P,M,O⟩:=info_parts Zl;go_enter func149,ntmps149;go_wp2;go_loopw [1,32] (fun out i wr=>Il w out i wr) (fun _ i _=>8-(intOf i).toNat)
 case atStart =>
  exact Rx w _ _ _ (Mm w) (Mm w.drew) (Mm w.drew.drew)
 case round =>
  obtain⟨k,hk,rfl,o,t,r,g⟩:=hrel;by_cases a3:k<8
  .obtain⟨B,f,p⟩:=t
   obtain⟨row,A⟩:∃ row,jv[k]? = some row:=⟨_,List.getElem?_eq_getElem a3⟩
   obtain⟨x,l,d⟩:=p k row A;have E:=f.cellAt k (by show k<8*1;omega);rw[l]at E;have a1:∃ a b c,row=a::b::c/\1<=c.length/\c.length<=6/\0<=a/\a<=300/\0<=b/\b<=300:=by
    have:∀ row ∈ jv,∃ a b c,row=a::b::c/\1<=c.length/\c.length<=6/\0<=a/\a<=300/\0<=b/\b<=300:=by
     intro row h;simp only[jv,List.mem_cons,List.not_mem_nil,or_false]at h;rcases h with rfl|rfl|rfl|rfl|rfl|rfl|rfl|rfl <;> exact⟨_,_,_,rfl,by simp,by simp,by omega,by omega,by omega,by omega⟩
    exact this row (List.mem_of_getElem? A)
   obtain⟨a,b,c,rfl,ab,ac,a5,a6,a7,a8⟩:=a1;rcases d.form with ⟨_,h0⟩|⟨h,J,rfl,Z,a0⟩
   .cases h0
   simp only[List.length_cons]at d Z E;unfold maxLen at a0;have aa:J≠2:=by omega
   have K:Tab wr w.heap.size (.slice (some ⟨w.heap.size+1+1+1+1+1+1+1+1+1+1+1+1+1+1+1+1+1+1,0,none⟩) 8 8) jv:=⟨B,f,p⟩;have X:Hid _:=A;have L:(k:Int)<8:=by omega
   clear f p A l;go_wp2_with fail;go_loopw [1,39] (fun out i wr=>ar7 w h J a b c (ni++(jv.take k).flatMap gu) out i wr) (fun _ i _=>c.length-(intOf i).toNat)
   case atStart=>exact⟨0,Nat.zero_le _,rfl,by simpa using o,K,d,r,g⟩
   case round =>
    clear o K d r g E;obtain⟨j,hj,rfl,o,t,d,r,g⟩:=hrel;by_cases z:j<c.length
    .obtain⟨m,I⟩:∃ m,c[j]? = some m:=⟨_,List.getElem?_eq_getElem z⟩
     have F:wr.cell? ⟨h,0,none⟩=some (.int .i64 a):=d.cellAt 0 (by omega);have G:wr.cell? ⟨h,1,none⟩=some (.int .i64 b):=d.cellAt 1 (by omega);have d2:=d.cellAt (2+j) (by simp;omega);have S:((a::b::c).map (Value.int .i64))[2+j]? = some (.int .i64 m):=by
      rw[Nat.add_comm];simp[I]
     rw[S]at d2;obtain⟨B,f,p⟩:=o;have a4:=au9 k (by omega);have a9:((gu (a::b::c)).take (2*j)).length<=2*j:=List.length_take_le _ _;obtain⟨N,u⟩:∃ N,N=(ni++(jv.take k).flatMap gu++(gu (a::b::c)).take (2*j)).length:=⟨_,rfl⟩
     have hN:N<=80:=by rw[u,List.length_append];omega
     rw[<- u]at f;have R:Hid _:=u;clear u a4 a9;have Q:Hid _:=I;clear S I;have q0:(0:Int)<(c.length:Int)+1+1:=by omega
     have q1:(1:Int)<(c.length:Int)+1+1:=by omega
     have q:=(World.ownsRow.lt d h rfl).2;have y:some h≠_:=fun e=>by
      rcases sg d f with H|H
      .cases H
      .exact H e
     have ad:=g.size;have ae:IntKind.i64.wrap (a+(j:Int))=a+(j:Int):=by rw[IntKind.wrap_i64];omega
     have af:IntKind.i64.wrap (a+(j:Int)+32)=a+(j:Int)+32:=by rw[IntKind.wrap_i64];omega
     have ag:IntKind.i64.wrap (b+32)=b+32:=by rw[IntKind.wrap_i64];omega
     go_wp2_with fail;go_region_held_law (fun w'=>w'.cell? ⟨h,0,none⟩=some (.int .i64 a)/\w'.cell? ⟨h,1,none⟩=some (.int .i64 b)) (first|exact⟨Is _ _ _ _ _ _ q F,Is _ _ _ _ _ _ q G⟩|exact⟨V,W⟩|go_keep)
      (first
       | (refine step_append_lies _ rfl (.tmp 44) (.tmp 67) 218 rfl w.heap.size 39 U (.slice none 0 0) 1 24 underlying218 T P M O rfl (by decide) _ _ B (by simp[Act.eval]) (((f.alloc _).alloc _).alloc _) ⟨wr.heap.size+1+1,0,none⟩ 2 2 [(.slice (some ⟨wr.heap.size,0,none⟩) 3 3),(.slice (some ⟨wr.heap.size+1,0,none⟩) 3 3)] (by simp[Act.eval]) rfl (ak1 _ _ _ _ _ _) (fun x l=>by simp at l;rcases l with rfl|rfl <;> rfl) (by omega) (by unfold maxLen;omega) (by omega) (by simp;omega) (wr.heap.size+1+1+1) (by simp) ?_;intro g' Y w' D n C a2;have V:w'.cell? ⟨h,0,none⟩=some (.int .i64 a):=(n.cell_far ⟨h,0,none⟩ (by simp;omega) y).trans (Is _ _ _ _ _ _ q F);have W:w'.cell? ⟨h,1,none⟩=some (.int .i64 b):=(n.cell_far ⟨h,1,none⟩ (by simp;omega) y).trans (Is _ _ _ _ _ _ q G))
       | (refine step_append_lies _ rfl (.tmp 44) (.tmp 67) 218 rfl w.heap.size 39 U (.slice none 0 0) 1 24 underlying218 T P M O rfl (by decide) _ _ B (by simp[Act.eval]) (((f.alloc _).alloc _).alloc _) ⟨wr.heap.size+1+1,0,none⟩ 2 2 [(.slice (some ⟨wr.heap.size+1,0,none⟩) 3 3),(.slice (some ⟨wr.heap.size,0,none⟩) 3 3)] (by simp[Act.eval]) rfl (ak1 _ _ _ _ _ _) (fun x l=>by simp at l;rcases l with rfl|rfl <;> rfl) (by omega) (by unfold maxLen;omega) (by omega) (by simp;omega) (wr.heap.size+1+1+1) (by simp) ?_;intro g' Y w' D n C a2;have V:w'.cell? ⟨h,0,none⟩=some (.int .i64 a):=(n.cell_far ⟨h,0,none⟩ (by simp;omega) y).trans (Is _ _ _ _ _ _ q F);have W:w'.cell? ⟨h,1,none⟩=some (.int .i64 b):=(n.cell_far ⟨h,1,none⟩ (by simp;omega) y).trans (Is _ _ _ _ _ _ q G)))
     .go_wp2
      have s:=Kd R.out _ _ _ z Q.out f p t d r g _ _ (f3 _ rfl (Lq wr _ _ _).1 (by omega) (by unfold maxLen;simp)) (f3 _ rfl (Lq wr _ _ _).2 (by omega) (by unfold maxLen;simp)) D (rh n) C;go_roundw
      case rel=>first|exact s|((repeat apply Exists.intro);exact⟨s,rfl⟩)
      case measure=>simp[intOf];omega
     .go_wp2
      have s:=Kd R.out _ _ _ z Q.out f p t d r g _ _ (f3 _ rfl (Lq wr _ _ _).2 (by omega) (by unfold maxLen;simp)) (f3 _ rfl (Lq wr _ _ _).1 (by omega) (by unfold maxLen;simp)) D (rh n) C;go_roundw
      case rel=>first|exact s|((repeat apply Exists.intro);exact⟨s,rfl⟩)
      case measure=>simp[intOf];omega
    .rw[Uh a b c j z,<- a59 X.out]at o
     go_wp2;exact⟨⟨k+1,by omega,by go_num,o,t,r,g⟩,by simp[intOf];omega⟩
  .have L:k=8:=by omega
   subst L;go_wp2;go_ret;exact⟨_,rfl,o,g⟩
theorem oj (r a hi:Int) (h:a<=r/\r<=hi) (w:World):Calls prog 34 #[.int .i64 r,.int .i64 a,.int .i64 hi] w fun e w'=>e=.returned (.bool true)/\w'=w:=by
 obtain⟨b,c⟩:=h;go_enter func34,ntmps34;go_wp2;go_ret;exact⟨jj (by simp;try omega),rfl⟩
theorem jn (r a hi:Int) (h:¬ (a<=r/\r<=hi)) (w:World):Calls prog 34 #[.int .i64 r,.int .i64 a,.int .i64 hi] w fun e w'=>e=.returned (.bool false)/\w'=w:=by
 by_cases c:a<=r
 .have b:¬ r<=hi:=fun b=>h ⟨c,b⟩
  clear h;go_enter func34,ntmps34;go_wp2;go_ret;exact⟨jj (by simp;try omega),rfl⟩
 .clear h
  go_enter func34,ntmps34;go_wp2;go_ret;exact⟨jj (by simp;try omega),rfl⟩
def Gh (r:Int) (k:Nat):Prop:=∀ j t,j<k->tab[j]? = some t->at0 t 0≠r
theorem am9 (r:Int) (k:Nat) (t:List Int) (h:Gh r k) (ht:tab[k]? = some t) (b:at0 t 0=r):tab.find? (fun t=>at0 t 0 == r)=some t:=by
 rw[List.find?_eq_some_iff_getElem];obtain⟨a,e⟩:=List.getElem?_eq_some_iff.1 ht;refine⟨by simp[b],k,a,e,fun j hj=>?_⟩;have:=h j tab[j] hj (List.getElem?_eq_getElem (by omega));simpa using this
theorem an0 (r:Int) (k:Nat) (h:Gh r k) (c:¬ k<tab.length):tab.find? (fun t=>at0 t 0 == r)=none:=by
 rw[List.find?_eq_none];intro t b;obtain⟨j,a⟩:=List.mem_iff_getElem?.1 b;have:=(List.getElem?_eq_some_iff.1 a).1;simpa using h j t (by omega) a
theorem fe {w:World} {B e:Nat} {v:Value} {zs:List Int}(h:ab w e v zs) (k:B<=e):ab w B v zs:=by
 obtain⟨j,d⟩:=h;refine⟨j,?_⟩;rcases d with d|⟨g,f,i,a,b,c⟩
 .exact .inl d
 .exact .inr ⟨g,f,i,a,by omega,c⟩
theorem qh (w:World) (zs:List Int) (n:Nat) (b:zs.length=n) (c:n<=maxLen) (cs:Array Value) (a:cs=(zs.map (Value.int .i64)).toArray):ab (w.alloc (.cells cs 3)) w.heap.size (.slice (some ⟨w.heap.size,0,none⟩) n n) zs:=by
 subst b;exact f3 zs a (heap_alloc_new w _) bR c
theorem Xy (w:World) (r:Int) (h1:r≠8491) (h2:¬ (44032<=r/\r<=55203)) :
  Calls prog 126 #[.int .i64 r] w fun e w'=>∃ v,e=.returned v/\ab w' w.heap.size v (apart r)/\Below w.heap.size w w':=by
 have C:apart r=match tab.find? (fun t=>at0 t 0 == r) with|some t=>[at0 t 1,at0 t 2]|none=>[r]:=by
  unfold apart;rw[if_neg h1,if_neg h2];rfl
 have l:Hid _:=C;have K:(r == 8491)=false:=by simpa using h1
 have N:=fun w=>jn r 44032 55203 h2 w
 have T:=fun w=>a58 w
 clear C h1 h2;go_enter func126,ntmps126;go_wp2_with fail;refine (N _).mono ?_;rintro e V ⟨rfl,rfl⟩;go_wp2_with fail;refine (T _).mono ?_;rintro e o ⟨v,rfl,⟨U,f,q⟩,d⟩;rw[J8]at f;obtain⟨g,cap,rfl⟩:∃ g cap,v=.slice (some ⟨g,0,none⟩) 57 cap:=by
  rcases f.2 with ⟨_,B⟩|⟨g,cap,_,h,_⟩
  .omega
  .exact⟨g,cap,h⟩
 clear T N;go_wp2_with fail;go_loop [34] (fun i=>∃ k:Nat,k<=57/\i=.int .i64 k/\Hid (Gh r k)) (fun i=>57-(intOf i).toNat)
 case atStart=>exact⟨0,Nat.zero_le _,rfl,fun j t I=>by omega⟩
 case round =>
  obtain⟨k,S,rfl,s⟩:=hrel;by_cases y:k<57
  .obtain⟨t,p⟩:∃ t,tab[k]? = some t:=⟨_,List.getElem?_eq_getElem (by rw[J8];exact y)⟩
   obtain⟨x,D,n⟩:=q k t p;have G:=a57 t (List.mem_of_getElem? p);have A:=f.cellAt k (by omega);rw[D]at A;obtain⟨a,b,c,rfl⟩:∃ a b c,t=[a,b,c]:=by
    match t,G with
    | [a,b,c],_=>exact⟨a,b,c,rfl⟩
   rcases n.form with ⟨_,B⟩|⟨h,J,rfl,F,L⟩
   .cases B
   have O:o.cell? ⟨h,0,none⟩=some (.int .i64 a):=n.cellAt 0 (by simp);have P:o.cell? ⟨h,1,none⟩=some (.int .i64 b):=n.cellAt 1 (by simp);have Q:o.cell? ⟨h,2,none⟩=some (.int .i64 c):=n.cellAt 2 (by simp);simp only[List.length_cons,List.length_nil]at A F;have z:Hid _:=p;have M:(k:Int)<57:=by omega
   clear q f p D n;by_cases e:a=r
   .subst e
    have m:=am9 a k _ s.out z.out rfl;have u:Hid (apart a=[b,c]):=by show _=_;rw[l.out,m];rfl
    clear m l;go_wp2_with fail;go_region
    go_wp2;go_ret;rw[u.out];exact⟨_,rfl,fe (qh o [b,c] 2 rfl (by unfold maxLen;omega) _ rfl) d.size,(d.alloc d.size _).drew⟩
   .have R:(a == r)=false:=by simpa using e
    have E:Hid (Gh r (k+1)):=by
     intro j t I h;by_cases H:j=k
     .subst H;rw[z.out]at h;cases h;exact e
     .exact s.out j t (by omega) h
    clear e l;go_wp2;exact⟨⟨k+1,by omega,by go_num,E⟩,by simp[intOf];omega⟩
  .have m:=an0 r k s.out (by rw[J8];exact y)
   have u:Hid (apart r=[r]):=by show _=_;rw[l.out,m]
   clear m l q f;go_wp2;go_ret;rw[u.out];exact⟨_,rfl,fe (qh o [r] 1 rfl (by unfold maxLen;omega) _ rfl) d.size,d.alloc d.size _⟩
theorem au1 (w:World) (a o2 o3:Obj):(((w.alloc a).alloc o2).alloc o3).heap[w.heap.size+1+1]? = some o3:=by
 have e:((w.alloc a).alloc o2).heap.size=w.heap.size+1+1:=by simp
 rw[<- e];exact heap_alloc_new _ o3
theorem b29 (w:World):3<=(Question.appendCap 3 2 3).cut (w.tape w.drawn (Question.appendCap 3 2 3))/\(Question.appendCap 3 2 3).cut (w.tape w.drawn (Question.appendCap 3 2 3))<=maxLen :=
 ⟨grownCap_ge w 3 2 3,grownCap_le_maxLen w 3 2 3 (by unfold maxLen;omega)⟩
theorem Xx (w:World):Calls prog 126 #[.int .i64 8491] w fun e w'=>∃ v,e=.returned v/\ab w' w.heap.size v (apart 8491)/\Below w.heap.size w w':=by
 have a:apart 8491=[197]:=by decide
 rw[a];go_enter func126,ntmps126;go_wp2;go_ret;exact⟨_,rfl,qh w [197] 1 rfl (by unfold maxLen;omega) _ rfl,bY _⟩
theorem Pz (w:World) (r:Int) (h1:44032<=r) (h2:r<=55203):Calls prog 126 #[.int .i64 r] w fun e w'=>∃ v,e=.returned v/\ab w' w.heap.size v (apart r)/\Below w.heap.size w w':=by
 have Y:=fun w=>oj r 44032 55203 ⟨h1,h2⟩ w
 have g:(r == 8491)=false:=by simp;omega
 have a:apart r=[4352+(r-44032) / 588,4449+(r-44032) % 588 / 28]++(if 0<(r-44032) % 28 then [4519+(r-44032) % 28] else []):=by
  unfold apart;rw[if_neg (by omega),if_pos ⟨h1,h2⟩]
 by_cases c:0<(r-44032) % 28
 .have d:Hid (apart r=[4352+(r-44032) / 588,4449+(r-44032) % 588 / 28]++[4519+(r-44032) % 28]):=by show _=_;rw[a,if_pos c]
  clear a;go_enter func126,ntmps126;go_wp2_with fail;refine (Y _).mono ?_;rintro e b ⟨rfl,rfl⟩;clear Y;go_wp2;go_ret;rw[d.out];have f:=b29 b;refine⟨_,rfl,At _ 3 rfl ?_ ?_ (au1 b _ _ _) (by omega) f.1 f.2,(((bY _).alloc (by simp) _).alloc (by simp;omega) _).drew⟩
  .simp
  .simp[size_zeroCells];omega
 .have d:Hid (apart r=[4352+(r-44032) / 588,4449+(r-44032) % 588 / 28]):=by show _=_;rw[a,if_neg c];simp
  clear a;go_enter func126,ntmps126;go_wp2_with fail;refine (Y _).mono ?_;rintro e b ⟨rfl,rfl⟩;clear Y;go_wp2;go_ret;rw[d.out];exact⟨_,rfl,qh b _ 2 rfl (by unfold maxLen;omega) _ rfl,bY _⟩
theorem Jd (w:World) (r:Int):Calls prog 126 #[.int .i64 r] w fun e w'=>∃ v,e=.returned v/\ab w' w.heap.size v (apart r)/\Below w.heap.size w w':=by
 by_cases b:r=8491
 .subst b;exact Xx w
 by_cases a:44032<=r/\r<=55203
 .exact Pz w r a.1 a.2
 .exact Xy w r b a
theorem wj (n:Nat) (r:Int):1<=(full n r).length:=by
 induction n generalizing r with
 | zero=>simp[full]
 | succ n ih =>
  by_cases h:apart r=[r]
  .rw[og h];simp
  .rw[wi h]
   have a:=(tm r).1
   cases ha:apart r with
   | nil=>rw[ha]at a;simp at a
   | cons x l=>simp only[List.flatMap_cons,List.length_append];have:=ih x;omega
theorem Dc {f:Int->List Int} {zs:List Int} {k:Nat} {x:Int}(h:zs[k]? = some x):(zs.take (k+1)).flatMap f=(zs.take k).flatMap f++f x:=by
 rw[List.take_add_one,h];simp[List.flatMap_append]
theorem uw {f:Int->List Int} {n:Nat}(zs:List Int) (k:Nat) (h:∀ x,(f x).length<=n):((zs.take k).flatMap f).length<=zs.length*n:=by
 have a:=pr f n (zs.take k) h;have b:(zs.take k).length<=zs.length:=by simp;omega
 exact Nat.le_trans a (Nat.mul_le_mul_right _ b)
theorem jr {w:World} {B:Nat} {v:Value} {zs:List Int}(h:ab w B v zs) (a:1<=zs.length):∃ g cap,v=.slice (some ⟨g,0,none⟩) zs.length cap:=by
 rcases h.form with ⟨_,rfl⟩|⟨g,cap,rfl,_,_⟩
 .simp at a
 .exact⟨g,cap,rfl⟩
theorem ji {w:World} {B g cap:Nat} {zs:List Int}(h:ab w B (.slice (some ⟨g,0,none⟩) zs.length cap) zs) (j:Nat) (x:Int) (a:zs[j]? = some x):w.cell? ⟨g,j,none⟩=some (.int .i64 x):=by
 have b:=(List.getElem?_eq_some_iff.1 a).1;have:=h.cell j b;rw[a]at this;exact this
theorem J0 {w:World} {B g cap:Nat} {zs:List Int}(h:ab w B (.slice (some ⟨g,0,none⟩) zs.length cap) zs):∀ j u,(zs.map (Value.int .i64))[j]? = some u->w.cell? ((⟨g,0,none⟩:Addr).add j)=some u:=by
 intro j u a;rw[List.getElem?_map,Option.map_eq_some_iff]at a;obtain⟨y,b,rfl⟩:=a;rw[show (⟨g,0,none⟩:Addr).add j=⟨g,j,none⟩ by unfold Addr.add;split <;> simp_all];exact ji h j y b
theorem R4 {w:World} {B g cap:Nat} {xs ys:List Int}(h:w.ownsRow B 3 1 (.slice (some ⟨g,0,none⟩) (xs.length+ys.length) cap) (xs.length+ys.length) (xs.map (Value.int .i64)++ys.map (Value.int .i64))) :
  ab w B (.slice (some ⟨g,0,none⟩) (xs.length+ys.length) cap) (xs++ys):=by
 unfold ab;rw[List.length_append,List.map_append];exact h
def Tl (w1:World) (f:Int->List Int) (ls:List Int) (out i:Value) (wr:World):Prop :=
 ∃ k:Nat,k<=ls.length/\i=.int .i64 k/\ab wr w1.heap.size out ((ls.take k).flatMap f)/\Below w1.heap.size w1 wr
theorem Cc {w1 w2 w3 wr:World} {f:Int->List Int} {ls:List Int} {k:Nat} {x:Int} {out:Value} {g cap n m:Nat}(e:k<ls.length) (o:ls[k]? = some x) (i:((ls.take k).flatMap f).length=n) (h:(f x).length=m)
  (a:Below w1.heap.size w1 wr) (b:Below wr.heap.size wr w2) (l:ab w2 w1.heap.size out ((ls.take k).flatMap f)) (c:w2.grownBy w3 out.ownBlock)
  (d:w3.ownsRow w1.heap.size 3 1 (.slice (some ⟨g,0,none⟩) (n+m) cap) (n+m) (((ls.take k).flatMap f).map (Value.int .i64)++(f x).map (Value.int .i64))) :
  Tl w1 f ls (.slice (some ⟨g,0,none⟩) (n+m) cap) (.int .i64 ((k:Int)+1)) w3:=by
 subst i;subst h;refine⟨k+1,e,by go_num,?_,Below.grown (a.trans (b.mono a.size)) c (Nat.le_trans a.size b.size) (fun j hj=>(World.ownsRow.lt l j hj).1)⟩;rw[Dc o];exact R4 d
theorem Ly (n:Nat) (r:Int) (w:World) (h:apart r=[r]):Calls prog 91 #[.int .i64 r] w fun e w'=>∃ v,e=.returned v/\ab w' w.heap.size v (full n r)/\Below w.heap.size w w':=by
 have A:=Jd w r;rw[og h];rw[h]at A;clear h;go_enter func91,ntmps91;go_wp2_with fail;refine A.mono ?_;rintro e f ⟨v,rfl,a,b⟩;obtain⟨g,c,rfl⟩:=jr a (by simp);have d:=ji a 0 r rfl;simp only[List.length_cons,List.length_nil]at a;clear A;go_wp2;go_ret;exact⟨_,rfl,a,b⟩
theorem b05 (n:Nat) (ac:n<=2):∀ (r:Int) (w:World),qg n r=true->Calls prog 91 #[.int .i64 r] w fun e w'=>∃ v,e=.returned v/\ab w' w.heap.size v (full n r)/\Below w.heap.size w w':=by
 induction n with
 | zero=>exact fun r w h=>Ly 0 r w (Kh h)
 | succ n ih0 =>
  intro r w T;have ih:=ih0 (by omega);by_cases p:apart r=[r]
  .exact Ly _ r w p
  .have U:=(Kg T).resolve_left p
   have A:=Jd w r;have a7:=tm r;have Z:Hid (full (n+1) r=(apart r).flatMap (full n)):=wi p;have IH:Hid (∀ x ∈ apart r,∀ w,Calls prog 91 #[.int .i64 x] w fun e w'=>∃ v,e=.returned v/\ab w' w.heap.size v (full n x)/\Below w.heap.size w w'):=fun x a w=>ih x w (U x a)
   clear ih ih0 T U;generalize apart r=ls at *;obtain⟨i0,hi,X,V,W⟩:=info_parts dv;have O:Hid (∀ x,(full n x).length<=9):=fun x=>Nat.le_trans (Fp n x) (Nat.le_trans (Nat.pow_le_pow_right (by omega) (show n<=2 by omega)) (by decide))
   have Y:Hid (∀ k,((ls.take k).flatMap (full n)).length<=27):=fun k=>Nat.le_trans (uw ls k O.out) (by omega)
   obtain⟨a8,a9⟩:=a7;by_cases R:ls.length=1
   .obtain⟨y,q⟩:∃ y,ls[0]? = some y:=⟨_,List.getElem?_eq_getElem (by omega)⟩
    have ad:(y == r)=false:=by
     simp only[beq_eq_false_iff_ne,ne_eq];intro e;subst e;apply p
     match ls,R,q with
     | [z],_,q=>simp at q;rw[q]
    have a3:((ls.length:Int) == 1)=true:=by simp;omega
    have a4:(0:Int)<(ls.length:Int):=by omega
    clear p;go_enter func91,ntmps91;go_wp2_with fail;refine A.mono ?_;rintro e E ⟨v,rfl,o,m⟩;obtain⟨g,a2,rfl⟩:=jr o (by omega);have c0:=ji o 0 y q;clear A q R;go_wp2_with fail;go_loopw [4,22] (fun out i wr=>Tl E (full n) ls out i wr) (fun _ i _=>ls.length-(intOf i).toNat)
    case atStart=>exact⟨0,Nat.zero_le _,rfl,⟨rfl,.inl ⟨rfl,rfl⟩⟩,bX⟩
    case round =>
     obtain⟨k,hk,rfl,f,c⟩:=hrel;by_cases t:k<ls.length
     .obtain⟨x,a⟩:∃ x,ls[k]? = some x:=⟨_,List.getElem?_eq_getElem t⟩
      have P:=ji (o.below c) k x a;have B:=IH.out x (List.mem_of_getElem? a) wr;obtain⟨N,l⟩:∃ N,((ls.take k).flatMap (full n)).length=N:=⟨_,rfl⟩
      have a6:N<=27:=by rw[<- l];exact Y.out k
      have F:Hid _:=a;have D:Hid _:=l;clear a l;go_wp2_with fail;refine B.mono ?_;rintro e S ⟨vx,rfl,s,b⟩;obtain⟨Q,G,rfl⟩:=jr s (wj n x);have j:=f.below b;unfold ab at j;rw[D.out]at j;have L:=J0 s;obtain⟨M,d⟩:∃ M,(full n x).length=M:=⟨_,rfl⟩
      have a5:1<=M/\M<=9:=by rw[<- d];exact⟨wj n x,O.out x⟩
      rw[d];have C:Hid _:=d;have K:=Nat.le_trans c.size b.size;clear B P d;go_wp2_with (at_builtin;refine wpList_append_lies _ rfl _ _ 39 rfl E.heap.size 3 i0 (.int .i64 0) 1 8 underlying39 hi X V W rfl (by decide) _ N _ rfl j ⟨Q,0,none⟩ M G ((full n x).map (Value.int .i64)) rfl (by rw[List.length_map,C.out,Nat.mul_one]) L (fun u hu=>by obtain⟨y,_,rfl⟩:=List.mem_map.1 hu;rfl) (by omega) (by unfold maxLen;omega) (by omega) K S.heap.size rfl ?_;intro g' a0 w3 J H aa a1)
      exact⟨Cc t F.out D.out C.out c b (f.below b) H J,by simp[intOf];omega⟩
     .have I:k=ls.length:=by omega
      subst I;rw[List.take_length]at f;go_wp2;go_ret;rw[Z.out];exact⟨_,rfl,fe f m.size,m.trans (c.mono m.size)⟩
   .have a3:((ls.length:Int) == 1)=false:=by simp;omega
    clear p R;go_enter func91,ntmps91;go_wp2_with fail;refine A.mono ?_;rintro e E ⟨v,rfl,o,m⟩;obtain⟨g,a2,rfl⟩:=jr o (by omega);clear A;go_wp2_with fail;go_loopw [4,22] (fun out i wr=>Tl E (full n) ls out i wr) (fun _ i _=>ls.length-(intOf i).toNat)
    case atStart=>exact⟨0,Nat.zero_le _,rfl,⟨rfl,.inl ⟨rfl,rfl⟩⟩,bX⟩
    case round =>
     obtain⟨k,hk,rfl,f,c⟩:=hrel;by_cases t:k<ls.length
     .obtain⟨x,a⟩:∃ x,ls[k]? = some x:=⟨_,List.getElem?_eq_getElem t⟩
      have P:=ji (o.below c) k x a;have B:=IH.out x (List.mem_of_getElem? a) wr;obtain⟨N,l⟩:∃ N,((ls.take k).flatMap (full n)).length=N:=⟨_,rfl⟩
      have a6:N<=27:=by rw[<- l];exact Y.out k
      have F:Hid _:=a;have D:Hid _:=l;clear a l;go_wp2_with fail;refine B.mono ?_;rintro e S ⟨vx,rfl,s,b⟩;obtain⟨Q,G,rfl⟩:=jr s (wj n x);have j:=f.below b;unfold ab at j;rw[D.out]at j;have L:=J0 s;obtain⟨M,d⟩:∃ M,(full n x).length=M:=⟨_,rfl⟩
      have a5:1<=M/\M<=9:=by rw[<- d];exact⟨wj n x,O.out x⟩
      rw[d];have C:Hid _:=d;have K:=Nat.le_trans c.size b.size;clear B P d;go_wp2_with (at_builtin;refine wpList_append_lies _ rfl _ _ 39 rfl E.heap.size 3 i0 (.int .i64 0) 1 8 underlying39 hi X V W rfl (by decide) _ N _ rfl j ⟨Q,0,none⟩ M G ((full n x).map (Value.int .i64)) rfl (by rw[List.length_map,C.out,Nat.mul_one]) L (fun u hu=>by obtain⟨y,_,rfl⟩:=List.mem_map.1 hu;rfl) (by omega) (by unfold maxLen;omega) (by omega) K S.heap.size rfl ?_;intro g' a0 w3 J H aa a1)
      exact⟨Cc t F.out D.out C.out c b (f.below b) H J,by simp[intOf];omega⟩
     .have I:k=ls.length:=by omega
      subst I;rw[List.take_length]at f;go_wp2;go_ret;rw[Z.out];exact⟨_,rfl,fe f m.size,m.trans (c.mono m.size)⟩
theorem al1 (r:Int) (w:World):Calls prog 91 #[.int .i64 r] w fun e w'=>∃ v,e=.returned v/\ab w' w.heap.size v (kw r)/\Below w.heap.size w w':=b05 2 bR r w (av0 r)
theorem as7 (w:World) (a:Option Addr) (c:Nat):Calls prog 41 #[.slice a 0 c] w fun e w'=>∃ v,e=.returned v/\ab w' w.heap.size v []/\Below w.heap.size w w':=by
 have R:Calls prog 92 #[.slice none 0 0] w fun e w'=>∃ v',e=.returned v'/\ab w' w.heap.size v' []/\Below w.heap.size w w':=Pd w
 go_enter func41,ntmps41;go_wp2;go_loop [3,8] (fun o i=>o=.slice none 0 0/\i=.int .i64 0) (fun _ _=>0)
 case atStart=>exact⟨rfl,rfl⟩
 case round =>
  obtain⟨rfl,rfl⟩:=hrel;go_wp2_with fail;refine R.mono ?_;rintro e f ⟨v,rfl,b,d⟩;clear R;go_wp2;go_ret;exact⟨_,rfl,b,d⟩
theorem b08 (w:World) (B g cap:Nat) (zs:List Int) (Z:zs.length<=200) (O:ab w B (.slice (some ⟨g,0,none⟩) zs.length cap) zs) :
  Calls prog 41 #[.slice (some ⟨g,0,none⟩) zs.length cap] w fun e w'=>∃ v,e=.returned v/\ab w' w.heap.size v (nD zs)/\Below w.heap.size w w':=by
 obtain⟨Q,P,F,D,E⟩:=info_parts dv;have H:Hid (∀ k,((zs.take k).flatMap kw).length<=1800):=fun k=>Nat.le_trans (uw zs k wv) (by omega)
 go_enter func41,ntmps41;go_wp2;go_loopw [3,8] (fun out i wr=>Tl w kw zs out i wr) (fun _ i _=>zs.length-(intOf i).toNat)
 case atStart=>exact⟨0,Nat.zero_le _,rfl,⟨rfl,.inl ⟨rfl,rfl⟩⟩,bX⟩
 case round =>
  obtain⟨k,Y,rfl,d,a⟩:=hrel;by_cases m:k<zs.length
  .obtain⟨x,j⟩:∃ x,zs[k]? = some x:=⟨_,List.getElem?_eq_getElem m⟩
   have I:=ji (O.below a) k x j;have n:=al1 x wr;obtain⟨N,h⟩:∃ N,((zs.take k).flatMap kw).length=N:=⟨_,rfl⟩
   have U:N<=1800:=by rw[<- h];exact H.out k
   have r:Hid _:=j;have p:Hid _:=h;clear j h;go_wp2_with fail;refine n.mono ?_;rintro e q ⟨vx,rfl,l,b⟩;obtain⟨J,s,rfl⟩:=jr l (wj 2 x);have f:=d.below b;unfold ab at f;rw[p.out]at f;have G:=J0 l;obtain⟨M,c⟩:∃ M,(kw x).length=M:=⟨_,rfl⟩
   have T:1<=M/\M<=9:=by rw[<- c];exact⟨wj 2 x,wv x⟩
   rw[c];have o:Hid _:=c;have C:=Nat.le_trans a.size b.size;clear n I c;go_wp2_with (at_builtin;refine wpList_append_lies _ rfl _ _ 39 rfl w.heap.size 3 Q (.int .i64 0) 1 8 underlying39 P F D E rfl (by decide) _ N _ rfl f ⟨J,0,none⟩ M s ((kw x).map (Value.int .i64)) rfl (by rw[List.length_map,o.out,Nat.mul_one]) G (fun u hu=>by obtain⟨y,_,rfl⟩:=List.mem_map.1 hu;rfl) (by omega) (by unfold maxLen;omega) (by omega) C q.heap.size rfl ?_;intro X S w3 A t V W)
   exact⟨Cc m r.out p.out o.out a b (d.below b) t A,by simp[intOf];omega⟩
  .have z:k=zs.length:=by omega
   subst z;rw[List.take_length]at d;have R:=ah4 (zs:=zs.flatMap kw) (Nat.le_trans (pr kw 9 zs wv) (by omega)) d;go_wp2_with fail;refine R.mono ?_;rintro e q ⟨v,rfl,K,L⟩;clear R;go_wp2;go_ret;exact⟨_,rfl,fe K a.size,a.trans (L.mono a.size)⟩
theorem Dr {w:World} {B:Nat} {v:Value} {zs:List Int}(c:zs.length<=200) (a:ab w B v zs) :
  Calls prog 41 #[v] w fun e w'=>∃ v',e=.returned v'/\ab w' w.heap.size v' (nD zs)/\Below w.heap.size w w':=by
 rcases a.form with ⟨rfl,rfl⟩|⟨g,b,rfl,d,f⟩
 .exact as7 w _ _
 .exact b08 w B g b zs c a
def okD (zs:List Int):Bool:=okR zs && decide ((apD zs).length<=200)
def Tr (zs:List Int):List Int:=if okD zs=true then nD zs else []
theorem av5 {zs:List Int}(h:okR zs=false):okD zs=false:=by simp[okD,h]
def bd (l:List Int):Bool:=decide (1<=l.length/\l.length<=4) && (okR l && decide (nD l=l))
theorem rn {w:World} {B:Nat} {v:Value} {l:List Int}(f:l.length<=1048576) (a:ab w B v l) :
  Calls prog 55 #[v] w fun e w'=>e=.returned (.bool (bd l))/\Below w.heap.size w w':=by
 have G:=aa5 f a;unfold bd;by_cases b:1<=l.length/\l.length<=4
 .obtain⟨g,h,rfl⟩:=jr a b.1
  have Y:=fun w=>oj (l.length:Int) 1 4 (by omega) w
  rw[show decide (1<=l.length/\l.length<=4)=true from decide_eq_true b,Bool.true_and]
  cases hok:okR l
  .rw[hok]at G
   clear a hok;go_enter func55,ntmps55;go_wp2_with fail;refine (Y _).mono ?_;rintro e c ⟨rfl,rfl⟩;go_wp2_with fail;refine G.mono ?_;rintro e c ⟨rfl,rfl⟩;clear G Y;go_wp2;go_ret;exact⟨rfl,bX⟩
  .rw[hok]at G
   have D:=Dr (qi hok).1 a;have n:(nD l).length<=1800:=by
    have k:=(qi hok).1;have m:=zj l;rw[zw];omega
   clear hok;generalize nD l=ds at *;go_enter func55,ntmps55;go_wp2_with fail;refine (Y _).mono ?_;rintro e c ⟨rfl,rfl⟩;go_wp2_with fail;refine G.mono ?_;rintro e c ⟨rfl,rfl⟩;go_wp2_with fail;refine D.mono ?_;rintro e p ⟨o,rfl,i,d⟩;clear D G Y;go_wp2_with fail;refine (Kz (by omega) f i (a.below d)).mono ?_;rintro e q ⟨rfl,j,rfl⟩;go_wp2;go_ret;exact⟨rfl,below_drewN d j⟩
 .rw[show decide (1<=l.length/\l.length<=4)=false from decide_eq_false b,Bool.false_and]
  have N:=fun w=>jn (l.length:Int) 1 4 (by omega) w
  clear G;rcases a.form with ⟨rfl,rfl⟩|⟨g,h,rfl,_,_⟩
  .simp only[List.length_nil]at N
   clear a b;go_enter func55,ntmps55;go_wp2_with fail;refine (N _).mono ?_;rintro e c ⟨rfl,rfl⟩;go_wp2;go_ret;exact⟨rfl,bX⟩
  .clear a b
   go_enter func55,ntmps55;go_wp2_with fail;refine (N _).mono ?_;rintro e c ⟨rfl,rfl⟩;go_wp2;go_ret;exact⟨rfl,bX⟩
def atE (es:List Ent) (l:List Int):Int:=match es.findIdx? (fun e=>decide (e.runes=l)) with
 | some i=>(i:Int)
 | none=>-1
def mn (es:List Ent) (l:List Int) (k:Nat):Prop:=∀ j e,j<k->es[j]? = some e->e.runes≠l
theorem mn.succ {es:List Ent} {l:List Int} {e:Ent} {k:Nat}(h:mn es l k) (d:es[k]? = some e) (b:e.runes≠l):mn es l (k+1):=by
 intro j y f a;by_cases c:j=k
 .subst c;rw[d]at a;cases a;exact b
 .exact h j y (by omega) a
theorem In {es:List Ent} {l:List Int} {e:Ent} {k:Nat}(h:mn es l k) (d:es[k]? = some e) (c:e.runes=l):atE es l=(k:Int):=by
 unfold atE;have:es.findIdx? (fun e=>decide (e.runes=l))=some k:=by
  rw[List.findIdx?_eq_some_iff_getElem];obtain⟨b,a⟩:=List.getElem?_eq_some_iff.1 d;refine⟨b,by simp[a,c],fun j hj=>?_⟩;have:=h j es[j] hj (List.getElem?_eq_getElem (by omega));simpa using this
 rw[this]
theorem M3 {es:List Ent} {l:List Int} {k:Nat}(h:mn es l k) (d:es.length<=k):atE es l=-1:=by
 unfold atE;have:es.findIdx? (fun e=>decide (e.runes=l))=none:=by
  rw[List.findIdx?_eq_none_iff];intro x b;obtain⟨j,a⟩:=List.mem_iff_getElem?.1 b;have c:=(List.getElem?_eq_some_iff.1 a).1;simpa using h j x (by omega) a
 rw[this]
def ax3 (w:World) (es:List Ent) (l:List Int) (i:Value) (wr:World):Prop:=∃ k:Nat,k<=es.length/\i=.int .i64 k/\mn es l k/\Below w.heap.size w wr
theorem al5 (w:World) (B D g cap:Nat) (es:List Ent) (sh:Bool) (lv:Int) (vl:Value) (l:List Int) (o:ac w B (.slice (some ⟨g,0,none⟩) es.length cap) es) (q:ab w D vl l) (O:es.length<=1048576) (F:l.length<=1048576) (r:∀ e ∈ es,e.runes.length<=1048576) :
  Calls prog 57 #[.agg #[.slice (some ⟨g,0,none⟩) es.length cap,.bool sh,.int .i64 lv],vl] w fun e w'=>e=.returned (.int .i64 (atE es l))/\Below w.heap.size w w':=by
 go_enter func57,ntmps57;go_wp2;go_loopw [10] (fun i wr=>ax3 w es l i wr) (fun i _=>es.length-(intOf i).toNat)
 case atStart=>exact⟨0,Nat.zero_le _,rfl,fun j e hj=>by omega,bY _⟩
 case round =>
  obtain⟨k,N,rfl,s,b⟩:=hrel;have a:=hZ s;clear s;by_cases A:k<es.length
  .obtain⟨e,f⟩:∃ e,es[k]? = some e:=⟨_,List.getElem?_eq_getElem A⟩
   obtain⟨x,p,H,I,J,K,L⟩:=(o.below b).cells k e f;obtain⟨h,m,xc,rfl⟩:∃ h m xc,x=.slice h m xc:=by
    rcases p.form with ⟨rfl,_⟩|⟨_,_,rfl,_,_⟩
    .exact⟨_,_,_,rfl⟩
    .exact⟨_,_,_,rfl⟩
   have G:(k:Int)<(es.length:Int):=by omega
   have C:=r e (List.mem_of_getElem? f);have t:=b.alloc b.size (.cells #[.slice h m xc,.int .i64 e.el.first,.int .i64 e.el.second,.int .i64 e.el.third,.bool e.el.varies] 117);have u:=(Below.refl wr.heap.size wr).alloc bR (.cells #[.slice h m xc,.int .i64 e.el.first,.int .i64 e.el.second,.int .i64 e.el.third,.bool e.el.varies] 117);have v:=Kz C F (p.below u) ((q.below b).below u);have d:Hid _:=f;clear f p o q r;go_wp2_with fail;refine v.mono ?_;rintro M P ⟨rfl,y,rfl⟩;clear v;by_cases c:e.runes=l
   .have n:Hid (atE es l=(k:Int)):=In a.out d.out c
    have E:decide (e.runes=l)=true:=decide_eq_true c;clear a d c;go_wp2;go_ret;rw[n.out];exact⟨rfl,below_drewN t y⟩
   .have z:Hid (mn es l (k+1)):=a.out.succ d.out c
    have E:decide (e.runes=l)=false:=decide_eq_false c;clear a d c;go_wp2;exact⟨⟨k+1,by omega,by go_num,z.out,below_drewN t y⟩,by simp[intOf];omega⟩
  .have n:Hid (atE es l=-1):=M3 a.out (by omega)
   clear a o q r;go_wp2;go_ret;rw[n.out];exact⟨rfl,b⟩
theorem al4 (w:World) (sh:Bool) (lv:Int) (vl:Value):Calls prog 57 #[.agg #[.slice none 0 0,.bool sh,.int .i64 lv],vl] w fun e w'=>e=.returned (.int .i64 (-1))/\Below w.heap.size w w':=by
 go_enter func57,ntmps57;go_wp2;go_loop [10] (fun i=>i=.int .i64 0) (fun _=>0)
 case atStart=>rfl
 case round =>
  subst hrel;go_wp2;go_ret;exact⟨rfl,bY _⟩
theorem ql {w:World} {B a:Nat} {v:Value} {es:List Ent} {sh:Bool} {lv:Int} {vl:Value} {l:List Int}(b:ac w B v es) (d:ab w a vl l) (h:es.length<=1048576) (f:l.length<=1048576) (i:∀ e ∈ es,e.runes.length<=1048576) :
  Calls prog 57 #[.agg #[v,.bool sh,.int .i64 lv],vl] w fun e w'=>e=.returned (.int .i64 (atE es l))/\Below w.heap.size w w':=by
 rcases b.form with ⟨rfl,rfl⟩|⟨g,c,rfl,_,_,_,_⟩
 .exact al4 w sh lv vl
 .exact al5 w B a g c es sh lv vl l b d h f i
def isD (zs:List Int):Bool:=okR zs && decide (nD zs=zs)
end Go.Proofs.YtjbmgghehdemdaaGreatDoor
