/- SBase -/
import Derived.Test.YtjbmgghehdemdaaGreatDoorMR2
import Derived.Deep.WholeRow
namespace Go.Proofs.YtjbmgghehdemdaaGreatDoor
set_option maxRecDepth 100000
set_option maxHeartbeats 16000000
open _root_.Go.Proofs.Tryz
open Go.RowKit
def vsl:List Int:=[32,95,45,44,59,58,33,63,46]
def mkl:List Int:=[824,807,808,803,817,768,769,770,771,772,774,775,776,778,780]
def d7 (l:List Int) (r:Int):Option Nat:=l.findIdx? (fun x=>x == r)
def gc (r:Int):List El :=
 if r<32\/r=127 then []
 else if 48<=r/\r<=57 then [⟨2000+100*(r-48),32,2,false⟩]
 else if 97<=r/\r<=122 then [⟨4000+200*(r-97),32,2,false⟩]
 else if 65<=r/\r<=90 then [⟨4000+200*(r-65),32,8,false⟩]
 else [⟨60000+r / 32768,32,2,false⟩,⟨32768+r % 32768,0,0,false⟩]
def base (r:Int):List El :=
 match d7 vsl r with
 | some i=>[⟨1+(i:Int),32,2,true⟩]
 | none=>match d7 mkl r with
  | some i=>[⟨0,40+(i:Int),2,false⟩]
  | none=>gc r
theorem M4 (r:Int):(base r).length<=2:=by
 unfold base gc;repeat' split
 all_goals simp
def o8 (l:List Int) (r:Int) (k:Nat):Prop:=∀ j x,j<k->l[j]? = some x->x≠r
theorem o8.succ {l:List Int} {r x:Int} {k:Nat}(h:o8 l r k) (c:l[k]? = some x) (b:x≠r):o8 l r (k+1):=by
 intro j y d a;by_cases e:j=k
 .subst e;rw[c]at a;cases a;exact b
 .exact h j y (by omega) a
theorem Cu {l:List Int} {r:Int} {k:Nat}(h:o8 l r k) (b:l[k]? = some r):d7 l r=some k:=by
 unfold d7;rw[List.findIdx?_eq_some_iff_getElem];obtain⟨a,e⟩:=List.getElem?_eq_some_iff.1 b;refine⟨a,by simp[e],fun j hj=>?_⟩;have:=h j l[j] hj (List.getElem?_eq_getElem (by omega));simpa using this
theorem Az {l:List Int} {r:Int} {k:Nat}(h:o8 l r k) (d:l.length<=k):d7 l r=none:=by
 unfold d7;rw[List.findIdx?_eq_none_iff];intro x b;obtain⟨j,a⟩:=List.mem_iff_getElem?.1 b;have c:=(List.getElem?_eq_some_iff.1 a).1;simpa using h j x (by omega) a
theorem ai9 (k:Nat) (a:k<9) (w:World):(Instr.index 9 (.string ⟨#[32,95,45,44,59,58,33,63,46]⟩) (.int .i64 k)).run prog w=.ok (.int .u8 (vsl[k]?.getD 0)) w:=by
 iterate 9 (rcases k with _|k;· kernel_rfl)
 omega
theorem jy {w:World} {B g n:Nat} {cs:Array Value}(es:List El) (c:es.length=n) (a:cs=(kt es).toArray) (h:w.heap[g]? = some (.cells cs 111 (0,0))) (b:B<=g) (d:n<=maxLen):ah w B (.slice (some ⟨g,0,none⟩) n n) es:=by
 subst a;subst c;exact⟨ts es,.inr ⟨g,es.length,_,rfl,b,h,bR,d,by simp[ts],by simp[<- ts]⟩⟩
theorem Js (w:World) (es:List El) (n:Nat) (b:es.length=n) (c:n<=maxLen) (cs:Array Value) (a:cs=(kt es).toArray):ah (w.alloc (.cells cs 111)) w.heap.size (.slice (some ⟨w.heap.size,0,none⟩) n n) es :=
 jy es b a (heap_alloc_new w _) bR c
theorem Iy (r a hi:Int) (h:a<=r/\r<=hi) (w:World):Calls prog 34 #[.int .i64 r,.int .i64 a,.int .i64 hi] w fun e w'=>e=.returned (.bool true)/\w'=w:=by
 obtain⟨b,c⟩:=h;go_enter func34,ntmps34;go_wp2;go_ret;exact⟨jj (by simp;try omega),rfl⟩
theorem Nh (r a hi:Int) (h:¬ (a<=r/\r<=hi)) (w:World):Calls prog 34 #[.int .i64 r,.int .i64 a,.int .i64 hi] w fun e w'=>e=.returned (.bool false)/\w'=w:=by
 by_cases c:a<=r
 .have b:¬ r<=hi:=fun b=>h ⟨c,b⟩
  clear h;go_enter func34,ntmps34;go_wp2;go_ret;exact⟨jj (by simp;try omega),rfl⟩
 .clear h
  go_enter func34,ntmps34;go_wp2;go_ret;exact⟨jj (by simp;try omega),rfl⟩
theorem Vu (w:World):Calls prog 135 #[] w fun e w'=>∃ g,e=.returned (.slice (some ⟨g,0,none⟩) 15 15)/\ab w' w.heap.size (.slice (some ⟨g,0,none⟩) 15 15) mkl/\Below w.heap.size w w':=by
 go_enter func135,ntmps135;go_wp2;go_ret;refine⟨_,rfl,?_,bY _⟩;exact⟨by simp[mkl],.inr ⟨w.heap.size,15,_,rfl,bR,heap_alloc_new w _,bR,by unfold maxLen;omega,rfl,rfl⟩⟩
theorem D8 (r:Int) (K:0<=r) (M:r<=1114111) (w:World):Calls prog 105 #[.int .i64 r] w fun e w'=>∃ v,e=.returned v/\ah w' w.heap.size v (base r)/\Below w.heap.size w w':=by
 have A:=fun w=>Vu w
 go_enter func105,ntmps105;go_wp2;go_loop [3] (fun i=>∃ k:Nat,k<=9/\i=.int .i64 k/\Hid (o8 vsl r k)) (fun i=>9-(intOf i).toNat)
 case atStart=>exact⟨0,Nat.zero_le _,rfl,fun j x hj=>by omega⟩
 case round =>
  obtain⟨k,J,rfl,c⟩:=hrel;by_cases s:k<9
  .have C:=fun w=>ai9 k s w
   obtain⟨x,q⟩:∃ x,vsl[k]? = some x:=⟨_,List.getElem?_eq_getElem (show k<vsl.length from s)⟩
   have G:0<=x/\x<=255:=(by decide:∀ y ∈ vsl,0<=y/\y<=255) x (List.mem_of_getElem? q);rw[q]at C;simp only[Option.getD_some]at C;have F:(k:Int)<9:=by omega
   have p:Hid _:=q;obtain⟨N,O⟩:=G;clear q A;by_cases e:x=r
   .subst e
    have b:Hid (base x=[⟨1+(k:Int),32,2,true⟩]):=by
     show _=_
     unfold base;rw[Cu c.out p.out]
    clear c p;go_wp2;go_ret;rw[b.out];exact⟨_,rfl,Js w _ 1 rfl (by unfold maxLen;omega) _ rfl,bY _⟩
   .have H:(x == r)=false:=by simpa using e
    have z:Hid (o8 vsl r (k+1)):=c.out.succ p.out e;clear c p e;go_wp2;exact⟨⟨k+1,by omega,by go_num,z⟩,by simp[intOf];omega⟩
  .have t:Hid (d7 vsl r=none):=Az c.out (by show 9<=k;omega)
   clear c;go_wp2_with fail;refine (A _).mono ?_;rintro e E ⟨g,rfl,B,a⟩;clear A;go_wp2_with fail;go_loop [21] (fun i=>∃ k:Nat,k<=15/\i=.int .i64 k/\Hid (o8 mkl r k)) (fun i=>15-(intOf i).toNat)
   case atStart=>exact⟨0,Nat.zero_le _,rfl,fun j x hj=>by omega⟩
   case round =>
    obtain⟨k,J,rfl,c⟩:=hrel;by_cases s:k<15
    .obtain⟨x,q⟩:∃ x,mkl[k]? = some x:=⟨_,List.getElem?_eq_getElem (show k<mkl.length from s)⟩
     have P:E.cell? ⟨g,k,none⟩=some (.int .i64 x):=by
      have I:=World.ownsRow.cellAt (n:=15) B k (by omega);rw[I];simp[q]
     have F:(k:Int)<15:=by omega
     have p:Hid _:=q;clear q B;by_cases e:x=r
     .subst e
      have b:Hid (base x=[⟨0,40+(k:Int),2,false⟩]):=by
       show _=_
       unfold base;rw[t.out];simp only;rw[Cu c.out p.out]
      clear c p t;go_wp2;go_ret;rw[b.out];exact⟨_,rfl,jy _ rfl rfl (heap_alloc_new E _) a.size (by unfold maxLen;simp),a.alloc a.size _⟩
     .have H:(x == r)=false:=by simpa using e
      have z:Hid (o8 mkl r (k+1)):=c.out.succ p.out e;clear c p e;go_wp2;exact⟨⟨k+1,by omega,by go_num,z⟩,by simp[intOf];omega⟩
    .have b:Hid (base r=gc r):=by
      show _=_
      unfold base;rw[t.out];simp only;rw[Az c.out (by show 15<=k;omega)]
     clear c t B;by_cases f:r<32\/r=127
     .have o:Hid (base r=[]):=by show _=_;rw[b.out];unfold gc;rw[if_pos f]
      clear b;by_cases q1:r<32
      .clear f
       go_wp2;go_ret;rw[o.out];exact⟨_,rfl,⟨rfl,.inl ⟨rfl,rfl⟩⟩,a⟩
      .have q2:r=127:=by omega
       subst q2;clear f;go_wp2;go_ret;rw[o.out];exact⟨_,rfl,⟨rfl,.inl ⟨rfl,rfl⟩⟩,a⟩
     .have q1:¬ r<32:=fun h=>f (.inl h)
      have q2:(r == 127)=false:=by simp;omega
      by_cases d:48<=r/\r<=57
      .have D:=fun w=>Iy r 48 57 d w
       have o:Hid (base r=[⟨2000+100*(r-48),32,2,false⟩]):=by show _=_;rw[b.out];unfold gc;rw[if_neg f,if_pos d]
       clear b f;go_wp2_with fail;refine (D _).mono ?_;rintro e m ⟨rfl,rfl⟩;clear D;go_wp2;go_ret;rw[o.out];exact⟨_,rfl,jy _ rfl rfl (heap_alloc_new m _) a.size (by unfold maxLen;simp),a.alloc a.size _⟩
      .have D:=fun w=>Nh r 48 57 d w
       by_cases l:97<=r/\r<=122
       .have L:=fun w=>Iy r 97 122 l w
        have o:Hid (base r=[⟨4000+200*(r-97),32,2,false⟩]):=by show _=_;rw[b.out];unfold gc;rw[if_neg f,if_neg d,if_pos l]
        clear b f d;go_wp2_with fail;refine (D _).mono ?_;rintro e m ⟨rfl,rfl⟩;go_wp2_with fail;refine (L _).mono ?_;rintro e m ⟨rfl,rfl⟩;clear D L;go_wp2;go_ret;rw[o.out];exact⟨_,rfl,jy _ rfl rfl (heap_alloc_new m _) a.size (by unfold maxLen;simp),a.alloc a.size _⟩
       .have L:=fun w=>Nh r 97 122 l w
        by_cases u:65<=r/\r<=90
        .have U:=fun w=>Iy r 65 90 u w
         have o:Hid (base r=[⟨4000+200*(r-65),32,8,false⟩]):=by show _=_;rw[b.out];unfold gc;rw[if_neg f,if_neg d,if_neg l,if_pos u]
         clear b f d l;go_wp2_with fail;refine (D _).mono ?_;rintro e m ⟨rfl,rfl⟩;go_wp2_with fail;refine (L _).mono ?_;rintro e m ⟨rfl,rfl⟩;go_wp2_with fail;refine (U _).mono ?_;rintro e m ⟨rfl,rfl⟩;clear D L U;go_wp2;go_ret;rw[o.out];exact⟨_,rfl,jy _ rfl rfl (heap_alloc_new m _) a.size (by unfold maxLen;simp),a.alloc a.size _⟩
        .have U:=fun w=>Nh r 65 90 u w
         have o:Hid (base r=[⟨60000+r / 32768,32,2,false⟩,⟨32768+r % 32768,0,0,false⟩]):=by show _=_;rw[b.out];unfold gc;rw[if_neg f,if_neg d,if_neg l,if_neg u]
         clear b f d l u;go_wp2_with fail;refine (D _).mono ?_;rintro e m ⟨rfl,rfl⟩;go_wp2_with fail;refine (L _).mono ?_;rintro e m ⟨rfl,rfl⟩;go_wp2_with fail;refine (U _).mono ?_;rintro e m ⟨rfl,rfl⟩;clear D L U;go_wp2;go_ret;rw[o.out];exact⟨_,rfl,jy _ rfl rfl (heap_alloc_new m _) a.size (by unfold maxLen;simp),a.alloc a.size _⟩
def a82:Array Value:=(yw.map (Value.int .i64)).toArray
def ad9:Array Value:=(xq.map (Value.int .i64)).toArray
def pv (t:List Int):Value:=.agg #[.int .i64 (at0 t 0),.int .i64 (at0 t 1),.int .i64 (at0 t 2)]
theorem Ya (k:Nat) (a:k<26) (w:World):(Instr.index 295 (.agg a82) (.int .i64 k)).run prog w=.ok (.agg #[.int .i64 (at0 (nz.getD k []) 0),.int .i64 (at0 (nz.getD k []) 1),.int .i64 (at0 (nz.getD k []) 2)]) w:=by
 iterate 26 (rcases k with _|k;· kernel_rfl)
 omega
theorem a11 (k:Nat) (a:k<5) (w:World):(Instr.index 297 (.agg ad9) (.int .i64 k)).run prog w=.ok (.agg #[.int .i64 (at0 (xr.getD k []) 0),.int .i64 (at0 (xr.getD k []) 1),.int .i64 (at0 (xr.getD k []) 2)]) w:=by
 iterate 5 (rcases k with _|k;· kernel_rfl)
 omega
theorem ah9:∀ k ∈ List.range 26,o5[2*k]? = some [at0 (nz.getD k []) 0,at0 (nz.getD k []) 1,at0 (nz.getD k []) 2]/\o5[2*k+1]? = some [at0 (nz.getD k []) 0+32,at0 (nz.getD k []) 1+32,at0 (nz.getD k []) 2]:=by decide +kernel
theorem ai1:∀ k ∈ List.range 5,o5[52+k]? = some [at0 (xr.getD k []) 0,at0 (xr.getD k []) 1,at0 (xr.getD k []) 2]:=by decide +kernel
theorem Y9:∀ k ∈ List.range 26,(0<=at0 (nz.getD k []) 0/\at0 (nz.getD k []) 0<=300)/\0<=at0 (nz.getD k []) 1/\at0 (nz.getD k []) 1<=300:=by decide +kernel
theorem ai0:o5.length=57:=by decide +kernel
def y7 (p:List Int->Bool) (k:Nat):Prop:=∀ j t,j<k->o5[j]? = some t->p t=false
theorem y7.succ {p:List Int->Bool} {k:Nat} {t:List Int}(h:y7 p k) (ht:o5[k]? = some t) (b:p t=false):y7 p (k+1):=by
 intro j u c a;by_cases e:j=k
 .subst e;rw[ht]at a;cases a;exact b
 .exact h j u (by omega) a
theorem Fo {p:List Int->Bool} {k:Nat} {t:List Int}(h:y7 p k) (ht:o5[k]? = some t) (b:p t=true):o5.find? p=some t:=by
 rw[List.find?_eq_some_iff_getElem];obtain⟨a,e⟩:=List.getElem?_eq_some_iff.1 ht;refine⟨b,k,a,e,fun j hj=>?_⟩;have:=h j o5[j] hj (List.getElem?_eq_getElem (by omega));simpa using this
theorem a99 {p:List Int->Bool} {k:Nat}(h:y7 p k) (e:57<=k):o5.find? p=none:=by
 rw[List.find?_eq_none];intro t b;obtain⟨j,a⟩:=List.mem_iff_getElem?.1 b;have c:=(List.getElem?_eq_some_iff.1 a).1;have d:=ai0;simpa using h j t (by omega) a
theorem a44 (w:World) (a b c:Int) (g:0<=a/\a<=300) (h:0<=b/\b<=300) :
  Calls prog 233 #[.agg #[.int .i64 a,.int .i64 b,.int .i64 c]] w fun e w'=>e=.returned (.agg #[.int .i64 (a+32),.int .i64 (b+32),.int .i64 c])/\Below w.heap.size w w':=by
 have d:IntKind.i64.wrap (a+32)=a+32:=by rw[IntKind.wrap_i64];omega
 have f:IntKind.i64.wrap (b+32)=b+32:=by rw[IntKind.wrap_i64];omega
 go_enter func233,ntmps233;go_wp2;refine bodyPost_ret (v:=.agg #[.int .i64 (a+32),.int .i64 (b+32),.int .i64 c]) ?_ rfl ⟨rfl,(bY _).alloc (by simp) _⟩;exact results_cell_row rfl _ _ (w.heap.size+1) 292 _ (0,0) _ rfl (heap_alloc2_new _ _ _) underlying292 rfl (by kernel_rfl)
def qq (o:Option (List Int)):Value:=.tuple #[pv (o.getD []),.bool o.isSome]
theorem Wq {o:Option (List Int)} {a b c:Int}(h:o=some [a,b,c]):Ending.returned (.tuple #[.agg #[.int .i64 a,.int .i64 b,.int .i64 c],.bool true])=.returned (qq o):=by rw[h];rfl
theorem aw2 {o:Option (List Int)}(h:o=none):Ending.returned (.tuple #[.agg #[.int .i64 0,.int .i64 0,.int .i64 0],.bool false])=.returned (qq o):=by rw[h];rfl
def wt (w wr:World):Prop:=wr.heap[w.heap.size]? = some (.cells #[.int .i64 0,.int .i64 0,.int .i64 0] 292)
theorem wt.facts {w wr:World}(h:wt w wr):w.heap.size<wr.heap.size/\wr.cell? ⟨w.heap.size,0,none⟩=some (.int .i64 0)/\wr.cell? ⟨w.heap.size,1,none⟩=some (.int .i64 0)/\wr.cell? ⟨w.heap.size,2,none⟩=some (.int .i64 0)/\∀ j,wr.frozen? ⟨w.heap.size,j,none⟩=false :=
 ⟨(Array.getElem?_eq_some_iff.1 h).1,by simp[World.cell?,show wr.heap[w.heap.size]? = _ from h],by simp[World.cell?,show wr.heap[w.heap.size]? = _ from h],by simp[World.cell?,show wr.heap[w.heap.size]? = _ from h],fun j=>by simp[World.frozen?,show wr.heap[w.heap.size]? = _ from h]⟩
theorem wt.alloc {w wr:World}(h:wt w wr) (o:Obj):wt w (wr.alloc o):=by
 unfold wt;rw[Below.heap_alloc _ _ _ h.facts.1];exact h
theorem wt.below {w wr w':World}(h:wt w wr){B:Nat}(b:Below B wr w') (a:wr.heap.size<=B):wt w w':=by
 unfold wt;rw[b.block _ (Nat.lt_of_lt_of_le h.facts.1 a)];exact h
theorem od {w wr:World}(h:Below w.heap.size w wr) (x y z:Value):Below w.heap.size w (((wr.setCell ⟨w.heap.size,0,none⟩ x).setCell ⟨w.heap.size,1,none⟩ y).setCell ⟨w.heap.size,2,none⟩ z) :=
 ((h.setCell bR _).setCell bR _).setCell bR _
def Tn (n:Nat) (w:World) (p:List Int->Bool) (m o:Nat) (i:Value) (wr:World):Prop :=
 ∃ k:Nat,k<=n/\i=.int .i64 k/\y7 p (o+m*k)/\Below w.heap.size w wr/\wt w wr
theorem Ne (r:Int) (w:World) (T:db w 10 yw) (F:db w 11 xq) :
  Calls prog 232 #[.int .i64 r] w fun e w'=>e=.returned (qq (o5.find? (fun t=>at0 t 0 == r)))/\Below w.heap.size w w':=by
 obtain⟨t,K,n⟩:=T;have O:=F.lt;have I:=hZ F;have q:(w.alloc (.cells #[.int .i64 0,.int .i64 0,.int .i64 0] 292)).heap[10]? = some (.cells a82 t K):=by
  rw[Below.heap_alloc _ _ _ ((Array.getElem?_eq_some_iff.1 n).1)];exact n
 clear n F;go_enter func232,ntmps232;go_wp2_with (refine wpList_load_row rfl 295 (.global 10) rfl 10 rfl t a82 K _ q underlying295 rfl (by kernel_rfl) ?_)
 clear q;go_loopw [10] (fun i wr=>Tn 26 w (fun t=>at0 t 0 == r) 2 0 i wr) (fun i _=>26-(intOf i).toNat)
 case atStart=>exact⟨0,Nat.zero_le _,rfl,fun j t hj=>by omega,bY _,heap_alloc_new w _⟩
 case round =>
  obtain⟨k,V,rfl,p,d,g⟩:=hrel;have f:=hZ p;clear p;obtain⟨D,y,z,A,B⟩:=g.facts;by_cases o:k<26
  .have U:=fun w=>Ya k o w
   have h:=ah9 k (by simpa using o);obtain⟨P,Q⟩:=Y9 k (by simpa using o);generalize at0 (nz.getD k []) 0=a at *;generalize at0 (nz.getD k []) 1=b at *;generalize at0 (nz.getD k []) 2=c at *;have N:(k:Int)<26:=by omega
   by_cases e:a=r
   .subst e
    have m:Hid (o5.find? (fun t=>at0 t 0 == a)=some [a,b,c]):=Fo f.out (by rw[Nat.zero_add];exact h.1) (by simp[at0]);clear f h g;go_wp2;(try simp only[Exit.inBlock,Exit.then])
    refine bodyPost_ret (v:=.tuple #[.agg #[.int .i64 a,.int .i64 b,.int .i64 c],.bool true]) ?_ rfl ⟨Wq m.out,(od d _ _ _).alloc (od d _ _ _).size _⟩;rw[results_cell_tmp rfl];go_simp
   .have R:(a == r)=false:=by simpa using e
    have J:=fun w=>a44 w a b c P Q
    have l:=f.out.succ (t:=[a,b,c]) (by rw[Nat.zero_add];exact h.1) (by simpa [at0] using e);have s:=h.2;clear f h e y z A B;go_wp2_with fail;refine (J _).mono ?_;rintro e w1 ⟨rfl,C⟩;have x:=(g.alloc (.cells #[.int .i64 a,.int .i64 b,.int .i64 c] 292)).below C bR;have u:Below w.heap.size w w1:=(d.alloc d.size _).trans (C.mono (d.alloc d.size _).size);obtain⟨W,y,z,A,B⟩:=x.facts;clear J C d g D;by_cases e:a+32=r
    .have m:Hid (o5.find? (fun t=>at0 t 0 == r)=some [a+32,b+32,c]):=Fo l (by rw[Nat.zero_add];exact s) (by simp[at0,e])
     clear l s x;have S:(a+32 == r)=true:=by simpa using e
     clear e;go_wp2;(try simp only[Exit.inBlock,Exit.then])
     refine bodyPost_ret (v:=.tuple #[.agg #[.int .i64 (a+32),.int .i64 (b+32),.int .i64 c],.bool true]) ?_ rfl ⟨Wq m.out,(od u _ _ _).alloc (od u _ _ _).size _⟩;rw[results_cell_tmp rfl];go_simp
    .have S:(a+32 == r)=false:=by simpa using e
     have G:=l.succ (t:=[a+32,b+32,c]) (by rw[Nat.zero_add];exact s) (by simpa [at0] using e);have E:Hid (Tn 26 w (fun t=>at0 t 0 == r) 2 0 (.int .i64 ((k:Int)+1)) (w1.alloc (.cells #[.int .i64 (a+32),.int .i64 (b+32),.int .i64 c] 292))) :=
      ⟨k+1,by omega,by go_num,by rw[show 0+2*(k+1)=0+2*k+1+1 by omega];exact G,u.alloc u.size _,x.alloc _⟩
     clear l s x G e;go_wp2;exact⟨E.out,by simp[intOf];omega⟩
  .have M:k=26:=by omega
   subst M;obtain⟨L,H,n⟩:=I.out.below d O;have q:wr.heap[11]? = some (.cells ad9 L H):=n;clear n I y z A B;go_wp2_with (refine wpList_load_row rfl 297 (.global 11) rfl 11 rfl L ad9 H _ q underlying297 rfl (by kernel_rfl) ?_)
   clear q;go_loopw [27] (fun i wr=>Tn 5 w (fun t=>at0 t 0 == r) 1 52 i wr) (fun i _=>5-(intOf i).toNat)
   case atStart=>exact⟨0,Nat.zero_le _,rfl,f.out,d,g⟩
   case round =>
    clear d g D f;obtain⟨k,V,rfl,p,d,g⟩:=hrel;have f:=hZ p;clear p;obtain⟨D,y,z,A,B⟩:=g.facts;by_cases o:k<5
    .have U:=fun w=>a11 k o w
     have h:=ai1 k (by simpa using o);generalize at0 (xr.getD k []) 0=a at *;generalize at0 (xr.getD k []) 1=b at *;generalize at0 (xr.getD k []) 2=c at *;have N:(k:Int)<5:=by omega
     by_cases e:a=r
     .subst e
      have m:Hid (o5.find? (fun t=>at0 t 0 == a)=some [a,b,c]):=Fo f.out (by rw[Nat.one_mul];exact h) (by simp[at0]);clear f h g;go_wp2;(try simp only[Exit.inBlock,Exit.then])
      refine bodyPost_ret (v:=.tuple #[.agg #[.int .i64 a,.int .i64 b,.int .i64 c],.bool true]) ?_ rfl ⟨Wq m.out,(od d _ _ _).alloc (od d _ _ _).size _⟩;rw[results_cell_tmp rfl];go_simp
     .have R:(a == r)=false:=by simpa using e
      have l:=f.out.succ (t:=[a,b,c]) (by rw[Nat.one_mul];exact h) (by simpa [at0] using e);have E:Hid (Tn 5 w (fun t=>at0 t 0 == r) 1 52 (.int .i64 ((k:Int)+1)) (wr.alloc (.cells #[.int .i64 a,.int .i64 b,.int .i64 c] 292))) :=
       ⟨k+1,by omega,by go_num,by rw[show 52+1*(k+1)=52+1*k+1 by omega];exact l,d.alloc d.size _,g.alloc _⟩
      clear f h e l g;go_wp2;exact⟨E.out,by simp[intOf];omega⟩
    .have m:Hid (o5.find? (fun t=>at0 t 0 == r)=none):=a99 f.out (by omega)
     clear f g;go_wp2;(try simp only[Exit.inBlock,Exit.then])
     refine bodyPost_ret (v:=.tuple #[.agg #[.int .i64 0,.int .i64 0,.int .i64 0],.bool false]) ?_ rfl ⟨aw2 m.out,?_⟩
     .rw[results_cell_tmp rfl]
      go_simp
     .first|exact od d _ _ _|exact d
def Dh (a b:List Int) (k:Nat):Prop:=∀ j,j<k->a[j]? = b[j]?
theorem re (w:World) (a b:Option Addr) (c d:Nat):Calls prog 190 #[.slice a 0 c,.slice b 0 d] w fun e w'=>e=.returned (.bool true)/\∃ n,w'=w.drewN n:=by
 go_enter func190,ntmps190;go_wp2;go_loopw [13] (fun i wr=>i=.int .i64 0/\wr=w) (fun _ _=>0)
 case atStart=>exact⟨rfl,rfl⟩
 case round =>
  obtain⟨rfl,rfl⟩:=hrel;go_wp2;go_ret;exact⟨rfl,0,rfl⟩
theorem tw (w:World) (a b:Option Addr) (n m c d:Nat) (h:n≠m):Calls prog 190 #[.slice a n c,.slice b m d] w fun e w'=>e=.returned (.bool false)/\∃ n,w'=w.drewN n:=by
 have f:((n:Int) != (m:Int))=true:=by simp;omega
 go_enter func190,ntmps190;go_wp2;go_ret;exact⟨rfl,0,rfl⟩
theorem Z0 (w:World) (g g' cap A n:Nat) (a b:List Int) (c:a.length=n) (d:b.length=n) (I:n<=1048576)
  (h1:∀ j,j<n->w.cell? ⟨g,j,none⟩=some (.int .i64 (a[j]?.getD 0)))
  (h2:∀ j,j<n->w.cell? ⟨g',j,none⟩=some (.int .i64 (b[j]?.getD 0))) :
  Calls prog 190 #[.slice (some ⟨g,0,none⟩) n cap,.slice (some ⟨g',0,none⟩) n A] w fun e w'=>e=.returned (.bool (decide (a=b)))/\∃ n,w'=w.drewN n:=by
 go_enter func190,ntmps190;go_wp2;go_loopw [13] (fun i wr=>∃ k v:Nat,k<=n/\i=.int .i64 k/\wr=w.drewN v/\Hid (Dh a b k)) (fun i _=>n-(intOf i).toNat)
 case atStart=>exact⟨0,0,Nat.zero_le _,rfl,rfl,fun j o=>by omega⟩
 case round =>
  obtain⟨k,v,H,rfl,rfl,s⟩:=hrel;by_cases r:k<n
  .obtain⟨x,p⟩:∃ x,a[k]? = some x:=⟨_,List.getElem?_eq_getElem (by omega)⟩
   obtain⟨y,q⟩:∃ y,b[k]? = some y:=⟨_,List.getElem?_eq_getElem (by omega)⟩
   have l:=h1 k r;have m:=h2 k r;rw[p]at l;rw[q]at m;have F:w.cell? ⟨g,k,none⟩=some (.int .i64 x):=l;have G:w.cell? ⟨g',k,none⟩=some (.int .i64 y):=m;have E:(k:Int)<(n:Int):=by omega
   have t:Hid _:=p;have u:Hid _:=q;have B:Hid _:=c;have C:Hid _:=d;clear h1 h2 l m p q c d;by_cases e:x=y
   .subst e
    have z:Hid (Dh a b (k+1)):=by
     intro j o;by_cases e:j=k
     .subst e;rw[t.out,u.out]
     .exact s.out j (by omega)
    go_wp2;go_quiet (fail)
    go_wp2;exact⟨⟨k+1,_,by omega,by go_num,rfl,z⟩,by simp[intOf];omega⟩
   .have D:(x != y)=true:=by simpa using e
    have f:Hid (false=decide (a=b)):=by
     refine (decide_eq_false fun h=>e ?_).symm;have:=t.out;rw[h,u.out]at this;exact (Option.some.inj this).symm
    clear e;go_wp2;go_quiet (fail)
    go_wp2;go_ret;exact⟨jj f.out,_,World.drewN_drewN _ _ _⟩
  .have f:Hid (true=decide (a=b)):=by
    refine (decide_eq_true ?_).symm;apply List.ext_getElem?
    intro j;by_cases o:j<k
    .exact s.out j o
    .rw[List.getElem?_eq_none (by omega),List.getElem?_eq_none (by omega)]
   have B:Hid _:=c;have C:Hid _:=d;clear h1 h2 c d;go_wp2;go_ret;exact⟨jj f.out,_,rfl⟩
theorem Jv {w:World} {B p:Nat} {a b:Value} {c d:List Int}(o:c.length<=1048576) (s:d.length<=1048576) (l:ab w B a c) (f:ab w p b d) :
  Calls prog 190 #[a,b] w fun e w'=>e=.returned (.bool (decide (c=d)))/\∃ n,w'=w.drewN n:=by
 by_cases h:c.length=d.length
 .rcases l.form with ⟨rfl,rfl⟩|⟨g,m,rfl,q,r⟩
  .have e:d=[]:=List.eq_nil_of_length_eq_zero (by simpa using h.symm)
   subst e;rcases f.form with ⟨rfl,_⟩|⟨k,i,rfl,_,_⟩
   .exact re w _ _ _ _
   .exact re w _ _ _ _
  .rcases f.form with ⟨rfl,rfl⟩|⟨k,i,rfl,_,_⟩
   .have e:c=[]:=List.eq_nil_of_length_eq_zero (by simpa using h)
    subst e;exact re w _ _ _ _
   .rw[<- h]
    exact Z0 w g k m i c.length c d rfl h.symm o (fun j hj=>l.cell j hj) (fun j hj=>f.cell j (by omega))
 .have e:decide (c=d)=false:=decide_eq_false (fun e=>h (by rw[e]))
  rw[e];rcases l.form with ⟨rfl,rfl⟩|⟨g,m,rfl,q,r⟩
  .rcases f.form with ⟨rfl,rfl⟩|⟨k,i,rfl,_,_⟩
   .exact absurd rfl h
   .exact tw w _ _ _ _ _ _ (by simpa using h)
  .rcases f.form with ⟨rfl,rfl⟩|⟨k,i,rfl,_,_⟩
   .exact tw w _ _ _ _ _ _ (by simpa using h)
   .exact tw w _ _ _ _ _ _ h
theorem mi {l:List Int} {r:Int}(h:r ∉ l):d7 l r=none:=by
 unfold d7;rw[List.findIdx?_eq_none_iff];intro x a;simp only[beq_eq_false_iff_ne];intro e;exact h (e ▸ a)
theorem ae6 {l:List Int} {r:Int}(h:r ∈ l):∃ i,d7 l r=some i/\i<l.length:=by
 cases e:d7 l r with
 | some i=>exact⟨i,rfl,by unfold d7 at e;exact (List.findIdx?_eq_some_iff_getElem.1 e).1⟩
 | none =>
  unfold d7 at e;have:=List.findIdx?_eq_none_iff.1 e r h;simp at this
def pi (r:Int):Int:=match d7 vsl r with
 | some i=>(i:Int)
 | none=>-1
theorem al7 {r:Int} {i:Nat}(h:d7 vsl r=some i):base r=[⟨1+(i:Int),32,2,true⟩]:=by unfold base;rw[h]
theorem al6 {r:Int} {i:Nat}(h0:d7 vsl r=none) (h:d7 mkl r=some i):base r=[⟨0,40+(i:Int),2,false⟩]:=by unfold base;rw[h0];simp only;rw[h]
theorem tr {r:Int}(h0:d7 vsl r=none) (h:d7 mkl r=none):base r=gc r:=by unfold base;rw[h0];simp only;rw[h]
theorem ru:∀ x ∈ vsl,32<=x/\x<=126/\¬ (48<=x/\x<=57)/\¬ (97<=x/\x<=122)/\¬ (65<=x/\x<=90):=by decide
theorem av3:∀ x ∈ mkl,128<=x:=by decide
theorem a61 {r:Int}(h:¬ (32<=r/\r<=126)):d7 vsl r=none:=mi fun c=>h ⟨(ru r c).1,(ru r c).2.1⟩
theorem Ht {r:Int}(h:r<128):d7 mkl r=none:=mi fun c=>by have:=av3 r c;omega
theorem a71 {r:Int}(_h0:0<=r) (h:r<=31\/r=127):base r=[]:=by
 rw[tr (a61 (by omega)) (Ht (by omega))];unfold gc;rw[if_pos (by omega)]
theorem Gt {r:Int}(h:48<=r/\r<=57):base r=[⟨2000+100*(r-48),32,2,false⟩]:=by
 rw[tr (mi fun c=>(ru r c).2.2.1 h) (Ht (by omega))];unfold gc;rw[if_neg (by omega),if_pos h]
theorem Gu {r:Int}(h:97<=r/\r<=122):base r=[⟨4000+200*(r-97),32,2,false⟩]:=by
 rw[tr (mi fun c=>(ru r c).2.2.2.1 h) (Ht (by omega))];unfold gc;rw[if_neg (by omega),if_neg (by omega),if_pos h]
theorem a70 {r:Int}(h:65<=r/\r<=90):base r=[⟨4000+200*(r-65),32,8,false⟩]:=by
 rw[tr (mi fun c=>(ru r c).2.2.2.2 h) (Ht (by omega))];unfold gc;rw[if_neg (by omega),if_neg (by omega),if_neg (by omega),if_pos h]
theorem a74 {r:Int}(h0:d7 vsl r=none) (h:d7 mkl r=none) (h1:¬ (r<=31\/r=127)) (h2:¬ (48<=r/\r<=57)) (a:¬ (97<=r/\r<=122)) (b:¬ (65<=r/\r<=90)):base r=[⟨60000+r / 32768,32,2,false⟩,⟨32768+r % 32768,0,0,false⟩]:=by
 rw[tr h0 h];unfold gc;rw[if_neg (by omega),if_neg h2,if_neg a,if_neg b]
end Go.Proofs.YtjbmgghehdemdaaGreatDoor
