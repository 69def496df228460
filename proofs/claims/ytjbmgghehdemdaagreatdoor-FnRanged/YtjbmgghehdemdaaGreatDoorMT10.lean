/- IWeight -/
import Derived.Test.YtjbmgghehdemdaaGreatDoorMT5
import Derived.Test.YtjbmgghehdemdaaGreatDoorMT8
namespace Go.Proofs.YtjbmgghehdemdaaGreatDoor
set_option maxRecDepth 100000
set_option maxHeartbeats 16000000
open _root_.Go.Proofs.Tryz
open Go.RowKit
theorem nl (n:Int) (w:World):Calls prog 193 #[.int .i64 n] w fun e w'=>e=.returned (.agg #[.int .i64 n,.int .i64 32,.int .i64 2,.bool false])∧Below w.heap.size w w':=by
 go_enter func193,ntmps193;go_wp2;refine bodyPost_ret (v:=.agg #[.int .i64 n,.int .i64 32,.int .i64 2,.bool false]) ?_ rfl ⟨rfl,bY _⟩;rw[av rfl];go_simp
def wtV:List El→Value
 | []=>.iface 274 (.agg #[])
 | [e]=>.iface 266 (.agg #[.int .i64 e.first,.int .i64 e.second,.int .i64 e.third,.bool e.varies])
 | e::f::_=>.iface 280 (.agg #[.int .i64 e.first,.int .i64 e.second,.int .i64 e.third,.bool e.varies,.int .i64 f.first,.int .i64 f.second,.int .i64 f.third,.bool f.varies])
theorem Ls {x y:Value}(h:x=y):Ending.returned x=.returned y:=by rw[h]
theorem Xl (r:Int) (h0:0≤r) (h:r≤31∨r=127) (w:World) :
  Calls prog 203 #[.int .i64 r] w fun e w'=>e=.returned (wtV (base r))∧Below w.heap.size w w':=by
 rw[a70 h0 h];unfold wtV;by_cases h1:r≤31
 .clear h
  go_enter func203,ntmps203;go_wp2;go_ret;exact⟨rfl,bX⟩
 .have h2:r=127:=by omega
  subst h2;clear h h0 h1;go_enter func203,ntmps203;go_wp2;go_ret;exact⟨rfl,bX⟩
theorem a61 (r:Int) (i:Nat) (h:d7 vsl r=some i) (hr:r ∈ vsl) (w:World) :
  Calls prog 203 #[.int .i64 r] w fun e w'=>e=.returned (wtV (base r))∧Below w.heap.size w w':=by
 obtain⟨b0,b1,_,_,_⟩:=ru r hr;have hi:i<9:=by unfold d7 at h;exact (List.findIdx?_eq_some_iff_getElem.1 h).1
 have I:=fun w=>pt r (by omega) (by omega) (by omega) w
 have e:pi r=(i:Int):=by unfold pi;rw[h]
 rw[e]at I;rw[al6 h];unfold wtV;have h1:¬ r≤31:=by omega
 have h2:(r == 127)=false:=by simp;omega
 have HC:Hid ((i:Int)+1=1+(i:Int)):=by show _=_;omega
 clear h hr e;go_enter func203,ntmps203;go_wp2_with fail;refine (I _).mono ?_;rintro e w1 ⟨rfl,b1⟩;clear I;go_wp2;go_ret;exact⟨Ls (by rw[HC.out];rfl),b1⟩
theorem Pq (r:Int) (h:48≤r∧r≤57) (w:World) :
  Calls prog 203 #[.int .i64 r] w fun e w'=>e=.returned (wtV (base r))∧Below w.heap.size w w':=by
 have I:=fun w=>pt r (by omega) (by omega) (by omega) w
 have P:=fun n w=>nl n w
 have e:pi r=-1:=by unfold pi;rw[mi fun c=>(ru r c).2.2.1 h]
 rw[e]at I;rw[Gt h];unfold wtV;obtain⟨h1,h2⟩:=h;have h3:¬ r≤31:=by omega
 have h4:(r == 127)=false:=by simp;omega
 have HC:Hid (2000+(r-48)*100=2000+100*(r-48)):=by show _=_;omega
 clear e;go_enter func203,ntmps203;go_wp2_with fail;refine (I _).mono ?_;rintro e w1 ⟨rfl,b1⟩;clear I;go_wp2_with fail;refine (P _ _).mono ?_;rintro e w2 ⟨rfl,b2⟩;clear P;go_wp2;go_ret;exact⟨Ls (by rw[HC.out];rfl),b1.trans (b2.mono b1.size)⟩
theorem Pr (r:Int) (h:97≤r∧r≤122) (w:World) :
  Calls prog 203 #[.int .i64 r] w fun e w'=>e=.returned (wtV (base r))∧Below w.heap.size w w':=by
 have I:=fun w=>pt r (by omega) (by omega) (by omega) w
 have P:=fun n w=>nl n w
 have e:pi r=-1:=by unfold pi;rw[mi fun c=>(ru r c).2.2.2.1 h]
 rw[e]at I;rw[Gu h];unfold wtV;obtain⟨h1,h2⟩:=h;have h3:¬ r≤31:=by omega
 have h4:(r == 127)=false:=by simp;omega
 have h5:¬ r≤57:=by omega
 have HC:Hid (4000+(r-97)*200=4000+200*(r-97)):=by show _=_;omega
 clear e;go_enter func203,ntmps203;go_wp2_with fail;refine (I _).mono ?_;rintro e w1 ⟨rfl,b1⟩;clear I;go_wp2_with fail;refine (P _ _).mono ?_;rintro e w2 ⟨rfl,b2⟩;clear P;go_wp2;go_ret;exact⟨Ls (by rw[HC.out];rfl),b1.trans (b2.mono b1.size)⟩
theorem Xk (r:Int) (h:65≤r∧r≤90) (w:World) :
  Calls prog 203 #[.int .i64 r] w fun e w'=>e=.returned (wtV (base r))∧Below w.heap.size w w':=by
 have I:=fun w=>pt r (by omega) (by omega) (by omega) w
 have P:=fun n w=>nl n w
 have e:pi r=-1:=by unfold pi;rw[mi fun c=>(ru r c).2.2.2.2 h]
 rw[e]at I;rw[a69 h];unfold wtV;obtain⟨h1,h2⟩:=h;have h3:¬ r≤31:=by omega
 have h4:(r == 127)=false:=by simp;omega
 have h5:¬ r≤57:=by omega
 have h6:¬ 97≤r:=by omega
 have HC:Hid (4000+(r-65)*200=4000+200*(r-65)):=by show _=_;omega
 clear e;go_enter func203,ntmps203;go_wp2_with fail;refine (I _).mono ?_;rintro e w1 ⟨rfl,b1⟩;clear I;go_wp2_with fail;refine (P _ _).mono ?_;rintro e w2 ⟨rfl,b2⟩;clear P;have b3:=b1.trans (b2.mono b1.size);go_wp2;go_ret;exact⟨Ls (by rw[HC.out];rfl),b3.alloc b3.size _⟩
theorem av1 (k:Nat) (hk:k<15):mkl[k]? = some (at0 (ik.getD k []) 0):=by
 iterate 15 (rcases k with _|k;· rfl)
 omega
theorem Xm (r:Int) (h0:0≤r) (a3:r≤1114111) (hs:¬ (55296≤r∧r≤57343)) (hv:d7 vsl r=none) (h1:¬ (r≤31∨r=127)) (h2:¬ (48≤r∧r≤57)) (h3:¬ (97≤r∧r≤122)) (h4:¬ (65≤r∧r≤90)) (w:World) (hm:db w 7 ij) :
  Calls prog 203 #[.int .i64 r] w fun e w'=>e=.returned (wtV (base r))∧Below w.heap.size w w':=by
 have I:=fun w=>pt r h0 a3 hs w
 have P:=fun n w=>nl n w
 have e:pi r=-1:=by unfold pi;rw[hv]
 rw[e]at I;have B2:Hid (d7 mkl r=none→base r=[⟨60000+r / 32768,32,2,false⟩,⟨32768+r % 32768,0,0,false⟩]):=fun h=>a73 hv h h1 h2 h3 h4
 have BM:Hid (∀ i,d7 mkl r=some i→base r=[⟨0,40+(i:Int),2,false⟩]):=fun i h=>al5 hv h
 have c1:¬ r≤31:=fun c=>h1 (.inl c)
 have c2:(r == 127)=false:=by simp;omega
 have cs:r<48∨(57<r∧r<65)∨(90<r∧r<97)∨122<r:=by omega
 have hq:Int.tdiv r 32768=r / 32768:=Int.tdiv_eq_ediv_of_nonneg h0;have hp:Int.tmod r 32768=r % 32768:=Int.tmod_eq_emod_of_nonneg h0;clear e h1 hv hs h2 h3 h4;rcases cs with d|⟨d,d'⟩|⟨d,d'⟩|d;all_goals
  go_enter func203,ntmps203;go_wp2_with fail;refine (I _).mono ?_;rintro e w1 ⟨rfl,b1⟩;clear I;obtain⟨t,fr,a0⟩:=hm.below b1 hm.lt;have hh:w1.heap[7]? = some (.cells Cn t fr):=a0;clear a0 hm;go_wp2_with (refine wpList_load_row rfl 278 (.global 7) rfl 7 rfl t Cn fr _ hh underlying278 rfl (by kernel_rfl) ?_)
  clear hh;go_loopw [67] (fun i wr=>∃ k:Nat,k≤15∧i=.int .i64 k∧Hid (o8 mkl r k)∧Below w.heap.size w wr) (fun i _=>15-(intOf i).toNat)
  case atStart=>exact⟨0,Nat.zero_le _,rfl,fun j x hj=>by omega,b1⟩
  case round =>
   obtain⟨k,hk,rfl,HN,hb⟩:=hrel;by_cases a1:k<15
   .have hi:=fun w=>Eu k a1 w
    have HX:Hid (mkl[k]? = some (at0 (ik.getD k []) 0)):=av1 k a1;generalize at0 (ik.getD k []) 0=a at *;generalize at0 (ik.getD k []) 1=b at *;have a4:(k:Int)<15:=by omega
    by_cases e:a=r
    .subst e
     have HR:Hid (base a=[⟨0,40+(k:Int),2,false⟩]):=BM.out k (Cu HN.out HX.out);clear HN HX B2 BM P;go_wp2;go_ret;rw[HR.out];exact⟨rfl,hb.alloc hb.size _⟩
    .have e2:(a == r)=false:=by simpa using e
     have a2:Hid (o8 mkl r (k+1)):=HN.out.succ HX.out e;clear e HN HX B2 BM P;go_wp2;exact⟨⟨k+1,by omega,by go_num,a2,hb.alloc hb.size _⟩,by simp[intOf];omega⟩
   .have HR:Hid (base r=[⟨60000+r / 32768,32,2,false⟩,⟨32768+r % 32768,0,0,false⟩]):=B2.out (Az HN.out (by show 15≤k;omega))
    clear HN B2 BM;go_wp2_with fail;refine (P _ _).mono ?_;rintro e w2 ⟨rfl,b2⟩;clear P;go_wp2;go_ret;rw[HR.out];exact⟨rfl,hb.trans (b2.mono hb.size)⟩
theorem Ii (r:Int) (h0:0≤r) (h1:r≤1114111) (hs:¬ (55296≤r∧r≤57343)) (w:World) (hm:db w 7 ij) :
  Calls prog 203 #[.int .i64 r] w fun e w'=>e=.returned (wtV (base r))∧Below w.heap.size w w':=by
 by_cases c:r≤31∨r=127
 .exact Xl r h0 c w
 .by_cases v:r ∈ vsl
  .obtain⟨i,hi,_⟩:=ae5 v
   exact a61 r i hi v w
  .by_cases d:48≤r∧r≤57
   .exact Pq r d w
   .by_cases s:97≤r∧r≤122
    .exact Pr r s w
    .by_cases u:65≤r∧r≤90
     .exact Xk r u w
     .exact Xm r h0 h1 hs (mi v) c d s u w hm
theorem Gs (r:Int):base r=[]∨(∃ e,base r=[e])∨∃ e f,base r=[e,f]:=by
 have:=M4 r;match h:base r with
 | []=>exact .inl rfl
 | [e]=>exact .inr (.inl ⟨e,rfl⟩)
 | [e,f]=>exact .inr (.inr ⟨e,f,rfl⟩)
 | _::_::_::_=>rw[h]at this;simp at this
theorem Tt {r:Int} {e:El}(h:base r=[e]):0≤e.first:=by
 unfold base at h;split at h
 .cases h;simp only;omega
 .split at h
  .cases h;simp
  .unfold gc at h
   split at h
   .cases h
   .split at h
    .cases h;simp only;omega
    .split at h
     .cases h;simp only;omega
     .split at h
      .cases h;simp only;omega
      .cases h
theorem ad5 {e:El}(h:0<e.first):mk [e]=some e:=if_neg (by omega)
theorem a07 {e:El}(h:0≤e.first) (h2:¬ 0<e.first):mk [e]=none:=if_pos (by omega)
def Zel (u:World) (b:Nat):Prop:=u.heap[b]? = some (.cells #[.int .i64 0,.int .i64 0,.int .i64 0,.bool false] 111)
theorem Zel.facts {u:World} {b:Nat}(h:Zel u b):b<u.heap.size∧(u.cell? ⟨b,0,none⟩=some (.int .i64 0)∧u.cell? ⟨b,1,none⟩=some (.int .i64 0)∧u.cell? ⟨b,2,none⟩=some (.int .i64 0)∧u.cell? ⟨b,3,none⟩=some (.bool false))∧∀ j,u.frozen? ⟨b,j,none⟩=false :=
 ⟨(Array.getElem?_eq_some_iff.1 h).1,⟨cell_of_row _ _ 0 _ _ _ h,cell_of_row _ _ 1 _ _ _ h,cell_of_row _ _ 2 _ _ _ h,cell_of_row _ _ 3 _ _ _ h⟩,fun j=>by simp[World.frozen?,show u.heap[b]? = _ from h]⟩
theorem Zel.below {u u':World} {b:Nat}(h:Zel u b) (hb:Below u.heap.size u u'):Zel u' b:=(hb.block _ h.facts.1).trans h
theorem oz {w wr:World} {b:Nat}(h:Below w.heap.size w wr) (hb:w.heap.size≤b) (x y z t:Value):Below w.heap.size w ((((wr.setCell ⟨b,0,none⟩ x).setCell ⟨b,1,none⟩ y).setCell ⟨b,2,none⟩ z).setCell ⟨b,3,none⟩ t) :=
 (((h.setCell hb _).setCell hb _).setCell hb _).setCell hb _
theorem su {w wr:World}(h:Below w.heap.size w wr) (x y z t:Value) (o:Obj):Below w.heap.size w (((((wr.setCell ⟨w.heap.size,0,none⟩ x).setCell ⟨w.heap.size,1,none⟩ y).setCell ⟨w.heap.size,2,none⟩ z).setCell ⟨w.heap.size,3,none⟩ t).alloc o) :=
 (oz h bR x y z t).alloc (oz h bR x y z t).size _
theorem By (r:Int) (h0:0≤r) (h1:r≤1114111) (hs:¬ (55296≤r∧r≤57343)) (w:World) (hm:db w 7 ij) :
  Calls prog 189 #[.int .i64 r] w fun e w'=>e=.returned (fo (mk (base r)))∧Below w.heap.size w w':=by
 have a0:=(Below.refl w.heap.size w).alloc bR (.cells #[.int .i64 0,.int .i64 0,.int .i64 0,.bool false] 111);have hx:Zel (w.alloc (.cells #[.int .i64 0,.int .i64 0,.int .i64 0,.bool false] 111)) w.heap.size:=heap_alloc_new _ _;have W:=Ii r h0 h1 hs _ (hm.below a0 hm.lt);clear hm hs h0 h1;rcases Gs r with hb|⟨e,hb⟩|⟨e,f,hb⟩
 .rw[hb]at W ⊢
  unfold wtV at W;have HO:Hid (mk []=none):=rfl;have ta:∀ w,(Instr.typeAssert (.iface 274 (.agg #[])) 257 266 true).run prog w=.ok (.tuple #[.agg #[.int .i64 0,.int .i64 0,.int .i64 0,.bool false],.bool false]) w:=fun _=>by kernel_rfl
  clear hb;go_enter func189,ntmps189;go_wp2_with fail;refine W.mono ?_;rintro e' w2 ⟨rfl,b2⟩;have a1:=a0.trans (b2.mono a0.size);obtain⟨a2,⟨q0,q1,q2,q3⟩,f0⟩:=(hx.below b2).facts;clear W hx b2 a0;go_wp2;refine bodyPost_ret (v:=.tuple #[.agg #[.int .i64 0,.int .i64 0,.int .i64 0,.bool false],.bool false]) ?_ rfl ⟨mj HO.out,su a1 _ _ _ _ _⟩;rw[results_cell_tmp rfl];go_simp
 .have hf:=Tt hb
  rw[hb]at W ⊢;unfold wtV at W;have ta:∀ w,(Instr.typeAssert (.iface 266 (.agg #[.int .i64 e.first,.int .i64 e.second,.int .i64 e.third,.bool e.varies])) 257 266 true).run prog w=.ok (.tuple #[.agg #[.int .i64 e.first,.int .i64 e.second,.int .i64 e.third,.bool e.varies],.bool true]) w:=fun _=>by kernel_rfl
  clear hb;by_cases hz:0<e.first
  .have HO:Hid (mk [e]=some e):=ad5 hz
   go_enter func189,ntmps189;go_wp2_with fail;refine W.mono ?_;rintro e' w2 ⟨rfl,b2⟩;have a1:=a0.trans (b2.mono a0.size);obtain⟨a2,⟨q0,q1,q2,q3⟩,f0⟩:=(hx.below b2).facts;clear W hx b2 a0;go_wp2;refine bodyPost_ret (v:=.tuple #[.agg #[.int .i64 e.first,.int .i64 e.second,.int .i64 e.third,.bool e.varies],.bool true]) ?_ rfl ⟨Dw HO.out,su a1 _ _ _ _ _⟩;rw[results_cell_tmp rfl];go_simp
  .have HO:Hid (mk [e]=none):=a07 hf hz
   go_enter func189,ntmps189;go_wp2_with fail;refine W.mono ?_;rintro e' w2 ⟨rfl,b2⟩;have a1:=a0.trans (b2.mono a0.size);obtain⟨a2,⟨q0,q1,q2,q3⟩,f0⟩:=(hx.below b2).facts;clear W hx b2 a0;go_wp2;refine bodyPost_ret (v:=.tuple #[.agg #[.int .i64 0,.int .i64 0,.int .i64 0,.bool false],.bool false]) ?_ rfl ⟨mj HO.out,su a1 _ _ _ _ _⟩;rw[results_cell_tmp rfl];go_simp
 .rw[hb]at W ⊢
  unfold wtV at W;have HO:Hid (mk [e,f]=none):=rfl;have ta:∀ w,(Instr.typeAssert (.iface 280 (.agg #[.int .i64 e.first,.int .i64 e.second,.int .i64 e.third,.bool e.varies,.int .i64 f.first,.int .i64 f.second,.int .i64 f.third,.bool f.varies])) 257 266 true).run prog w=.ok (.tuple #[.agg #[.int .i64 0,.int .i64 0,.int .i64 0,.bool false],.bool false]) w:=fun _=>by kernel_rfl
  clear hb;go_enter func189,ntmps189;go_wp2_with fail;refine W.mono ?_;rintro e' w2 ⟨rfl,b2⟩;have a1:=a0.trans (b2.mono a0.size);obtain⟨a2,⟨q0,q1,q2,q3⟩,f0⟩:=(hx.below b2).facts;clear W hx b2 a0;go_wp2;refine bodyPost_ret (v:=.tuple #[.agg #[.int .i64 0,.int .i64 0,.int .i64 0,.bool false],.bool false]) ?_ rfl ⟨mj HO.out,su a1 _ _ _ _ _⟩;rw[results_cell_tmp rfl];go_simp
end Go.Proofs.YtjbmgghehdemdaaGreatDoor
