/- SRule3 -/
import Derived.Test.YtjbmgghehdemdaaGreatDoorMT8
import Derived.Test.YtjbmgghehdemdaaGreatDoorMT11
namespace Go.Proofs.YtjbmgghehdemdaaGreatDoor
set_option maxRecDepth 100000
set_option maxHeartbeats 16000000
open _root_.Go.Proofs.Tryz
open Go.RowKit
theorem Yq {w:World} {B B':Nat} {v:Value} {es:List Ent} {sh:Bool} {lv:Int} {vl:Value} {l:List Int}(hE:ac w B v es) (hL:ab w B' vl l) (hn:es.length≤1048576) (hl:l.length≤1048576) (hr:∀ e ∈ es,e.runes.length≤1048576) (hg:∀ x ∈ l,0≤x∧x≤1114111) :
  Calls prog 56 #[.agg #[v,.bool sh,.int .i64 lv],vl] w fun e w'=>e=.returned (fo (fj es l))∧Below w.heap.size w w':=by
 have a6:=((Below.refl w.heap.size w).alloc bR (.cells #[v,.bool sh,.int .i64 lv] 56)).alloc (by simp) (.cells #[.int .i64 0,.int .i64 0,.int .i64 0,.bool false] 111);have AT:=ql (sh:=sh) (lv:=lv) (hE.below a6) (hL.below a6) hn hl hr;have a5:Hid (um _ _ _ _ _ _):=Me w v sh lv;have HB:Hid _:=a6;have a8:Hid (ac _ _ _ _):=hE.below a6;have a9:Hid (ab _ _ _ _):=hL.below a6;clear a6;rcases tn es l with ha|⟨i,e,he,ha⟩
 .rw[ha]at AT
  by_cases h1:l.length=1
  .obtain⟨r,rfl⟩:∃ r,l=[r]:=List.length_eq_one_iff.1 h1
   obtain⟨g,cap,rfl⟩:=jr hL (by simp);have HF:Hid (fj es [r]=mk (base r)):=H9 ha;have BS:=fun w=>D8 r (hg r (by simp)).1 (hg r (by simp)).2 w
   clear hE hL hr hg ha hl a8;simp only[List.length_singleton]at *;generalize base r=bs at *;go_enter func56,ntmps56;go_wp2_with fail;refine AT.mono ?_;rintro e' w2 ⟨rfl,b2⟩;have c0:w2.cell? ⟨g,0,none⟩=some (.int .i64 r):=by
    have h3:=World.ownsRow.cellAt (n:=1) (a9.out.below b2) 0 (by omega);rw[h3];rfl
   have HX:Hid (um _ _ _ _ _ _):=a5.out.below b2;have HC:Hid _:=HB.out.trans (b2.mono HB.out.size);clear AT a9 a5 HB b2;go_wp2_with fail;refine (BS _).mono ?_;rintro e' w3 ⟨v3,rfl,hI,b3⟩;have hx:=HX.out.below b3;have b4:=HC.out.trans (b3.mono HC.out.size);clear BS c0 b3 HX HC;obtain⟨⟨n1,n2⟩,_,⟨q0,q1,q2,q3⟩,f0⟩:=hx.facts;clear hx;match bs,HF,hI with
   | [],HF,hI =>
    have HO:Hid (fj es [r]=none):=HF.out;clear HF;rcases hI.form with ⟨rfl,_⟩|⟨g3,a7,rfl,_,_⟩
    .clear hI
     go_wp2;refine bodyPost_ret (v:=.tuple #[.agg #[.int .i64 0,.int .i64 0,.int .i64 0,.bool false],.bool false]) ?_ rfl ⟨mj HO.out,fg b4 _ _ _ _⟩;rw[results_cell_tmp rfl];go_simp
    .clear hI
     go_wp2;refine bodyPost_ret (v:=.tuple #[.agg #[.int .i64 0,.int .i64 0,.int .i64 0,.bool false],.bool false]) ?_ rfl ⟨mj HO.out,fg b4 _ _ _ _⟩;rw[results_cell_tmp rfl];go_simp
   | [x],HF,hI =>
    rcases hI.form with ⟨_,h⟩|⟨g3,a7,rfl,_,_⟩
    .cases h
    .obtain⟨a0,a1,a2,a3⟩:=hI.cells 0 x rfl
     simp only[Nat.zero_mul,Nat.zero_add]at a0 a1 a2 a3;clear hI;by_cases hf:x.first=0
     .have HO:Hid (fj es [r]=none):=HF.out.trans (if_pos hf)
      clear HF;rw[hf]at a0;go_wp2;refine bodyPost_ret (v:=.tuple #[.agg #[.int .i64 0,.int .i64 0,.int .i64 0,.bool false],.bool false]) ?_ rfl ⟨mj HO.out,fg b4 _ _ _ _⟩;rw[results_cell_tmp rfl];go_simp
     .have HO:Hid (fj es [r]=some x):=HF.out.trans (if_neg hf)
      clear HF;have ad:(x.first == 0)=false:=by simpa using hf
      go_wp2;refine bodyPost_ret (v:=.tuple #[.agg #[.int .i64 x.first,.int .i64 x.second,.int .i64 x.third,.bool x.varies],.bool true]) ?_ rfl ⟨Dw HO.out,fg b4 _ _ _ _⟩;rw[results_cell_tmp rfl];go_simp
   | x::y::zs,HF,hI =>
    have HO:Hid (fj es [r]=none):=HF.out;clear HF;rcases hI.form with ⟨_,h⟩|⟨g3,a7,rfl,_,_⟩
    .cases h
    .simp only[List.length_cons]
     clear hI;have hz:((zs.length+1+1:Nat):Int)≠1:=by omega
     go_wp2;refine bodyPost_ret (v:=.tuple #[.agg #[.int .i64 0,.int .i64 0,.int .i64 0,.bool false],.bool false]) ?_ rfl ⟨mj HO.out,fg b4 _ _ _ _⟩;rw[results_cell_tmp rfl];go_simp
  .have HF:Hid (fj es l=none):=Jr ha h1
   obtain⟨a,c,rfl⟩:∃ a c,vl=.slice a l.length c:=by
    rcases hL.form with ⟨rfl,rfl⟩|⟨g,cap,rfl,_,_⟩
    .exact⟨_,_,rfl⟩
    .exact⟨_,_,rfl⟩
   have h2:((l.length:Int) != 1)=true:=by simp;omega
   clear hE hL hr hg ha h1 a8 a9;go_enter func56,ntmps56;go_wp2_with fail;refine AT.mono ?_;rintro e' w2 ⟨rfl,b2⟩;have hx:=a5.out.below b2;have b4:=HB.out.trans (b2.mono HB.out.size);clear AT a5 HB;obtain⟨⟨n1,n2⟩,_,⟨q0,q1,q2,q3⟩,f0⟩:=hx.facts;clear hx;go_wp2;refine bodyPost_ret (v:=.tuple #[.agg #[.int .i64 0,.int .i64 0,.int .i64 0,.bool false],.bool false]) ?_ rfl ⟨mj HF.out,fg b4 _ _ _ _⟩;rw[results_cell_tmp rfl];go_simp
 .have HF:Hid (fj es l=some e.el):=Yr he ha
  rw[ha]at AT;have hi:=(List.getElem?_eq_some_iff.1 he).1;rcases hE.form with ⟨_,rfl⟩|⟨g,cap,rfl,hc,aa,_,_⟩
  .simp at hi
  .clear hE hL hr hg ha
   have ae:(i:Int)<(es.length:Int):=by omega
   go_enter func56,ntmps56;go_wp2_with fail;refine AT.mono ?_;rintro e' w2 ⟨rfl,b2⟩;have hx:=a5.out.below b2;have b4:=HB.out.trans (b2.mono HB.out.size);obtain⟨x,hI,a0,a1,a2,a3,a4⟩:=(a8.out.below b2).cells i e he;clear AT a5 HB a8 a9 hI he;obtain⟨⟨n1,n2⟩,⟨p0,p1,p2⟩,⟨q0,q1,q2,q3⟩,f0⟩:=hx.facts;clear hx;go_wp2;refine bodyPost_ret (v:=.tuple #[.agg #[.int .i64 e.el.first,.int .i64 e.el.second,.int .i64 e.el.third,.bool e.el.varies],.bool true]) ?_ rfl ⟨Dw HF.out,fg b4 _ _ _ _⟩;rw[results_cell_tmp rfl];go_simp
def mr (es:List Ent) (lv:Int) (l:List Int):Option El:=if ay es lv=true∧bd l=true then fj es l else none
theorem Ov {l:List Int}(h:bd l=true):∀ x ∈ l,0≤x∧x≤1114111:=by
 unfold bd at h;rw[Bool.and_eq_true,Bool.and_eq_true]at h;intro x hx;have:=(qi h.2.1).2 x hx;exact⟨(l7 this).1,(l7 this).2.1⟩
def ff (n:Int):Bool:=decide ((2000≤n∧n≤2900∧n % 100=0)∨(4000≤n∧n≤9000∧n % 200=0)∨(1≤n∧n≤9))
def du (es:List Ent) (n:Int):Bool:=!ff n && es.all fun e=>e.el.first != n
def qa (es:List Ent) (n:Int) (k:Nat):Prop:=∀ j e,j<k→es[j]? = some e→e.el.first≠n
theorem qa.succ {es:List Ent} {n:Int} {e:Ent} {k:Nat}(h:qa es n k) (hx:es[k]? = some e) (hn:e.el.first≠n):qa es n (k+1):=by
 intro j y hj hy;by_cases c:j=k
 .subst c;rw[hx]at hy;cases hy;exact hn
 .exact h j y (by omega) hy
theorem ub {es:List Ent} {n:Int} {e:Ent}(he:e ∈ es) (h:e.el.first=n):du es n=false:=by
 unfold du;rw[Bool.and_eq_false_iff];refine .inr ?_;rw[List.all_eq_false];exact⟨e,he,by simp[h]⟩
theorem ua {es:List Ent} {n:Int} {k:Nat}(ht:ff n=false) (h:qa es n k) (hk:es.length≤k):du es n=true:=by
 unfold du;rw[ht,Bool.not_false,Bool.true_and,List.all_eq_true];intro x hx;obtain⟨j,hj⟩:=List.mem_iff_getElem?.1 hx;have h1:=(List.getElem?_eq_some_iff.1 hj).1;simpa using h j x (by omega) hj
def Gg (w:World) (es:List Ent) (n:Int) (i:Value) (wr:World):Prop:=∃ k:Nat,k≤es.length∧i=.int .i64 k∧qa es n k∧Below w.heap.size w wr
theorem Uu (w:World) (B g cap:Nat) (es:List Ent) (sh:Bool) (lv n:Int) (hE:ac w B (.slice (some ⟨g,0,none⟩) es.length cap) es) (hT:ff n=false) (hn:es.length≤1048576) (a8:0≤n) (a9:n≤1000000) (h0:n<2000) (h1:¬ (1≤n∧n≤9)) :
  Calls prog 106 #[.agg #[.slice (some ⟨g,0,none⟩) es.length cap,.bool sh,.int .i64 lv],.int .i64 n] w fun e w'=>e=.returned (.bool (du es n))∧Below w.heap.size w w':=by
 have HT:Hid (ff n=false):=hT;clear hT;have h2:n<4000:=by omega
 have N:=fun w=>jn n 1 9 h1 w
 clear h1;go_enter func106,ntmps106;go_wp2_with fail;refine (N _).mono ?_;rintro e' w1 ⟨rfl,rfl⟩;clear N;go_wp2_with fail;go_loopw [38] (fun i wr=>Gg w es n i wr) (fun i _=>es.length-(intOf i).toNat)
 case atStart=>exact⟨0,Nat.zero_le _,rfl,fun j e hj=>by omega,bY _⟩
 case round =>
  obtain⟨k,hk,rfl,a5,hb⟩:=hrel;have HN:Hid (qa es n k):=a5;clear a5;by_cases a7:k<es.length
  .obtain⟨e,he⟩:∃ e,es[k]? = some e:=⟨_,List.getElem?_eq_getElem a7⟩
   obtain⟨x,hI,a0,a1,a2,a3,a4⟩:=(hE.below hb).cells k e he;obtain⟨xa,xn,xc,rfl⟩:∃ xa xn xc,x=.slice xa xn xc:=by
    rcases hI.form with ⟨rfl,_⟩|⟨_,_,rfl,_,_⟩
    .exact⟨_,_,_,rfl⟩
    .exact⟨_,_,_,rfl⟩
   have aa:(k:Int)<(es.length:Int):=by omega
   have HE:Hid _:=he;clear he hE hI;by_cases c:e.el.first=n
   .have HA:Hid (du es n=false):=ub (List.mem_of_getElem? HE.out) c
    have c':(e.el.first == n)=true:=by simpa using c
    clear HN HE c;go_wp2;go_ret;rw[HA.out];exact⟨rfl,hb.alloc hb.size _⟩
   .have a6:Hid (qa es n (k+1)):=HN.out.succ HE.out c
    have c':(e.el.first == n)=false:=by simpa using c
    clear HN HE c;go_wp2;exact⟨⟨k+1,by omega,by go_num,a6.out,hb.alloc hb.size _⟩,by simp[intOf];omega⟩
  .have HA:Hid (du es n=true):=ua HT.out HN.out (by omega)
   clear HN hE HT;go_wp2;go_ret;rw[HA.out];exact⟨rfl,hb⟩
theorem Up (w:World)  (sh:Bool) (lv n:Int) (a0:0≤n) (a1:n≤1000000) (h0:n<2000) (h1:¬ (1≤n∧n≤9)) :
  Calls prog 106 #[.agg #[.slice none 0 0,.bool sh,.int .i64 lv],.int .i64 n] w fun e w'=>e=.returned (.bool true)∧Below w.heap.size w w':=by
 have h2:n<4000:=by omega
 have N:=fun w=>jn n 1 9 h1 w
 clear h1;go_enter func106,ntmps106;go_wp2_with fail;refine (N _).mono ?_;rintro e' w1 ⟨rfl,rfl⟩;clear N;go_wp2_with fail;go_loop [38] (fun i=>i=.int .i64 0) (fun _=>0)
 case atStart=>rfl
 case round =>
  subst hrel;go_wp2;go_ret;exact⟨rfl,bY _⟩
theorem Uv (w:World) (B g cap:Nat) (es:List Ent) (sh:Bool) (lv n:Int) (hE:ac w B (.slice (some ⟨g,0,none⟩) es.length cap) es) (hT:ff n=false) (hn:es.length≤1048576) (a8:0≤n) (a9:n≤1000000) (h0:2000≤n) (h1:n≤2900) (h3:n % 100≠0) :
  Calls prog 106 #[.agg #[.slice (some ⟨g,0,none⟩) es.length cap,.bool sh,.int .i64 lv],.int .i64 n] w fun e w'=>e=.returned (.bool (du es n))∧Below w.heap.size w w':=by
 have HT:Hid (ff n=false):=hT;clear hT;have h2:n<4000:=by omega
 have h4:(n % 100 == 0)=false:=by simpa using h3
 have N:=fun w=>jn n 1 9 (by omega) w
 clear h3;go_enter func106,ntmps106;go_wp2_with fail;refine (N _).mono ?_;rintro e' w1 ⟨rfl,rfl⟩;clear N;go_wp2_with fail;go_loopw [38] (fun i wr=>Gg w es n i wr) (fun i _=>es.length-(intOf i).toNat)
 case atStart=>exact⟨0,Nat.zero_le _,rfl,fun j e hj=>by omega,bY _⟩
 case round =>
  obtain⟨k,hk,rfl,a5,hb⟩:=hrel;have HN:Hid (qa es n k):=a5;clear a5;by_cases a7:k<es.length
  .obtain⟨e,he⟩:∃ e,es[k]? = some e:=⟨_,List.getElem?_eq_getElem a7⟩
   obtain⟨x,hI,a0,a1,a2,a3,a4⟩:=(hE.below hb).cells k e he;obtain⟨xa,xn,xc,rfl⟩:∃ xa xn xc,x=.slice xa xn xc:=by
    rcases hI.form with ⟨rfl,_⟩|⟨_,_,rfl,_,_⟩
    .exact⟨_,_,_,rfl⟩
    .exact⟨_,_,_,rfl⟩
   have aa:(k:Int)<(es.length:Int):=by omega
   have HE:Hid _:=he;clear he hE hI;by_cases c:e.el.first=n
   .have HA:Hid (du es n=false):=ub (List.mem_of_getElem? HE.out) c
    have c':(e.el.first == n)=true:=by simpa using c
    clear HN HE c;go_wp2;go_ret;rw[HA.out];exact⟨rfl,hb.alloc hb.size _⟩
   .have a6:Hid (qa es n (k+1)):=HN.out.succ HE.out c
    have c':(e.el.first == n)=false:=by simpa using c
    clear HN HE c;go_wp2;exact⟨⟨k+1,by omega,by go_num,a6.out,hb.alloc hb.size _⟩,by simp[intOf];omega⟩
  .have HA:Hid (du es n=true):=ua HT.out HN.out (by omega)
   clear HN hE HT;go_wp2;go_ret;rw[HA.out];exact⟨rfl,hb⟩
theorem Uq (w:World)  (sh:Bool) (lv n:Int) (a0:0≤n) (a1:n≤1000000) (h0:2000≤n) (h1:n≤2900) (h3:n % 100≠0) :
  Calls prog 106 #[.agg #[.slice none 0 0,.bool sh,.int .i64 lv],.int .i64 n] w fun e w'=>e=.returned (.bool true)∧Below w.heap.size w w':=by
 have h2:n<4000:=by omega
 have h4:(n % 100 == 0)=false:=by simpa using h3
 have N:=fun w=>jn n 1 9 (by omega) w
 clear h3;go_enter func106,ntmps106;go_wp2_with fail;refine (N _).mono ?_;rintro e' w1 ⟨rfl,rfl⟩;clear N;go_wp2_with fail;go_loop [38] (fun i=>i=.int .i64 0) (fun _=>0)
 case atStart=>rfl
 case round =>
  subst hrel;go_wp2;go_ret;exact⟨rfl,bY _⟩
theorem Uw (w:World) (B g cap:Nat) (es:List Ent) (sh:Bool) (lv n:Int) (hE:ac w B (.slice (some ⟨g,0,none⟩) es.length cap) es) (hT:ff n=false) (hn:es.length≤1048576) (a8:0≤n) (a9:n≤1000000) (h0:2900<n) (h1:n<4000) :
  Calls prog 106 #[.agg #[.slice (some ⟨g,0,none⟩) es.length cap,.bool sh,.int .i64 lv],.int .i64 n] w fun e w'=>e=.returned (.bool (du es n))∧Below w.heap.size w w':=by
 have HT:Hid (ff n=false):=hT;clear hT;have h2:2000≤n:=by omega
 have N:=fun w=>jn n 1 9 (by omega) w
 go_enter func106,ntmps106;go_wp2_with fail;refine (N _).mono ?_;rintro e' w1 ⟨rfl,rfl⟩;clear N;go_wp2_with fail;go_loopw [38] (fun i wr=>Gg w es n i wr) (fun i _=>es.length-(intOf i).toNat)
 case atStart=>exact⟨0,Nat.zero_le _,rfl,fun j e hj=>by omega,bY _⟩
 case round =>
  obtain⟨k,hk,rfl,a5,hb⟩:=hrel;have HN:Hid (qa es n k):=a5;clear a5;by_cases a7:k<es.length
  .obtain⟨e,he⟩:∃ e,es[k]? = some e:=⟨_,List.getElem?_eq_getElem a7⟩
   obtain⟨x,hI,a0,a1,a2,a3,a4⟩:=(hE.below hb).cells k e he;obtain⟨xa,xn,xc,rfl⟩:∃ xa xn xc,x=.slice xa xn xc:=by
    rcases hI.form with ⟨rfl,_⟩|⟨_,_,rfl,_,_⟩
    .exact⟨_,_,_,rfl⟩
    .exact⟨_,_,_,rfl⟩
   have aa:(k:Int)<(es.length:Int):=by omega
   have HE:Hid _:=he;clear he hE hI;by_cases c:e.el.first=n
   .have HA:Hid (du es n=false):=ub (List.mem_of_getElem? HE.out) c
    have c':(e.el.first == n)=true:=by simpa using c
    clear HN HE c;go_wp2;go_ret;rw[HA.out];exact⟨rfl,hb.alloc hb.size _⟩
   .have a6:Hid (qa es n (k+1)):=HN.out.succ HE.out c
    have c':(e.el.first == n)=false:=by simpa using c
    clear HN HE c;go_wp2;exact⟨⟨k+1,by omega,by go_num,a6.out,hb.alloc hb.size _⟩,by simp[intOf];omega⟩
  .have HA:Hid (du es n=true):=ua HT.out HN.out (by omega)
   clear HN hE HT;go_wp2;go_ret;rw[HA.out];exact⟨rfl,hb⟩
theorem Ur (w:World)  (sh:Bool) (lv n:Int) (a0:0≤n) (a1:n≤1000000) (h0:2900<n) (h1:n<4000) :
  Calls prog 106 #[.agg #[.slice none 0 0,.bool sh,.int .i64 lv],.int .i64 n] w fun e w'=>e=.returned (.bool true)∧Below w.heap.size w w':=by
 have h2:2000≤n:=by omega
 have N:=fun w=>jn n 1 9 (by omega) w
 go_enter func106,ntmps106;go_wp2_with fail;refine (N _).mono ?_;rintro e' w1 ⟨rfl,rfl⟩;clear N;go_wp2_with fail;go_loop [38] (fun i=>i=.int .i64 0) (fun _=>0)
 case atStart=>rfl
 case round =>
  subst hrel;go_wp2;go_ret;exact⟨rfl,bY _⟩
theorem Ux (w:World) (B g cap:Nat) (es:List Ent) (sh:Bool) (lv n:Int) (hE:ac w B (.slice (some ⟨g,0,none⟩) es.length cap) es) (hT:ff n=false) (hn:es.length≤1048576) (a8:0≤n) (a9:n≤1000000) (h0:4000≤n) (h1:n≤9000) (h3:n % 200≠0) :
  Calls prog 106 #[.agg #[.slice (some ⟨g,0,none⟩) es.length cap,.bool sh,.int .i64 lv],.int .i64 n] w fun e w'=>e=.returned (.bool (du es n))∧Below w.heap.size w w':=by
 have HT:Hid (ff n=false):=hT;clear hT;have h2:2000≤n:=by omega
 have h5:2900<n:=by omega
 have h4:(n % 200 == 0)=false:=by simpa using h3
 have N:=fun w=>jn n 1 9 (by omega) w
 clear h3;go_enter func106,ntmps106;go_wp2_with fail;refine (N _).mono ?_;rintro e' w1 ⟨rfl,rfl⟩;clear N;go_wp2_with fail;go_loopw [38] (fun i wr=>Gg w es n i wr) (fun i _=>es.length-(intOf i).toNat)
 case atStart=>exact⟨0,Nat.zero_le _,rfl,fun j e hj=>by omega,bY _⟩
 case round =>
  obtain⟨k,hk,rfl,a5,hb⟩:=hrel;have HN:Hid (qa es n k):=a5;clear a5;by_cases a7:k<es.length
  .obtain⟨e,he⟩:∃ e,es[k]? = some e:=⟨_,List.getElem?_eq_getElem a7⟩
   obtain⟨x,hI,a0,a1,a2,a3,a4⟩:=(hE.below hb).cells k e he;obtain⟨xa,xn,xc,rfl⟩:∃ xa xn xc,x=.slice xa xn xc:=by
    rcases hI.form with ⟨rfl,_⟩|⟨_,_,rfl,_,_⟩
    .exact⟨_,_,_,rfl⟩
    .exact⟨_,_,_,rfl⟩
   have aa:(k:Int)<(es.length:Int):=by omega
   have HE:Hid _:=he;clear he hE hI;by_cases c:e.el.first=n
   .have HA:Hid (du es n=false):=ub (List.mem_of_getElem? HE.out) c
    have c':(e.el.first == n)=true:=by simpa using c
    clear HN HE c;go_wp2;go_ret;rw[HA.out];exact⟨rfl,hb.alloc hb.size _⟩
   .have a6:Hid (qa es n (k+1)):=HN.out.succ HE.out c
    have c':(e.el.first == n)=false:=by simpa using c
    clear HN HE c;go_wp2;exact⟨⟨k+1,by omega,by go_num,a6.out,hb.alloc hb.size _⟩,by simp[intOf];omega⟩
  .have HA:Hid (du es n=true):=ua HT.out HN.out (by omega)
   clear HN hE HT;go_wp2;go_ret;rw[HA.out];exact⟨rfl,hb⟩
theorem Us (w:World)  (sh:Bool) (lv n:Int) (a0:0≤n) (a1:n≤1000000) (h0:4000≤n) (h1:n≤9000) (h3:n % 200≠0) :
  Calls prog 106 #[.agg #[.slice none 0 0,.bool sh,.int .i64 lv],.int .i64 n] w fun e w'=>e=.returned (.bool true)∧Below w.heap.size w w':=by
 have h2:2000≤n:=by omega
 have h5:2900<n:=by omega
 have h4:(n % 200 == 0)=false:=by simpa using h3
 have N:=fun w=>jn n 1 9 (by omega) w
 clear h3;go_enter func106,ntmps106;go_wp2_with fail;refine (N _).mono ?_;rintro e' w1 ⟨rfl,rfl⟩;clear N;go_wp2_with fail;go_loop [38] (fun i=>i=.int .i64 0) (fun _=>0)
 case atStart=>rfl
 case round =>
  subst hrel;go_wp2;go_ret;exact⟨rfl,bY _⟩
theorem Uy (w:World) (B g cap:Nat) (es:List Ent) (sh:Bool) (lv n:Int) (hE:ac w B (.slice (some ⟨g,0,none⟩) es.length cap) es) (hT:ff n=false) (hn:es.length≤1048576) (a8:0≤n) (a9:n≤1000000) (h0:9000<n) :
  Calls prog 106 #[.agg #[.slice (some ⟨g,0,none⟩) es.length cap,.bool sh,.int .i64 lv],.int .i64 n] w fun e w'=>e=.returned (.bool (du es n))∧Below w.heap.size w w':=by
 have HT:Hid (ff n=false):=hT;clear hT;have h2:2000≤n:=by omega
 have h5:2900<n:=by omega
 have h6:4000≤n:=by omega
 have N:=fun w=>jn n 1 9 (by omega) w
 go_enter func106,ntmps106;go_wp2_with fail;refine (N _).mono ?_;rintro e' w1 ⟨rfl,rfl⟩;clear N;go_wp2_with fail;go_loopw [38] (fun i wr=>Gg w es n i wr) (fun i _=>es.length-(intOf i).toNat)
 case atStart=>exact⟨0,Nat.zero_le _,rfl,fun j e hj=>by omega,bY _⟩
 case round =>
  obtain⟨k,hk,rfl,a5,hb⟩:=hrel;have HN:Hid (qa es n k):=a5;clear a5;by_cases a7:k<es.length
  .obtain⟨e,he⟩:∃ e,es[k]? = some e:=⟨_,List.getElem?_eq_getElem a7⟩
   obtain⟨x,hI,a0,a1,a2,a3,a4⟩:=(hE.below hb).cells k e he;obtain⟨xa,xn,xc,rfl⟩:∃ xa xn xc,x=.slice xa xn xc:=by
    rcases hI.form with ⟨rfl,_⟩|⟨_,_,rfl,_,_⟩
    .exact⟨_,_,_,rfl⟩
    .exact⟨_,_,_,rfl⟩
   have aa:(k:Int)<(es.length:Int):=by omega
   have HE:Hid _:=he;clear he hE hI;by_cases c:e.el.first=n
   .have HA:Hid (du es n=false):=ub (List.mem_of_getElem? HE.out) c
    have c':(e.el.first == n)=true:=by simpa using c
    clear HN HE c;go_wp2;go_ret;rw[HA.out];exact⟨rfl,hb.alloc hb.size _⟩
   .have a6:Hid (qa es n (k+1)):=HN.out.succ HE.out c
    have c':(e.el.first == n)=false:=by simpa using c
    clear HN HE c;go_wp2;exact⟨⟨k+1,by omega,by go_num,a6.out,hb.alloc hb.size _⟩,by simp[intOf];omega⟩
  .have HA:Hid (du es n=true):=ua HT.out HN.out (by omega)
   clear HN hE HT;go_wp2;go_ret;rw[HA.out];exact⟨rfl,hb⟩
theorem Ut (w:World)  (sh:Bool) (lv n:Int) (a0:0≤n) (a1:n≤1000000) (h0:9000<n) :
  Calls prog 106 #[.agg #[.slice none 0 0,.bool sh,.int .i64 lv],.int .i64 n] w fun e w'=>e=.returned (.bool true)∧Below w.heap.size w w':=by
 have h2:2000≤n:=by omega
 have h5:2900<n:=by omega
 have h6:4000≤n:=by omega
 have N:=fun w=>jn n 1 9 (by omega) w
 go_enter func106,ntmps106;go_wp2_with fail;refine (N _).mono ?_;rintro e' w1 ⟨rfl,rfl⟩;clear N;go_wp2_with fail;go_loop [38] (fun i=>i=.int .i64 0) (fun _=>0)
 case atStart=>rfl
 case round =>
  subst hrel;go_wp2;go_ret;exact⟨rfl,bY _⟩
theorem Uz (w:World) (v:Value) (sh:Bool) (lv n:Int) (a0:0≤n) (a1:n≤1000000) (h:ff n=true) :
  Calls prog 106 #[.agg #[v,.bool sh,.int .i64 lv],.int .i64 n] w fun e w'=>e=.returned (.bool false)∧Below w.heap.size w w':=by
 rcases of_decide_eq_true h with ⟨h1,h2,h3⟩|⟨h1,h2,h3⟩|h1
 .have h4:(n % 100 == 0)=true:=by simpa using h3
  clear h h3;go_enter func106,ntmps106;go_wp2;go_ret;exact⟨rfl,bY _⟩
 .have h4:(n % 200 == 0)=true:=by simpa using h3
  have h5:2000≤n:=by omega
  have h6:2900<n:=by omega
  clear h h3;go_enter func106,ntmps106;go_wp2;go_ret;exact⟨rfl,bY _⟩
 .have Y:=fun w=>oj n 1 9 h1 w
  have h5:n<2000:=by omega
  have h6:n<4000:=by omega
  clear h;go_enter func106,ntmps106;go_wp2_with fail;refine (Y _).mono ?_;rintro e' w1 ⟨rfl,rfl⟩;clear Y;go_wp2;go_ret;exact⟨rfl,bY _⟩
theorem aa1 {w:World} {B:Nat} {v:Value} {es:List Ent} {sh:Bool} {lv n:Int}(hE:ac w B v es) (hn:es.length≤1048576) (a0:0≤n) (a1:n≤1000000) :
  Calls prog 106 #[.agg #[v,.bool sh,.int .i64 lv],.int .i64 n] w fun e w'=>e=.returned (.bool (du es n))∧Below w.heap.size w w':=by
 cases ht:ff n
 .have a2:=of_decide_eq_false ht
  rcases hE.form with ⟨rfl,rfl⟩|⟨g,cap,rfl,_,_,_,_⟩
  .have e0:du [] n=true:=by unfold du;rw[ht];rfl
   rw[e0];by_cases c1:n<2000
   .exact Up w sh lv n a0 a1 c1 (fun h=>a2 (.inr (.inr h)))
   by_cases c2:n≤2900
   .exact Uq w sh lv n a0 a1 (by omega) c2 (fun h=>a2 (.inl ⟨by omega,c2,h⟩))
   by_cases c3:n<4000
   .exact Ur w sh lv n a0 a1 (by omega) c3
   by_cases c4:n≤9000
   .exact Us w sh lv n a0 a1 (by omega) c4 (fun h=>a2 (.inr (.inl ⟨by omega,c4,h⟩)))
   exact Ut w sh lv n a0 a1 (by omega)
  .by_cases c1:n<2000
   .exact Uu w B g cap es sh lv n hE ht hn a0 a1 c1 (fun h=>a2 (.inr (.inr h)))
   by_cases c2:n≤2900
   .exact Uv w B g cap es sh lv n hE ht hn a0 a1 (by omega) c2 (fun h=>a2 (.inl ⟨by omega,c2,h⟩))
   by_cases c3:n<4000
   .exact Uw w B g cap es sh lv n hE ht hn a0 a1 (by omega) c3
   by_cases c4:n≤9000
   .exact Ux w B g cap es sh lv n hE ht hn a0 a1 (by omega) c4 (fun h=>a2 (.inr (.inl ⟨by omega,c4,h⟩)))
   exact Uy w B g cap es sh lv n hE ht hn a0 a1 (by omega)
 .have e0:du es n=false:=by unfold du;rw[ht];rfl
  rw[e0];exact Uz w v sh lv n a0 a1 ht
def ke (es:List Ent):Nat→Int→Int
 | 0,n=>n
 | f+1,n=>if du es n=true then n else ke es f (n+1)
theorem If {es:List Ent} {f:Nat} {n:Int}(h:du es n=true):ke es f n=n:=by
 cases f with
 | zero=>rfl
 | succ f=>exact if_pos h
theorem Bj {es:List Ent} {n:Int}(h:du es n=false) (hn:n<65536):ke es (65536-n).toNat n=ke es (65536-(n+1)).toNat (n+1):=by
 rw[show (65536-n).toNat=(65536-(n+1)).toNat+1 by omega];exact if_neg (by simp[h])
theorem xi {es:List Ent}(hF:∀ e ∈ es,e.el.first≤65535):du es 65536=true:=by
 unfold du;rw[show ff 65536=false by decide,Bool.not_false,Bool.true_and,List.all_eq_true];intro x hx;have:=hF x hx;simp;omega
def kg (u:World) (s:Nat) (v:Value) (sh:Bool) (lv:Int) (e:El):Prop:=u.heap[s]? = some (.cells #[v,.bool sh,.int .i64 lv] 56)∧u.heap[s+1]? = some (.cells #[.int .i64 e.first,.int .i64 e.second,.int .i64 e.third,.bool e.varies] 111)∧u.heap[s+1+1]? = some (.cells #[.int .i64 0,.int .i64 0,.int .i64 0,.bool false] 111)
theorem kg.sizes {u:World} {s:Nat} {v:Value} {sh:Bool} {lv:Int} {e:El}(h:kg u s v sh lv e):s<u.heap.size∧s+1<u.heap.size∧s+1+1<u.heap.size :=
 ⟨(Array.getElem?_eq_some_iff.1 h.1).1,(Array.getElem?_eq_some_iff.1 h.2.1).1,(Array.getElem?_eq_some_iff.1 h.2.2).1⟩
theorem kg.rules {u:World} {s:Nat} {v:Value} {sh:Bool} {lv:Int} {e:El}(h:kg u s v sh lv e):u.cell? ⟨s,0,none⟩=some v∧u.cell? ⟨s,1,none⟩=some (.bool sh)∧u.cell? ⟨s,2,none⟩=some (.int .i64 lv) :=
 ⟨cell_of_row _ _ 0 _ _ _ h.1,cell_of_row _ _ 1 _ _ _ h.1,cell_of_row _ _ 2 _ _ _ h.1⟩
theorem kg.elem {u:World} {s:Nat} {v:Value} {sh:Bool} {lv:Int} {e:El}(h:kg u s v sh lv e):u.cell? ⟨s+1,0,none⟩=some (.int .i64 e.first)∧u.cell? ⟨s+1,1,none⟩=some (.int .i64 e.second)∧u.cell? ⟨s+1,2,none⟩=some (.int .i64 e.third)∧u.cell? ⟨s+1,3,none⟩=some (.bool e.varies) :=
 ⟨cell_of_row _ _ 0 _ _ _ h.2.1,cell_of_row _ _ 1 _ _ _ h.2.1,cell_of_row _ _ 2 _ _ _ h.2.1,cell_of_row _ _ 3 _ _ _ h.2.1⟩
theorem kg.result {u:World} {s:Nat} {v:Value} {sh:Bool} {lv:Int} {e:El}(h:kg u s v sh lv e):u.cell? ⟨s+1+1,0,none⟩=some (.int .i64 0)∧u.cell? ⟨s+1+1,1,none⟩=some (.int .i64 0)∧u.cell? ⟨s+1+1,2,none⟩=some (.int .i64 0)∧u.cell? ⟨s+1+1,3,none⟩=some (.bool false)∧∀ j,u.frozen? ⟨s+1+1,j,none⟩=false :=
 ⟨cell_of_row _ _ 0 _ _ _ h.2.2,cell_of_row _ _ 1 _ _ _ h.2.2,cell_of_row _ _ 2 _ _ _ h.2.2,cell_of_row _ _ 3 _ _ _ h.2.2,fun j=>by simp[World.frozen?,h.2.2]⟩
theorem kg.below {u u':World} {s:Nat} {v:Value} {sh:Bool} {lv:Int} {e:El}(h:kg u s v sh lv e) (hb:Below u.heap.size u u'):kg u' s v sh lv e:=by
 have hf:=h.sizes;exact⟨by rw[hb.block _ hf.1];exact h.1,by rw[hb.block _ hf.2.1];exact h.2.1,by rw[hb.block _ hf.2.2];exact h.2.2⟩
theorem Ad (w:World) (v:Value) (sh:Bool) (lv:Int) (e:El):kg (((w.alloc (.cells #[v,.bool sh,.int .i64 lv] 56)).alloc (.cells #[.int .i64 e.first,.int .i64 e.second,.int .i64 e.third,.bool e.varies] 111)).alloc (.cells #[.int .i64 0,.int .i64 0,.int .i64 0,.bool false] 111)) w.heap.size v sh lv e:=by
 refine⟨?_,?_,?_⟩
 .rw[Below.heap_alloc _ _ _ (by simp;omega),Below.heap_alloc _ _ _ (by simp)];exact heap_alloc_new w _
 .rw[Below.heap_alloc _ _ _ (by simp)];exact heap_alloc2_new w _ _
 .have:=heap_alloc_new ((w.alloc (.cells #[v,.bool sh,.int .i64 lv] 56)).alloc (.cells #[.int .i64 e.first,.int .i64 e.second,.int .i64 e.third,.bool e.varies] 111)) (.cells #[.int .i64 0,.int .i64 0,.int .i64 0,.bool false] 111)
  simpa using this
theorem ux (w:World) (v:Value) (sh:Bool) (lv:Int) (e:El):Below w.heap.size w (((w.alloc (.cells #[v,.bool sh,.int .i64 lv] 56)).alloc (.cells #[.int .i64 e.first,.int .i64 e.second,.int .i64 e.third,.bool e.varies] 111)).alloc (.cells #[.int .i64 0,.int .i64 0,.int .i64 0,.bool false] 111)) :=
 (((Below.refl w.heap.size w).alloc bR _).alloc (by simp) _).alloc (by simp;omega) _
theorem uy {w wr:World}(h:Below w.heap.size w wr) (x y z t:Value):Below w.heap.size w ((((wr.setCell ⟨w.heap.size+1+1,0,none⟩ x).setCell ⟨w.heap.size+1+1,1,none⟩ y).setCell ⟨w.heap.size+1+1,2,none⟩ z).setCell ⟨w.heap.size+1+1,3,none⟩ t) :=
 (((h.setCell (show w.heap.size≤w.heap.size+1+1 by omega) _).setCell (show w.heap.size≤w.heap.size+1+1 by omega) _).setCell (show w.heap.size≤w.heap.size+1+1 by omega) _).setCell (show w.heap.size≤w.heap.size+1+1 by omega) _
def ax4 (w:World) (v:Value) (sh:Bool) (lv:Int) (e:El) (es:List Ent) (N:Int) (i:Value) (wr:World):Prop:=∃ m:Int,i=.int .i64 m∧0≤m∧m≤65536∧ke es (65536-m).toNat m=N∧kg wr w.heap.size v sh lv e∧Below w.heap.size w wr
theorem Q0 {w:World} {B:Nat} {v:Value} {es:List Ent} {sh:Bool} {lv:Int} {e:El}(hE:ac w B v es) (hn:es.length≤1048576) (hF:∀ e ∈ es,e.el.first≤65535) (h0:0≤e.first) (h1:e.first≤65535) :
  Calls prog 58 #[.agg #[v,.bool sh,.int .i64 lv],.agg #[.int .i64 e.first,.int .i64 e.second,.int .i64 e.third,.bool e.varies],.int .i64 1] w fun x w'=>x=.returned (elV ⟨ke es (65535-e.first).toNat (e.first+1),32,2,false⟩)∧Below w.heap.size w w':=by
 have HB:Hid (Below _ _ _):=ux w v sh lv e;have HX:Hid (kg _ _ _ _ _ _):=Ad w v sh lv e;have HE:Hid (ac _ _ _ _):=hE;obtain⟨N,HS⟩:∃ N,Hid (ke es (65535-e.first).toNat (e.first+1)=N):=⟨_,rfl⟩
 rw[HS.out];have a1:Hid (ke es (65536-(e.first+1)).toNat (e.first+1)=N):=by
  show _=_
  rw[show 65536-(e.first+1)=65535-e.first by omega];exact HS.out
 clear hE HS;go_enter func58,ntmps58;go_wp2_with fail;go_loopw [7] (fun i wr=>ax4 w v sh lv e es N i wr) (fun i _=>(65536-intOf i).toNat)
 case atStart=>exact⟨e.first+1,rfl,by omega,by omega,a1.out,HX.out,HB.out⟩
 case round =>
  clear a1 HX HB;obtain⟨m,rfl,m0,m1,hs,hx,hb⟩:=hrel;have HS:Hid (ke es (65536-m).toNat m=N):=hs;have FR:=aa1 (sh:=sh) (lv:=lv) (n:=m) (HE.out.below hb) hn m0 (by omega);obtain⟨p0,p1,p2⟩:=hx.rules;have HX:Hid (kg _ _ _ _ _ _):=hx;have HB:Hid _:=hb;clear hs hx hb HE;go_wp2_with fail;refine FR.mono ?_;rintro e' w2 ⟨rfl,b2⟩;have a0:=HX.out.below b2;have c2:=HB.out.trans (b2.mono HB.out.size);clear FR p0 p1 p2 b2 HX HB
  cases hf:du es m
  .have hm:m<65536:=by
    by_cases c:m=65536
    .subst c;rw[xi hF]at hf;cases hf
    .omega
   have a2:Hid (ke es (65536-(m+1)).toNat (m+1)=N):=(Bj hf hm).symm.trans HS.out;clear HS hf hF;have a3:Hid (kg _ _ _ _ _ _):=a0;clear a0;go_wp2;exact⟨⟨m+1,by go_num,by omega,by omega,a2.out,a3.out,c2⟩,by simp[intOf];omega⟩
  .have hN:m=N:=(If hf).symm.trans HS.out
   subst hN;obtain⟨q0,q1,q2,q3,f0⟩:=a0.result;obtain⟨n0,n1,n2⟩:=a0.sizes;clear HS hf hF a0;go_wp2;refine bodyPost_ret (v:=.agg #[.int .i64 m,.int .i64 32,.int .i64 2,.bool false]) ?_ rfl ⟨rfl,uy c2 _ _ _ _⟩;rw[av rfl];go_simp
def o7 (p:Int→Bool) (nx:Int→Int):Nat→Int→Int
 | 0,n=>n
 | f+1,n=>if p n=true then o7 p nx f (nx n) else n
theorem a45 {p:Int→Bool} {nx:Int→Int} {f:Nat} {n:Int}(h:p n=false):o7 p nx f n=n:=by
 cases f with
 | zero=>rfl
 | succ f=>exact if_neg (by simp[h])
def jt (p:Int→Bool) (nx:Int→Int) (M n N:Int):Prop:=∃ f:Nat,M-n<(f:Int)∧o7 p nx f n=N
theorem jt.next {p:Int→Bool} {nx:Int→Int} {M n N:Int}(h:jt p nx M n N) (hp:p n=true) (hn:n≤M) (hx:n<nx n):jt p nx M (nx n) N:=by
 obtain⟨f,h1,h2⟩:=h
 cases f with
 | zero=>exfalso;simp at h1;omega
 | succ f =>
  refine⟨f,by omega,?_⟩;rw[<- h2];exact (if_pos hp).symm
theorem jt.last {p:Int→Bool} {nx:Int→Int} {M n N:Int}(h:jt p nx M n N) (hp:p n=false):n=N:=by
 obtain⟨f,_,h2⟩:=h;rw[<- h2,a45 hp]
def kh (es:List Ent) (q:El→Bool) (k:Nat):Prop:=∀ j e,j<k→es[j]? = some e→q e.el=false
theorem kh.succ {es:List Ent} {q:El→Bool} {e:Ent} {k:Nat}(h:kh es q k) (hx:es[k]? = some e) (hn:q e.el=false):kh es q (k+1):=by
 intro j y hj hy;by_cases c:j=k
 .subst c;rw[hx]at hy;cases hy;exact hn
 .exact h j y (by omega) hy
def d6 (es:List Ent) (q:El→Bool):Bool:=es.any fun e=>q e.el
theorem sf {es:List Ent} {q:El→Bool} {e:Ent} {k:Nat}(he:es[k]? = some e) (h:q e.el=true):d6 es q=true:=List.any_eq_true.2 ⟨e,List.mem_of_getElem? he,h⟩
theorem qp {es:List Ent} {q:El→Bool} {k:Nat}(h:kh es q k) (hk:es.length≤k):d6 es q=false:=by
 refine List.any_eq_false.2 fun x hx=>?_
 obtain⟨j,hj⟩:=List.mem_iff_getElem?.1 hx;have h1:=(List.getElem?_eq_some_iff.1 hj).1;simp[h j x (by omega) hj]
def q2 (e:El) (n:Int) (x:El):Bool:=x.first == e.first && x.second == n
def q3 (e:El) (n:Int) (x:El):Bool:=(x.first == e.first && x.second == e.second) && x.third == n
def nx2 (n:Int):Int:=n+1
def nx3 (n:Int):Int:=if n+1=8 then n+1+1 else n+1
def zm (es:List Ent) (e:El):El:=⟨e.first,o7 (fun n=>d6 es (q2 e n)) nx2 1001 (e.second+1),2,false⟩
def qm (es:List Ent) (e:El):El:=⟨e.first,e.second,o7 (fun n=>d6 es (q3 e n)) nx3 1001 (nx3 e.third),false⟩
def Tk (w:World) (v:Value) (sh:Bool) (lv:Int) (e:El) (es:List Ent) (q:Int→El→Bool) (nx:Int→Int) (N:Int) (i j:Value) (wr:World):Prop :=
 ∃ (m:Int) (k:Nat),i=.int .i64 m∧j=.int .i64 k∧(0≤m∧m≤1002∧k≤es.length)∧kh es (q m) k∧jt (fun n=>d6 es (q n)) nx 1000 m N∧kg wr w.heap.size v sh lv e∧Below w.heap.size w wr
theorem Q1 {w:World} {B:Nat} {v:Value} {es:List Ent} {sh:Bool} {lv:Int} {e:El}(hE:ac w B v es) (hn:es.length≤40) (hF:∀ x ∈ es,x.el.second≤999) (h0:0≤e.second) (h1:e.second≤999) :
  Calls prog 58 #[.agg #[v,.bool sh,.int .i64 lv],.agg #[.int .i64 e.first,.int .i64 e.second,.int .i64 e.third,.bool e.varies],.int .i64 2] w fun x w'=>x=.returned (elV (zm es e))∧Below w.heap.size w w':=by
 obtain⟨a,c,rfl⟩:∃ a c,v=.slice a es.length c:=by
  rcases hE.form with ⟨rfl,rfl⟩|⟨g,cap,rfl,_,_,_,_⟩
  .exact⟨_,_,rfl⟩
  .exact⟨_,_,rfl⟩
 have HB:Hid (Below _ _ _):=ux w (.slice a es.length c) sh lv e;have HX:Hid (kg _ _ _ _ _ _):=Ad w (.slice a es.length c) sh lv e;have HE:Hid (ac _ _ _ _):=hE;unfold zm;obtain⟨N,HS⟩:∃ N,Hid (o7 (fun n=>d6 es (q2 e n)) nx2 1001 (e.second+1)=N):=⟨_,rfl⟩
 rw[HS.out];have ad:Hid (jt (fun n=>d6 es (q2 e n)) nx2 1000 (e.second+1) N):=⟨1001,by omega,HS.out⟩;clear hE HS;go_enter func58,ntmps58;go_wp2_with fail;go_loopw [8,9] (fun i j wr=>Tk w (.slice a es.length c) sh lv e es (q2 e) nx2 N i j wr) (fun i j _=>(1003-intOf i).toNat*100+(50-(intOf j).toNat))
 case atStart=>exact⟨e.second+1,0,rfl,rfl,⟨by omega,by omega,by omega⟩,fun j x hj=>by omega,ad.out,HX.out,HB.out⟩
 case round =>
  clear ad HX HB;obtain⟨m,k,rfl,rfl,⟨m0,m1,hk⟩,hq,hl,hx,hb⟩:=hrel;have HQ:Hid (kh _ _ _):=hq;have HL:Hid (jt _ _ _ _ _):=hl;have HX:Hid (kg _ _ _ _ _ _):=hx;obtain⟨p0,p1,p2⟩:=hx.rules;obtain⟨s0,s1,s2,s3⟩:=hx.elem;obtain⟨z0,z1,z2,z3,f0⟩:=hx.result;obtain⟨n0,n1,n2⟩:=hx.sizes;clear hq hl hx;by_cases ab:k<es.length
  .obtain⟨x,he⟩:∃ x,es[k]? = some x:=⟨_,List.getElem?_eq_getElem ab⟩
   have aa:=hF x (List.mem_of_getElem? he);rcases HE.out.form with ⟨_,h⟩|⟨g,cap,h,_,_,_,_⟩
   .rw[h]at ab;simp at ab
   .cases h
    obtain⟨y,hI,a0,a1,a2,a3,a4⟩:=(HE.out.below hb).cells k x he;have af:(k:Int)<(es.length:Int):=by omega
    have a7:Hid (kg _ _ _ _ _ _):=HX.out.below ((Below.refl wr.heap.size wr).alloc bR (.cells #[.int .i64 x.el.first,.int .i64 x.el.second,.int .i64 x.el.third,.bool x.el.varies] 111));have a5:Hid _:=hb.alloc hb.size (.cells #[.int .i64 x.el.first,.int .i64 x.el.second,.int .i64 x.el.third,.bool x.el.varies] 111);have HK:Hid _:=he;clear hI he HE hF HX hb;by_cases c1:x.el.first=e.first
    .have a8:(x.el.first == e.first)=true:=by simpa using c1
     by_cases c2:x.el.second=m
     .have a9:(x.el.second == m)=true:=by simpa using c2
      have ae:Hid (jt (fun n=>d6 es (q2 e n)) nx2 1000 (m+1) N):=HL.out.next (sf HK.out (by show (_ && _)=true;rw[a8,a9];rfl)) (by omega) (by show m<m+1;omega)
      have m2:m≤999:=by omega
      clear HQ HL HK c1 c2 aa;go_wp2;exact⟨⟨m+1,0,by go_num,by go_num,⟨by omega,by omega,by omega⟩,fun j x hj=>by omega,ae.out,a7.out,a5.out⟩,by simp[intOf];omega⟩
     .have a9:(x.el.second == m)=false:=by simpa using c2
      have a6:Hid (kh es (q2 e m) (k+1)):=HQ.out.succ HK.out (by show (_ && _)=false;rw[a9,Bool.and_false]);clear HQ HK c1 c2 aa;go_wp2;exact⟨⟨m,k+1,by go_num,by go_num,⟨by omega,by omega,by omega⟩,a6.out,HL.out,a7.out,a5.out⟩,by simp[intOf];omega⟩
    .have a8:(x.el.first == e.first)=false:=by simpa using c1
     have a6:Hid (kh es (q2 e m) (k+1)):=HQ.out.succ HK.out (by show (_ && _)=false;rw[a8,Bool.false_and]);clear HQ HK c1 aa;go_wp2;exact⟨⟨m,k+1,by go_num,by go_num,⟨by omega,by omega,by omega⟩,a6.out,HL.out,a7.out,a5.out⟩,by simp[intOf];omega⟩
  .have hN:m=N:=HL.out.last (qp HQ.out (by omega))
   subst hN;have af:¬ (k:Int)<(es.length:Int):=by omega
   clear HQ HL HX HE hF;go_wp2;refine bodyPost_ret (v:=.agg #[.int .i64 e.first,.int .i64 m,.int .i64 2,.bool false]) ?_ rfl ⟨rfl,uy hb _ _ _ _⟩;rw[av rfl];go_simp
theorem O9 (n:Int) (h:n+1=8):nx3 n=n+1+1:=if_pos h
theorem Oa (n:Int) (h:n+1≠8):nx3 n=n+1:=if_neg h
theorem Cq (n:Int):n<nx3 n:=by unfold nx3;split <;> omega
theorem Q3 {w:World} {B:Nat} {v:Value} {es:List Ent} {sh:Bool} {lv:Int} {e:El}(hE:ac w B v es) (hn:es.length≤40) (hF:∀ x ∈ es,x.el.third≤99) (h8:e.third+1=8) :
  Calls prog 58 #[.agg #[v,.bool sh,.int .i64 lv],.agg #[.int .i64 e.first,.int .i64 e.second,.int .i64 e.third,.bool e.varies],.int .i64 3] w fun x w'=>x=.returned (elV (qm es e))∧Below w.heap.size w w':=by
 obtain⟨a,c,rfl⟩:∃ a c,v=.slice a es.length c:=by
  rcases hE.form with ⟨rfl,rfl⟩|⟨g,cap,rfl,_,_,_,_⟩
  .exact⟨_,_,rfl⟩
  .exact⟨_,_,rfl⟩
 have HB:Hid (Below _ _ _):=ux w (.slice a es.length c) sh lv e;have HX:Hid (kg _ _ _ _ _ _):=Ad w (.slice a es.length c) sh lv e;have HE:Hid (ac _ _ _ _):=hE;unfold qm;obtain⟨N,HS⟩:∃ N,Hid (o7 (fun n=>d6 es (q3 e n)) nx3 1001 (nx3 e.third)=N):=⟨_,rfl⟩
 rw[HS.out];have ag:Hid (jt (fun n=>d6 es (q3 e n)) nx3 1000 (e.third+1+1) N):=⟨1001,by omega,by rw[<- O9 _ h8];exact HS.out⟩;have ai:(e.third+1 == 8)=true:=by simpa using h8
 clear hE HS;go_enter func58,ntmps58;go_wp2_with fail;go_loopw [11,12] (fun i j wr=>Tk w (.slice a es.length c) sh lv e es (q3 e) nx3 N i j wr) (fun i j _=>(1003-intOf i).toNat*100+(50-(intOf j).toNat))
 case atStart=>exact⟨e.third+1+1,0,by rw[show e.third+1+1=9 by omega],rfl,⟨by omega,by omega,by omega⟩,fun j x hj=>by omega,ag.out,HX.out,HB.out⟩
 case round =>
  clear ag HX HB h8 ai;obtain⟨m,k,rfl,rfl,⟨m0,m1,hk⟩,hq,hl,hx,hb⟩:=hrel;have HQ:Hid (kh _ _ _):=hq;have HL:Hid (jt _ _ _ _ _):=hl;have HX:Hid (kg _ _ _ _ _ _):=hx;obtain⟨p0,p1,p2⟩:=hx.rules;obtain⟨s0,s1,s2,s3⟩:=hx.elem;obtain⟨z0,z1,z2,z3,f0⟩:=hx.result;obtain⟨n0,n1,n2⟩:=hx.sizes;clear hq hl hx;by_cases af:k<es.length
  .obtain⟨x,he⟩:∃ x,es[k]? = some x:=⟨_,List.getElem?_eq_getElem af⟩
   have a9:=hF x (List.mem_of_getElem? he);rcases HE.out.form with ⟨_,h⟩|⟨g,cap,h,_,_,_,_⟩
   .rw[h]at af;simp at af
   .cases h
    obtain⟨y,hI,a0,a1,a2,a3,a4⟩:=(HE.out.below hb).cells k x he;have aj:(k:Int)<(es.length:Int):=by omega
    have a8:Hid (kg _ _ _ _ _ _):=HX.out.below ((Below.refl wr.heap.size wr).alloc bR (.cells #[.int .i64 x.el.first,.int .i64 x.el.second,.int .i64 x.el.third,.bool x.el.varies] 111));have a6:Hid _:=hb.alloc hb.size (.cells #[.int .i64 x.el.first,.int .i64 x.el.second,.int .i64 x.el.third,.bool x.el.varies] 111);have HK:Hid _:=he;clear hI he HE hF HX hb;by_cases c1:x.el.first=e.first
    .have ab:(x.el.first == e.first)=true:=by simpa using c1
     by_cases c2:x.el.second=e.second
     .have ad:(x.el.second == e.second)=true:=by simpa using c2
      by_cases c3:x.el.third=m
      .have ae:(x.el.third == m)=true:=by simpa using c3
       have a5:Hid (jt (fun n=>d6 es (q3 e n)) nx3 1000 (nx3 m) N):=HL.out.next (sf HK.out (by show (_ && _)=true;rw[ab,ad,ae];rfl)) (by omega) (Cq m)
       have m2:m≤99:=by omega
       clear HQ HL HK c1 c2 c3 a9;by_cases c8:m+1=8
       .have ah:(m+1 == 8)=true:=by simpa using c8
        have aa:Hid (jt (fun n=>d6 es (q3 e n)) nx3 1000 (m+1+1) N):=by rw[O9 m c8]at a5;exact a5
        clear a5 c8;go_wp2;exact⟨⟨m+1+1,0,by go_num,by go_num,⟨by omega,by omega,by omega⟩,fun j x hj=>by omega,aa.out,a8.out,a6.out⟩,by simp[intOf];omega⟩
       .have ah:(m+1 == 8)=false:=by simpa using c8
        have aa:Hid (jt (fun n=>d6 es (q3 e n)) nx3 1000 (m+1) N):=by rw[Oa m c8]at a5;exact a5
        clear a5 c8;go_wp2;exact⟨⟨m+1,0,by go_num,by go_num,⟨by omega,by omega,by omega⟩,fun j x hj=>by omega,aa.out,a8.out,a6.out⟩,by simp[intOf];omega⟩
      .have ae:(x.el.third == m)=false:=by simpa using c3
       have a7:Hid (kh es (q3 e m) (k+1)):=HQ.out.succ HK.out (by show (_ && _)=false;rw[ae,Bool.and_false]);clear HQ HK c1 c2 c3 a9;go_wp2;exact⟨⟨m,k+1,by go_num,by go_num,⟨by omega,by omega,by omega⟩,a7.out,HL.out,a8.out,a6.out⟩,by simp[intOf];omega⟩
     .have ad:(x.el.second == e.second)=false:=by simpa using c2
      have a7:Hid (kh es (q3 e m) (k+1)):=HQ.out.succ HK.out (by show ((_ && _) && _)=false;rw[ad,Bool.and_false,Bool.false_and]);clear HQ HK c1 c2 a9;go_wp2;exact⟨⟨m,k+1,by go_num,by go_num,⟨by omega,by omega,by omega⟩,a7.out,HL.out,a8.out,a6.out⟩,by simp[intOf];omega⟩
    .have ab:(x.el.first == e.first)=false:=by simpa using c1
     have a7:Hid (kh es (q3 e m) (k+1)):=HQ.out.succ HK.out (by show ((_ && _) && _)=false;rw[ab,Bool.false_and,Bool.false_and]);clear HQ HK c1 a9;go_wp2;exact⟨⟨m,k+1,by go_num,by go_num,⟨by omega,by omega,by omega⟩,a7.out,HL.out,a8.out,a6.out⟩,by simp[intOf];omega⟩
  .have hN:m=N:=HL.out.last (qp HQ.out (by omega))
   subst hN;have aj:¬ (k:Int)<(es.length:Int):=by omega
   clear HQ HL HX HE hF;go_wp2;refine bodyPost_ret (v:=.agg #[.int .i64 e.first,.int .i64 e.second,.int .i64 m,.bool false]) ?_ rfl ⟨rfl,uy hb _ _ _ _⟩;rw[av rfl];go_simp
theorem Q4 {w:World} {B:Nat} {v:Value} {es:List Ent} {sh:Bool} {lv:Int} {e:El}(hE:ac w B v es) (hn:es.length≤40) (hF:∀ x ∈ es,x.el.third≤99) (h0:0≤e.third) (h1:e.third≤99) (h8:e.third+1≠8) :
  Calls prog 58 #[.agg #[v,.bool sh,.int .i64 lv],.agg #[.int .i64 e.first,.int .i64 e.second,.int .i64 e.third,.bool e.varies],.int .i64 3] w fun x w'=>x=.returned (elV (qm es e))∧Below w.heap.size w w':=by
 obtain⟨a,c,rfl⟩:∃ a c,v=.slice a es.length c:=by
  rcases hE.form with ⟨rfl,rfl⟩|⟨g,cap,rfl,_,_,_,_⟩
  .exact⟨_,_,rfl⟩
  .exact⟨_,_,rfl⟩
 have HB:Hid (Below _ _ _):=ux w (.slice a es.length c) sh lv e;have HX:Hid (kg _ _ _ _ _ _):=Ad w (.slice a es.length c) sh lv e;have HE:Hid (ac _ _ _ _):=hE;unfold qm;obtain⟨N,HS⟩:∃ N,Hid (o7 (fun n=>d6 es (q3 e n)) nx3 1001 (nx3 e.third)=N):=⟨_,rfl⟩
 rw[HS.out];have ag:Hid (jt (fun n=>d6 es (q3 e n)) nx3 1000 (e.third+1) N):=⟨1001,by omega,by rw[<- Oa _ h8];exact HS.out⟩;have ai:(e.third+1 == 8)=false:=by simpa using h8
 clear hE HS;go_enter func58,ntmps58;go_wp2_with fail;go_loopw [11,12] (fun i j wr=>Tk w (.slice a es.length c) sh lv e es (q3 e) nx3 N i j wr) (fun i j _=>(1003-intOf i).toNat*100+(50-(intOf j).toNat))
 case atStart=>exact⟨e.third+1,0,rfl,rfl,⟨by omega,by omega,by omega⟩,fun j x hj=>by omega,ag.out,HX.out,HB.out⟩
 case round =>
  clear ag HX HB h8 ai;obtain⟨m,k,rfl,rfl,⟨m0,m1,hk⟩,hq,hl,hx,hb⟩:=hrel;have HQ:Hid (kh _ _ _):=hq;have HL:Hid (jt _ _ _ _ _):=hl;have HX:Hid (kg _ _ _ _ _ _):=hx;obtain⟨p0,p1,p2⟩:=hx.rules;obtain⟨s0,s1,s2,s3⟩:=hx.elem;obtain⟨z0,z1,z2,z3,f0⟩:=hx.result;obtain⟨n0,n1,n2⟩:=hx.sizes;clear hq hl hx;by_cases af:k<es.length
  .obtain⟨x,he⟩:∃ x,es[k]? = some x:=⟨_,List.getElem?_eq_getElem af⟩
   have a9:=hF x (List.mem_of_getElem? he);rcases HE.out.form with ⟨_,h⟩|⟨g,cap,h,_,_,_,_⟩
   .rw[h]at af;simp at af
   .cases h
    obtain⟨y,hI,a0,a1,a2,a3,a4⟩:=(HE.out.below hb).cells k x he;have aj:(k:Int)<(es.length:Int):=by omega
    have a8:Hid (kg _ _ _ _ _ _):=HX.out.below ((Below.refl wr.heap.size wr).alloc bR (.cells #[.int .i64 x.el.first,.int .i64 x.el.second,.int .i64 x.el.third,.bool x.el.varies] 111));have a6:Hid _:=hb.alloc hb.size (.cells #[.int .i64 x.el.first,.int .i64 x.el.second,.int .i64 x.el.third,.bool x.el.varies] 111);have HK:Hid _:=he;clear hI he HE hF HX hb;by_cases c1:x.el.first=e.first
    .have ab:(x.el.first == e.first)=true:=by simpa using c1
     by_cases c2:x.el.second=e.second
     .have ad:(x.el.second == e.second)=true:=by simpa using c2
      by_cases c3:x.el.third=m
      .have ae:(x.el.third == m)=true:=by simpa using c3
       have a5:Hid (jt (fun n=>d6 es (q3 e n)) nx3 1000 (nx3 m) N):=HL.out.next (sf HK.out (by show (_ && _)=true;rw[ab,ad,ae];rfl)) (by omega) (Cq m)
       have m2:m≤99:=by omega
       clear HQ HL HK c1 c2 c3 a9;by_cases c8:m+1=8
       .have ah:(m+1 == 8)=true:=by simpa using c8
        have aa:Hid (jt (fun n=>d6 es (q3 e n)) nx3 1000 (m+1+1) N):=by rw[O9 m c8]at a5;exact a5
        clear a5 c8;go_wp2;exact⟨⟨m+1+1,0,by go_num,by go_num,⟨by omega,by omega,by omega⟩,fun j x hj=>by omega,aa.out,a8.out,a6.out⟩,by simp[intOf];omega⟩
       .have ah:(m+1 == 8)=false:=by simpa using c8
        have aa:Hid (jt (fun n=>d6 es (q3 e n)) nx3 1000 (m+1) N):=by rw[Oa m c8]at a5;exact a5
        clear a5 c8;go_wp2;exact⟨⟨m+1,0,by go_num,by go_num,⟨by omega,by omega,by omega⟩,fun j x hj=>by omega,aa.out,a8.out,a6.out⟩,by simp[intOf];omega⟩
      .have ae:(x.el.third == m)=false:=by simpa using c3
       have a7:Hid (kh es (q3 e m) (k+1)):=HQ.out.succ HK.out (by show (_ && _)=false;rw[ae,Bool.and_false]);clear HQ HK c1 c2 c3 a9;go_wp2;exact⟨⟨m,k+1,by go_num,by go_num,⟨by omega,by omega,by omega⟩,a7.out,HL.out,a8.out,a6.out⟩,by simp[intOf];omega⟩
     .have ad:(x.el.second == e.second)=false:=by simpa using c2
      have a7:Hid (kh es (q3 e m) (k+1)):=HQ.out.succ HK.out (by show ((_ && _) && _)=false;rw[ad,Bool.and_false,Bool.false_and]);clear HQ HK c1 c2 a9;go_wp2;exact⟨⟨m,k+1,by go_num,by go_num,⟨by omega,by omega,by omega⟩,a7.out,HL.out,a8.out,a6.out⟩,by simp[intOf];omega⟩
    .have ab:(x.el.first == e.first)=false:=by simpa using c1
     have a7:Hid (kh es (q3 e m) (k+1)):=HQ.out.succ HK.out (by show ((_ && _) && _)=false;rw[ab,Bool.false_and,Bool.false_and]);clear HQ HK c1 a9;go_wp2;exact⟨⟨m,k+1,by go_num,by go_num,⟨by omega,by omega,by omega⟩,a7.out,HL.out,a8.out,a6.out⟩,by simp[intOf];omega⟩
  .have hN:m=N:=HL.out.last (qp HQ.out (by omega))
   subst hN;have aj:¬ (k:Int)<(es.length:Int):=by omega
   clear HQ HL HX HE hF;go_wp2;refine bodyPost_ret (v:=.agg #[.int .i64 e.first,.int .i64 e.second,.int .i64 m,.bool false]) ?_ rfl ⟨rfl,uy hb _ _ _ _⟩;rw[av rfl];go_simp
theorem Q2 {w:World} {B:Nat} {v:Value} {es:List Ent} {sh:Bool} {lv:Int} {e:El}(hE:ac w B v es) (hn:es.length≤40) (hF:∀ x ∈ es,x.el.third≤99) (h0:0≤e.third) (h1:e.third≤99) :
  Calls prog 58 #[.agg #[v,.bool sh,.int .i64 lv],.agg #[.int .i64 e.first,.int .i64 e.second,.int .i64 e.third,.bool e.varies],.int .i64 3] w fun x w'=>x=.returned (elV (qm es e))∧Below w.heap.size w w':=by
 by_cases h8:e.third+1=8
 .exact Q3 hE hn hF h8
 .exact Q4 hE hn hF h0 h1 h8
structure RS where
 es:List Ent
 sh:Bool
 lv:Int
 last:El
 reset:Bool
def jl:List UInt8:=[91,115,104,105,102,116,101,100,93]
def jp:List UInt8:=[91,108,101,118,101,108,115]
def ma (x:ByteArray):Option Nat :=
 if x.toList == [38] then some 0 else if x.toList == [60] then some 1 else if x.toList == [60,60] then some 2 else if x.toList == [60,60,60] then some 3 else none
def rk (y:ByteArray):Option Int :=
 if y.size=2∧49≤Dec.bt y 0∧Dec.bt y 0≤52∧Dec.bt y 1=93 then some ((Dec.bt y 0:Int)-48) else none
def gk (es:List Ent) (e:El):Nat→El
 | 1=>⟨ke es (65535-e.first).toNat (e.first+1),32,2,false⟩
 | 2=>zm es e
 | _=>qm es e
def d8 (st:RS) (lev:Nat) (l:List Int):Except Int RS :=
 if bd l=false then .error 2
 else if lev=0 then
  match fj st.es l with
  | none=>.error 3
  | some e=>if e.varies=true then .error 3 else .ok { st with last:=e,reset:=true }
 else if st.reset=false then .error 3
 else if 0≤atE st.es l then .error 4
 else if ay (st.es++[⟨l,gk st.es st.last lev⟩]) st.lv=true then .ok { st with es:=st.es++[⟨l,gk st.es st.last lev⟩],last:=gk st.es st.last lev }
 else .error 5
def bf:List ByteArray→RS→Except Int RS
 | [],st=>.ok st
 | x::ws,st =>
  if x.toList == jl then bf ws { st with sh:=true }
  else if x.toList == jp then
   match ws with
   | []=>.error 2
   | y::ws'=>match rk y with
    | none=>.error 2
    | some n=>bf ws' { st with lv:=n }
  else match ma x with
   | none=>.error 2
   | some lev=>match ws with
    | []=>.error 2
    | y::ws'=>if 200<y.size then .error 2 else match d8 st lev (nD (Dec.decT y.size y).1) with
     | .error c=>.error c
     | .ok st'=>bf ws' st'
def rs0:RS:=⟨[],false,3,⟨0,0,0,false⟩,false⟩
structure RA where
 es:List Ent
 sh:Bool
 lv:Int
 code:Int
def Wb:Except Int RS→RA
 | .ok st=>⟨st.es,st.sh,st.lv,0⟩
 | .error c=>⟨[],false,0,c⟩
def aa (s:ByteArray):RA:=if 300<s.size then ⟨[],false,0,1⟩ else Wb (bf (rx s) rs0)
structure gj (st:RS):Prop where
 good:ay st.es st.lv=true
 f0:0≤st.last.first
 f1:st.last.first≤65535
 s0:0≤st.last.second
 s1:st.last.second≤999
 t0:0≤st.last.third
 t1:st.last.third≤99
theorem cg {es:List Ent} {lv:Int}(h:ay es lv=true):es.length≤40∧(1≤lv∧lv≤4)∧∀ e ∈ es,bd e.runes=true∧(1≤e.el.first∧e.el.first≤65535)∧(32≤e.el.second∧e.el.second≤999)∧(2≤e.el.third∧e.el.third≤99)∧e.el.varies=false:=by
 have c:=of_decide_eq_true h;refine⟨c.1,c.2.1,fun e he=>?_⟩;obtain⟨i,hi⟩:=List.mem_iff_getElem?.1 he;have:=(vh es).1 c.2.2 i e hi;unfold mo at this;simp only[Bool.and_eq_true,decide_eq_true_eq,Bool.not_eq_true']at this;exact⟨this.1,this.2.2.1,this.2.2.2.1,this.2.2.2.2.1,this.2.2.2.2.2⟩
theorem Bd {es:List Ent} {lv a0:Int}(h:ay es lv=true) (h':1≤a0∧a0≤4):ay es a0=true:=by
 have c:=of_decide_eq_true h;exact decide_eq_true ⟨c.1,h',c.2.2⟩
theorem eg {l:List Int}(h:bd l=true):l.length≤4:=by
 unfold bd at h;rw[Bool.and_eq_true]at h;exact (of_decide_eq_true h.1).2
theorem Wq:gj rs0:=⟨by decide,by decide,by decide,by decide,by decide,by decide,by decide⟩
theorem Kr {l:List Int} {r:Int} {i:Nat}(h:d7 l r=some i):i<l.length:=by
 unfold d7 at h;exact (List.findIdx?_eq_some_iff_getElem.1 h).1
theorem a71 {r:Int} {e:El}(h:base r=[e]):0≤e.first∧e.first≤65535∧0≤e.second∧e.second≤999∧0≤e.third∧e.third≤99:=by
 unfold base at h;split at h
 .rename_i i hp
  have hl:=Kr hp;have h9:vsl.length=9:=rfl
  cases h
  simp only;omega
 .split at h
  .rename_i i hp
   have hl:=Kr hp;have a0:mkl.length=15:=rfl
   cases h
   simp only;omega
  .unfold gc at h
   split at h
   .cases h
   .split at h
    .cases h;simp only;omega
    .split at h
     .cases h;simp only;omega
     .split at h
      .cases h;simp only;omega
      .cases h
theorem Qd {st:RS} {l:List Int} {e:El}(hi:gj st) (h:fj st.es l=some e):0≤e.first∧e.first≤65535∧0≤e.second∧e.second≤999∧0≤e.third∧e.third≤99:=by
 unfold fj at h;split at h
 .obtain⟨x,hx,rfl⟩:=Option.map_eq_some_iff.1 h
  have:=(cg hi.good).2.2 x (List.mem_of_getElem? hx);omega
 .split at h
  .rename_i r _
   unfold mk at h;split at h
   .rename_i x hb
    split at h
    .cases h
    .cases h;exact a71 hb
   .cases h
  .cases h
theorem qr {st st':RS} {lev:Nat} {l:List Int}(hi:gj st) (h:d8 st lev l=.ok st'):gj st':=by
 unfold d8 at h;split at h
 .cases h
 .split at h
  .split at h
   .cases h
   .rename_i e he
    split at h
    .cases h
    .cases h
     have:=Qd hi he;exact⟨hi.good,this.1,this.2.1,this.2.2.1,this.2.2.2.1,this.2.2.2.2.1,this.2.2.2.2.2⟩
  .split at h
   .cases h
   .split at h
    .cases h
    .split at h
     .rename_i hr
      cases h
      have:=(cg hr).2.2 ⟨l,gk st.es st.last lev⟩ (by simp);exact⟨hr,by simp only at this ⊢;omega,by simp only at this ⊢;omega,by simp only at this ⊢;omega,by simp only at this ⊢;omega,by simp only at this ⊢;omega,by simp only at this ⊢;omega⟩
     .cases h
end Go.Proofs.YtjbmgghehdemdaaGreatDoor
