/- SFree -/
import Derived.Test.YtjbmgghehdemdaaGreatDoorMR9
import Derived.Test.YtjbmgghehdemdaaGreatDoorMR12
namespace Go.Proofs.YtjbmgghehdemdaaGreatDoor
set_option maxRecDepth 100000
set_option maxHeartbeats 16000000
open _root_.Go.Proofs.Tryz
open Go.RowKit
def ff (n:Int):Bool:=decide ((2000<=n/\n<=2900/\n % 100=0)\/(4000<=n/\n<=9000/\n % 200=0)\/(1<=n/\n<=9))
def du (es:List Ent) (n:Int):Bool:=!ff n && es.all fun e=>e.el.first != n
def qa (es:List Ent) (n:Int) (k:Nat):Prop:=∀ j e,j<k->es[j]? = some e->e.el.first≠n
theorem qa.succ {es:List Ent} {n:Int} {e:Ent} {k:Nat}(h:qa es n k) (d:es[k]? = some e) (b:e.el.first≠n):qa es n (k+1):=by
 intro j y f a;by_cases c:j=k
 .subst c;rw[d]at a;cases a;exact b
 .exact h j y (by omega) a
theorem ub {es:List Ent} {n:Int} {e:Ent}(a:e ∈ es) (h:e.el.first=n):du es n=false:=by
 unfold du;rw[Bool.and_eq_false_iff];refine .inr ?_;rw[List.all_eq_false];exact⟨e,a,by simp[h]⟩
theorem ua {es:List Ent} {n:Int} {k:Nat}(ht:ff n=false) (h:qa es n k) (d:es.length<=k):du es n=true:=by
 unfold du;rw[ht,Bool.not_false,Bool.true_and,List.all_eq_true];intro x b;obtain⟨j,a⟩:=List.mem_iff_getElem?.1 b;have c:=(List.getElem?_eq_some_iff.1 a).1;simpa using h j x (by omega) a
def Gg (w:World) (es:List Ent) (n:Int) (i:Value) (wr:World):Prop:=∃ k:Nat,k<=es.length/\i=.int .i64 k/\qa es n k/\Below w.heap.size w wr
theorem Uu (w:World) (B g cap:Nat) (es:List Ent) (sh:Bool) (lv n:Int) (h:ac w B (.slice (some ⟨g,0,none⟩) es.length cap) es) (q:ff n=false) (K:es.length<=1048576) (y:0<=n) (z:n<=1000000) (h0:n<2000) (h1:¬ (1<=n/\n<=9)) :
  Calls prog 106 #[.agg #[.slice (some ⟨g,0,none⟩) es.length cap,.bool sh,.int .i64 lv],.int .i64 n] w fun e w'=>e=.returned (.bool (du es n))/\Below w.heap.size w w':=by
 have o:=hZ q;clear q;have I:n<4000:=by omega
 have N:=fun w=>jn n 1 9 h1 w
 clear h1;go_enter func106,ntmps106;go_wp2_with fail;refine (N _).mono ?_;rintro H L ⟨rfl,rfl⟩;clear N;go_wp2_with fail;go_loopw [38] (fun i wr=>Gg w es n i wr) (fun i _=>es.length-(intOf i).toNat)
 case atStart=>exact⟨0,Nat.zero_le _,rfl,fun j e hj=>by omega,bY _⟩
 case round =>
  obtain⟨k,J,rfl,m,a⟩:=hrel;have b:=hZ m;clear m;by_cases u:k<es.length
  .obtain⟨e,l⟩:∃ e,es[k]? = some e:=⟨_,List.getElem?_eq_getElem u⟩
   obtain⟨x,p,C,D,E,F,G⟩:=(h.below a).cells k e l;obtain⟨r,s,xc,rfl⟩:∃ r s xc,x=.slice r s xc:=by
    rcases p.form with ⟨rfl,_⟩|⟨_,_,rfl,_,_⟩
    .exact⟨_,_,_,rfl⟩
    .exact⟨_,_,_,rfl⟩
   have A:(k:Int)<(es.length:Int):=by omega
   have d:Hid _:=l;clear l h p;by_cases c:e.el.first=n
   .have f:Hid (du es n=false):=ub (List.mem_of_getElem? d.out) c
    have v:(e.el.first == n)=true:=by simpa using c
    clear b d c;go_wp2;go_ret;rw[f.out];exact⟨rfl,a.alloc a.size _⟩
   .have t:Hid (qa es n (k+1)):=b.out.succ d.out c
    have v:(e.el.first == n)=false:=by simpa using c
    clear b d c;go_wp2;exact⟨⟨k+1,by omega,by go_num,t.out,a.alloc a.size _⟩,by simp[intOf];omega⟩
  .have f:Hid (du es n=true):=ua o.out b.out (by omega)
   clear b h o;go_wp2;go_ret;rw[f.out];exact⟨rfl,a⟩
theorem Up (w:World)  (sh:Bool) (lv n:Int) (a:0<=n) (b:n<=1000000) (h0:n<2000) (h1:¬ (1<=n/\n<=9)) :
  Calls prog 106 #[.agg #[.slice none 0 0,.bool sh,.int .i64 lv],.int .i64 n] w fun e w'=>e=.returned (.bool true)/\Below w.heap.size w w':=by
 have d:n<4000:=by omega
 have N:=fun w=>jn n 1 9 h1 w
 clear h1;go_enter func106,ntmps106;go_wp2_with fail;refine (N _).mono ?_;rintro c f ⟨rfl,rfl⟩;clear N;go_wp2_with fail;go_loop [38] (fun i=>i=.int .i64 0) (fun _=>0)
 case atStart=>rfl
 case round =>
  subst hrel;go_wp2;go_ret;exact⟨rfl,bY _⟩
theorem Uv (w:World) (B g cap:Nat) (es:List Ent) (sh:Bool) (lv n:Int) (h:ac w B (.slice (some ⟨g,0,none⟩) es.length cap) es) (r:ff n=false) (M:es.length<=1048576) (z:0<=n) (A:n<=1000000) (h0:2000<=n) (h1:n<=2900) (p:n % 100≠0) :
  Calls prog 106 #[.agg #[.slice (some ⟨g,0,none⟩) es.length cap,.bool sh,.int .i64 lv],.int .i64 n] w fun e w'=>e=.returned (.bool (du es n))/\Below w.heap.size w w':=by
 have o:=hZ r;clear r;have J:n<4000:=by omega
 have K:(n % 100 == 0)=false:=by simpa using p
 have N:=fun w=>jn n 1 9 (by omega) w
 clear p;go_enter func106,ntmps106;go_wp2_with fail;refine (N _).mono ?_;rintro I O ⟨rfl,rfl⟩;clear N;go_wp2_with fail;go_loopw [38] (fun i wr=>Gg w es n i wr) (fun i _=>es.length-(intOf i).toNat)
 case atStart=>exact⟨0,Nat.zero_le _,rfl,fun j e hj=>by omega,bY _⟩
 case round =>
  obtain⟨k,L,rfl,m,a⟩:=hrel;have b:=hZ m;clear m;by_cases v:k<es.length
  .obtain⟨e,l⟩:∃ e,es[k]? = some e:=⟨_,List.getElem?_eq_getElem v⟩
   obtain⟨x,q,D,E,F,G,H⟩:=(h.below a).cells k e l;obtain⟨s,t,xc,rfl⟩:∃ s t xc,x=.slice s t xc:=by
    rcases q.form with ⟨rfl,_⟩|⟨_,_,rfl,_,_⟩
    .exact⟨_,_,_,rfl⟩
    .exact⟨_,_,_,rfl⟩
   have C:(k:Int)<(es.length:Int):=by omega
   have d:Hid _:=l;clear l h q;by_cases c:e.el.first=n
   .have f:Hid (du es n=false):=ub (List.mem_of_getElem? d.out) c
    have y:(e.el.first == n)=true:=by simpa using c
    clear b d c;go_wp2;go_ret;rw[f.out];exact⟨rfl,a.alloc a.size _⟩
   .have u:Hid (qa es n (k+1)):=b.out.succ d.out c
    have y:(e.el.first == n)=false:=by simpa using c
    clear b d c;go_wp2;exact⟨⟨k+1,by omega,by go_num,u.out,a.alloc a.size _⟩,by simp[intOf];omega⟩
  .have f:Hid (du es n=true):=ua o.out b.out (by omega)
   clear b h o;go_wp2;go_ret;rw[f.out];exact⟨rfl,a⟩
theorem Uq (w:World)  (sh:Bool) (lv n:Int) (b:0<=n) (c:n<=1000000) (h0:2000<=n) (h1:n<=2900) (a:n % 100≠0) :
  Calls prog 106 #[.agg #[.slice none 0 0,.bool sh,.int .i64 lv],.int .i64 n] w fun e w'=>e=.returned (.bool true)/\Below w.heap.size w w':=by
 have f:n<4000:=by omega
 have g:(n % 100 == 0)=false:=by simpa using a
 have N:=fun w=>jn n 1 9 (by omega) w
 clear a;go_enter func106,ntmps106;go_wp2_with fail;refine (N _).mono ?_;rintro d h ⟨rfl,rfl⟩;clear N;go_wp2_with fail;go_loop [38] (fun i=>i=.int .i64 0) (fun _=>0)
 case atStart=>rfl
 case round =>
  subst hrel;go_wp2;go_ret;exact⟨rfl,bY _⟩
theorem Uw (w:World) (B g cap:Nat) (es:List Ent) (sh:Bool) (lv n:Int) (h:ac w B (.slice (some ⟨g,0,none⟩) es.length cap) es) (q:ff n=false) (K:es.length<=1048576) (y:0<=n) (z:n<=1000000) (h0:2900<n) (h1:n<4000) :
  Calls prog 106 #[.agg #[.slice (some ⟨g,0,none⟩) es.length cap,.bool sh,.int .i64 lv],.int .i64 n] w fun e w'=>e=.returned (.bool (du es n))/\Below w.heap.size w w':=by
 have o:=hZ q;clear q;have I:2000<=n:=by omega
 have N:=fun w=>jn n 1 9 (by omega) w
 go_enter func106,ntmps106;go_wp2_with fail;refine (N _).mono ?_;rintro H L ⟨rfl,rfl⟩;clear N;go_wp2_with fail;go_loopw [38] (fun i wr=>Gg w es n i wr) (fun i _=>es.length-(intOf i).toNat)
 case atStart=>exact⟨0,Nat.zero_le _,rfl,fun j e hj=>by omega,bY _⟩
 case round =>
  obtain⟨k,J,rfl,m,a⟩:=hrel;have b:=hZ m;clear m;by_cases u:k<es.length
  .obtain⟨e,l⟩:∃ e,es[k]? = some e:=⟨_,List.getElem?_eq_getElem u⟩
   obtain⟨x,p,C,D,E,F,G⟩:=(h.below a).cells k e l;obtain⟨r,s,xc,rfl⟩:∃ r s xc,x=.slice r s xc:=by
    rcases p.form with ⟨rfl,_⟩|⟨_,_,rfl,_,_⟩
    .exact⟨_,_,_,rfl⟩
    .exact⟨_,_,_,rfl⟩
   have A:(k:Int)<(es.length:Int):=by omega
   have d:Hid _:=l;clear l h p;by_cases c:e.el.first=n
   .have f:Hid (du es n=false):=ub (List.mem_of_getElem? d.out) c
    have v:(e.el.first == n)=true:=by simpa using c
    clear b d c;go_wp2;go_ret;rw[f.out];exact⟨rfl,a.alloc a.size _⟩
   .have t:Hid (qa es n (k+1)):=b.out.succ d.out c
    have v:(e.el.first == n)=false:=by simpa using c
    clear b d c;go_wp2;exact⟨⟨k+1,by omega,by go_num,t.out,a.alloc a.size _⟩,by simp[intOf];omega⟩
  .have f:Hid (du es n=true):=ua o.out b.out (by omega)
   clear b h o;go_wp2;go_ret;rw[f.out];exact⟨rfl,a⟩
theorem Ur (w:World)  (sh:Bool) (lv n:Int) (a:0<=n) (b:n<=1000000) (h0:2900<n) (h1:n<4000) :
  Calls prog 106 #[.agg #[.slice none 0 0,.bool sh,.int .i64 lv],.int .i64 n] w fun e w'=>e=.returned (.bool true)/\Below w.heap.size w w':=by
 have d:2000<=n:=by omega
 have N:=fun w=>jn n 1 9 (by omega) w
 go_enter func106,ntmps106;go_wp2_with fail;refine (N _).mono ?_;rintro c f ⟨rfl,rfl⟩;clear N;go_wp2_with fail;go_loop [38] (fun i=>i=.int .i64 0) (fun _=>0)
 case atStart=>rfl
 case round =>
  subst hrel;go_wp2;go_ret;exact⟨rfl,bY _⟩
theorem Ux (w:World) (B g cap:Nat) (es:List Ent) (sh:Bool) (lv n:Int) (h:ac w B (.slice (some ⟨g,0,none⟩) es.length cap) es) (r:ff n=false) (O:es.length<=1048576) (z:0<=n) (A:n<=1000000) (h0:4000<=n) (h1:n<=9000) (p:n % 200≠0) :
  Calls prog 106 #[.agg #[.slice (some ⟨g,0,none⟩) es.length cap,.bool sh,.int .i64 lv],.int .i64 n] w fun e w'=>e=.returned (.bool (du es n))/\Below w.heap.size w w':=by
 have o:=hZ r;clear r;have J:2000<=n:=by omega
 have L:2900<n:=by omega
 have K:(n % 200 == 0)=false:=by simpa using p
 have N:=fun w=>jn n 1 9 (by omega) w
 clear p;go_enter func106,ntmps106;go_wp2_with fail;refine (N _).mono ?_;rintro I P ⟨rfl,rfl⟩;clear N;go_wp2_with fail;go_loopw [38] (fun i wr=>Gg w es n i wr) (fun i _=>es.length-(intOf i).toNat)
 case atStart=>exact⟨0,Nat.zero_le _,rfl,fun j e hj=>by omega,bY _⟩
 case round =>
  obtain⟨k,M,rfl,m,a⟩:=hrel;have b:=hZ m;clear m;by_cases v:k<es.length
  .obtain⟨e,l⟩:∃ e,es[k]? = some e:=⟨_,List.getElem?_eq_getElem v⟩
   obtain⟨x,q,D,E,F,G,H⟩:=(h.below a).cells k e l;obtain⟨s,t,xc,rfl⟩:∃ s t xc,x=.slice s t xc:=by
    rcases q.form with ⟨rfl,_⟩|⟨_,_,rfl,_,_⟩
    .exact⟨_,_,_,rfl⟩
    .exact⟨_,_,_,rfl⟩
   have C:(k:Int)<(es.length:Int):=by omega
   have d:Hid _:=l;clear l h q;by_cases c:e.el.first=n
   .have f:Hid (du es n=false):=ub (List.mem_of_getElem? d.out) c
    have y:(e.el.first == n)=true:=by simpa using c
    clear b d c;go_wp2;go_ret;rw[f.out];exact⟨rfl,a.alloc a.size _⟩
   .have u:Hid (qa es n (k+1)):=b.out.succ d.out c
    have y:(e.el.first == n)=false:=by simpa using c
    clear b d c;go_wp2;exact⟨⟨k+1,by omega,by go_num,u.out,a.alloc a.size _⟩,by simp[intOf];omega⟩
  .have f:Hid (du es n=true):=ua o.out b.out (by omega)
   clear b h o;go_wp2;go_ret;rw[f.out];exact⟨rfl,a⟩
theorem Us (w:World)  (sh:Bool) (lv n:Int) (b:0<=n) (c:n<=1000000) (h0:4000<=n) (h1:n<=9000) (a:n % 200≠0) :
  Calls prog 106 #[.agg #[.slice none 0 0,.bool sh,.int .i64 lv],.int .i64 n] w fun e w'=>e=.returned (.bool true)/\Below w.heap.size w w':=by
 have f:2000<=n:=by omega
 have h:2900<n:=by omega
 have g:(n % 200 == 0)=false:=by simpa using a
 have N:=fun w=>jn n 1 9 (by omega) w
 clear a;go_enter func106,ntmps106;go_wp2_with fail;refine (N _).mono ?_;rintro d j ⟨rfl,rfl⟩;clear N;go_wp2_with fail;go_loop [38] (fun i=>i=.int .i64 0) (fun _=>0)
 case atStart=>rfl
 case round =>
  subst hrel;go_wp2;go_ret;exact⟨rfl,bY _⟩
theorem Uy (w:World) (B g cap:Nat) (es:List Ent) (sh:Bool) (lv n:Int) (h:ac w B (.slice (some ⟨g,0,none⟩) es.length cap) es) (q:ff n=false) (M:es.length<=1048576) (y:0<=n) (z:n<=1000000) (h0:9000<n) :
  Calls prog 106 #[.agg #[.slice (some ⟨g,0,none⟩) es.length cap,.bool sh,.int .i64 lv],.int .i64 n] w fun e w'=>e=.returned (.bool (du es n))/\Below w.heap.size w w':=by
 have o:=hZ q;clear q;have I:2000<=n:=by omega
 have J:2900<n:=by omega
 have K:4000<=n:=by omega
 have N:=fun w=>jn n 1 9 (by omega) w
 go_enter func106,ntmps106;go_wp2_with fail;refine (N _).mono ?_;rintro H O ⟨rfl,rfl⟩;clear N;go_wp2_with fail;go_loopw [38] (fun i wr=>Gg w es n i wr) (fun i _=>es.length-(intOf i).toNat)
 case atStart=>exact⟨0,Nat.zero_le _,rfl,fun j e hj=>by omega,bY _⟩
 case round =>
  obtain⟨k,L,rfl,m,a⟩:=hrel;have b:=hZ m;clear m;by_cases u:k<es.length
  .obtain⟨e,l⟩:∃ e,es[k]? = some e:=⟨_,List.getElem?_eq_getElem u⟩
   obtain⟨x,p,C,D,E,F,G⟩:=(h.below a).cells k e l;obtain⟨r,s,xc,rfl⟩:∃ r s xc,x=.slice r s xc:=by
    rcases p.form with ⟨rfl,_⟩|⟨_,_,rfl,_,_⟩
    .exact⟨_,_,_,rfl⟩
    .exact⟨_,_,_,rfl⟩
   have A:(k:Int)<(es.length:Int):=by omega
   have d:Hid _:=l;clear l h p;by_cases c:e.el.first=n
   .have f:Hid (du es n=false):=ub (List.mem_of_getElem? d.out) c
    have v:(e.el.first == n)=true:=by simpa using c
    clear b d c;go_wp2;go_ret;rw[f.out];exact⟨rfl,a.alloc a.size _⟩
   .have t:Hid (qa es n (k+1)):=b.out.succ d.out c
    have v:(e.el.first == n)=false:=by simpa using c
    clear b d c;go_wp2;exact⟨⟨k+1,by omega,by go_num,t.out,a.alloc a.size _⟩,by simp[intOf];omega⟩
  .have f:Hid (du es n=true):=ua o.out b.out (by omega)
   clear b h o;go_wp2;go_ret;rw[f.out];exact⟨rfl,a⟩
theorem Ut (w:World)  (sh:Bool) (lv n:Int) (a:0<=n) (b:n<=1000000) (h0:9000<n) :
  Calls prog 106 #[.agg #[.slice none 0 0,.bool sh,.int .i64 lv],.int .i64 n] w fun e w'=>e=.returned (.bool true)/\Below w.heap.size w w':=by
 have d:2000<=n:=by omega
 have f:2900<n:=by omega
 have g:4000<=n:=by omega
 have N:=fun w=>jn n 1 9 (by omega) w
 go_enter func106,ntmps106;go_wp2_with fail;refine (N _).mono ?_;rintro c h ⟨rfl,rfl⟩;clear N;go_wp2_with fail;go_loop [38] (fun i=>i=.int .i64 0) (fun _=>0)
 case atStart=>rfl
 case round =>
  subst hrel;go_wp2;go_ret;exact⟨rfl,bY _⟩
theorem Uz (w:World) (v:Value) (sh:Bool) (lv n:Int) (i:0<=n) (j:n<=1000000) (h:ff n=true) :
  Calls prog 106 #[.agg #[v,.bool sh,.int .i64 lv],.int .i64 n] w fun e w'=>e=.returned (.bool false)/\Below w.heap.size w w':=by
 rcases of_decide_eq_true h with ⟨b,c,a⟩|⟨b,c,a⟩|b
 .have d:(n % 100 == 0)=true:=by simpa using a
  clear h a;go_enter func106,ntmps106;go_wp2;go_ret;exact⟨rfl,bY _⟩
 .have d:(n % 200 == 0)=true:=by simpa using a
  have f:2000<=n:=by omega
  have g:2900<n:=by omega
  clear h a;go_enter func106,ntmps106;go_wp2;go_ret;exact⟨rfl,bY _⟩
 .have Y:=fun w=>oj n 1 9 b w
  have f:n<2000:=by omega
  have g:n<4000:=by omega
  clear h;go_enter func106,ntmps106;go_wp2_with fail;refine (Y _).mono ?_;rintro k l ⟨rfl,rfl⟩;clear Y;go_wp2;go_ret;exact⟨rfl,bY _⟩
theorem aa2 {w:World} {B:Nat} {v:Value} {es:List Ent} {sh:Bool} {lv n:Int}(d:ac w B v es) (k:es.length<=1048576) (a:0<=n) (b:n<=1000000) :
  Calls prog 106 #[.agg #[v,.bool sh,.int .i64 lv],.int .i64 n] w fun e w'=>e=.returned (.bool (du es n))/\Below w.heap.size w w':=by
 cases ht:ff n
 .have c:=of_decide_eq_false ht
  rcases d.form with ⟨rfl,rfl⟩|⟨g,f,rfl,_,_,_,_⟩
  .have o:du [] n=true:=by unfold du;rw[ht];rfl
   rw[o];by_cases l:n<2000
   .exact Up w sh lv n a b l (fun h=>c (.inr (.inr h)))
   by_cases i:n<=2900
   .exact Uq w sh lv n a b (by omega) i (fun h=>c (.inl ⟨by omega,i,h⟩))
   by_cases m:n<4000
   .exact Ur w sh lv n a b (by omega) m
   by_cases j:n<=9000
   .exact Us w sh lv n a b (by omega) j (fun h=>c (.inr (.inl ⟨by omega,j,h⟩)))
   exact Ut w sh lv n a b (by omega)
  .by_cases l:n<2000
   .exact Uu w B g f es sh lv n d ht k a b l (fun h=>c (.inr (.inr h)))
   by_cases i:n<=2900
   .exact Uv w B g f es sh lv n d ht k a b (by omega) i (fun h=>c (.inl ⟨by omega,i,h⟩))
   by_cases m:n<4000
   .exact Uw w B g f es sh lv n d ht k a b (by omega) m
   by_cases j:n<=9000
   .exact Ux w B g f es sh lv n d ht k a b (by omega) j (fun h=>c (.inr (.inl ⟨by omega,j,h⟩)))
   exact Uy w B g f es sh lv n d ht k a b (by omega)
 .have o:du es n=false:=by unfold du;rw[ht];rfl
  rw[o];exact Uz w v sh lv n a b ht
def ke (es:List Ent):Nat->Int->Int
 | 0,n=>n
 | f+1,n=>if du es n=true then n else ke es f (n+1)
theorem If {es:List Ent} {f:Nat} {n:Int}(h:du es n=true):ke es f n=n:=by
 cases f with
 | zero=>rfl
 | succ f=>exact if_pos h
theorem Bj {es:List Ent} {n:Int}(h:du es n=false) (a:n<65536):ke es (65536-n).toNat n=ke es (65536-(n+1)).toNat (n+1):=by
 rw[show (65536-n).toNat=(65536-(n+1)).toNat+1 by omega];exact if_neg (by simp[h])
theorem xi {es:List Ent}(a:∀ e ∈ es,e.el.first<=65535):du es 65536=true:=by
 unfold du;rw[show ff 65536=false by decide,Bool.not_false,Bool.true_and,List.all_eq_true];intro x b;have:=a x b;simp;omega
def kg (u:World) (s:Nat) (v:Value) (sh:Bool) (lv:Int) (e:El):Prop:=u.heap[s]? = some (.cells #[v,.bool sh,.int .i64 lv] 56)/\u.heap[s+1]? = some (.cells #[.int .i64 e.first,.int .i64 e.second,.int .i64 e.third,.bool e.varies] 111)/\u.heap[s+1+1]? = some (.cells #[.int .i64 0,.int .i64 0,.int .i64 0,.bool false] 111)
theorem kg.sizes {u:World} {s:Nat} {v:Value} {sh:Bool} {lv:Int} {e:El}(h:kg u s v sh lv e):s<u.heap.size/\s+1<u.heap.size/\s+1+1<u.heap.size :=
 ⟨(Array.getElem?_eq_some_iff.1 h.1).1,(Array.getElem?_eq_some_iff.1 h.2.1).1,(Array.getElem?_eq_some_iff.1 h.2.2).1⟩
theorem kg.rules {u:World} {s:Nat} {v:Value} {sh:Bool} {lv:Int} {e:El}(h:kg u s v sh lv e):u.cell? ⟨s,0,none⟩=some v/\u.cell? ⟨s,1,none⟩=some (.bool sh)/\u.cell? ⟨s,2,none⟩=some (.int .i64 lv) :=
 ⟨cell_of_row _ _ 0 _ _ _ h.1,cell_of_row _ _ 1 _ _ _ h.1,cell_of_row _ _ 2 _ _ _ h.1⟩
theorem kg.elem {u:World} {s:Nat} {v:Value} {sh:Bool} {lv:Int} {e:El}(h:kg u s v sh lv e):u.cell? ⟨s+1,0,none⟩=some (.int .i64 e.first)/\u.cell? ⟨s+1,1,none⟩=some (.int .i64 e.second)/\u.cell? ⟨s+1,2,none⟩=some (.int .i64 e.third)/\u.cell? ⟨s+1,3,none⟩=some (.bool e.varies) :=
 ⟨cell_of_row _ _ 0 _ _ _ h.2.1,cell_of_row _ _ 1 _ _ _ h.2.1,cell_of_row _ _ 2 _ _ _ h.2.1,cell_of_row _ _ 3 _ _ _ h.2.1⟩
theorem kg.result {u:World} {s:Nat} {v:Value} {sh:Bool} {lv:Int} {e:El}(h:kg u s v sh lv e):u.cell? ⟨s+1+1,0,none⟩=some (.int .i64 0)/\u.cell? ⟨s+1+1,1,none⟩=some (.int .i64 0)/\u.cell? ⟨s+1+1,2,none⟩=some (.int .i64 0)/\u.cell? ⟨s+1+1,3,none⟩=some (.bool false)/\∀ j,u.frozen? ⟨s+1+1,j,none⟩=false :=
 ⟨cell_of_row _ _ 0 _ _ _ h.2.2,cell_of_row _ _ 1 _ _ _ h.2.2,cell_of_row _ _ 2 _ _ _ h.2.2,cell_of_row _ _ 3 _ _ _ h.2.2,fun j=>by simp[World.frozen?,h.2.2]⟩
theorem kg.below {u u':World} {s:Nat} {v:Value} {sh:Bool} {lv:Int} {e:El}(h:kg u s v sh lv e) (a:Below u.heap.size u u'):kg u' s v sh lv e:=by
 have b:=h.sizes;exact⟨by rw[a.block _ b.1];exact h.1,by rw[a.block _ b.2.1];exact h.2.1,by rw[a.block _ b.2.2];exact h.2.2⟩
theorem Ad (w:World) (v:Value) (sh:Bool) (lv:Int) (e:El):kg (((w.alloc (.cells #[v,.bool sh,.int .i64 lv] 56)).alloc (.cells #[.int .i64 e.first,.int .i64 e.second,.int .i64 e.third,.bool e.varies] 111)).alloc (.cells #[.int .i64 0,.int .i64 0,.int .i64 0,.bool false] 111)) w.heap.size v sh lv e:=by
 refine⟨?_,?_,?_⟩
 .rw[Below.heap_alloc _ _ _ (by simp;omega),Below.heap_alloc _ _ _ (by simp)];exact heap_alloc_new w _
 .rw[Below.heap_alloc _ _ _ (by simp)];exact heap_alloc2_new w _ _
 .have:=heap_alloc_new ((w.alloc (.cells #[v,.bool sh,.int .i64 lv] 56)).alloc (.cells #[.int .i64 e.first,.int .i64 e.second,.int .i64 e.third,.bool e.varies] 111)) (.cells #[.int .i64 0,.int .i64 0,.int .i64 0,.bool false] 111)
  simpa using this
theorem ux (w:World) (v:Value) (sh:Bool) (lv:Int) (e:El):Below w.heap.size w (((w.alloc (.cells #[v,.bool sh,.int .i64 lv] 56)).alloc (.cells #[.int .i64 e.first,.int .i64 e.second,.int .i64 e.third,.bool e.varies] 111)).alloc (.cells #[.int .i64 0,.int .i64 0,.int .i64 0,.bool false] 111)) :=
 (((Below.refl w.heap.size w).alloc bR _).alloc (by simp) _).alloc (by simp;omega) _
theorem uy {w wr:World}(h:Below w.heap.size w wr) (x y z t:Value):Below w.heap.size w ((((wr.setCell ⟨w.heap.size+1+1,0,none⟩ x).setCell ⟨w.heap.size+1+1,1,none⟩ y).setCell ⟨w.heap.size+1+1,2,none⟩ z).setCell ⟨w.heap.size+1+1,3,none⟩ t) :=
 (((h.setCell (show w.heap.size<=w.heap.size+1+1 by omega) _).setCell (show w.heap.size<=w.heap.size+1+1 by omega) _).setCell (show w.heap.size<=w.heap.size+1+1 by omega) _).setCell (show w.heap.size<=w.heap.size+1+1 by omega) _
def ax5 (w:World) (v:Value) (sh:Bool) (lv:Int) (e:El) (es:List Ent) (N:Int) (i:Value) (wr:World):Prop:=∃ m:Int,i=.int .i64 m/\0<=m/\m<=65536/\ke es (65536-m).toNat m=N/\kg wr w.heap.size v sh lv e/\Below w.heap.size w wr
theorem Q0 {w:World} {B:Nat} {v:Value} {es:List Ent} {sh:Bool} {lv:Int} {e:El}(r:ac w B v es) (A:es.length<=1048576) (h:∀ e ∈ es,e.el.first<=65535) (h0:0<=e.first) (h1:e.first<=65535) :
  Calls prog 58 #[.agg #[v,.bool sh,.int .i64 lv],.agg #[.int .i64 e.first,.int .i64 e.second,.int .i64 e.third,.bool e.varies],.int .i64 1] w fun x w'=>x=.returned (elV ⟨ke es (65535-e.first).toNat (e.first+1),32,2,false⟩)/\Below w.heap.size w w':=by
 have b:Hid (Below _ _ _):=ux w v sh lv e;have f:Hid (kg _ _ _ _ _ _):=Ad w v sh lv e;have p:Hid (ac _ _ _ _):=r;obtain⟨N,a⟩:∃ N,Hid (ke es (65535-e.first).toNat (e.first+1)=N):=⟨_,rfl⟩
 rw[a.out];have l:Hid (ke es (65536-(e.first+1)).toNat (e.first+1)=N):=by
  show _=_
  rw[show 65536-(e.first+1)=65535-e.first by omega];exact a.out
 clear r a;go_enter func58,ntmps58;go_wp2_with fail;go_loopw [7] (fun i wr=>ax5 w v sh lv e es N i wr) (fun i _=>(65536-intOf i).toNat)
 case atStart=>exact⟨e.first+1,rfl,by omega,by omega,l.out,f.out,b.out⟩
 case round =>
  clear l f b;obtain⟨m,rfl,C,I,s,k,j⟩:=hrel;have a:=hZ s;have o:=aa2 (sh:=sh) (lv:=lv) (n:=m) (p.out.below j) A C (by omega);obtain⟨D,E,F⟩:=k.rules;have f:Hid (kg _ _ _ _ _ _):=k;have b:Hid _:=j;clear s k j p;go_wp2_with fail;refine o.mono ?_;rintro G O ⟨rfl,g⟩;have d:=f.out.below g;have q:=b.out.trans (g.mono b.out.size);clear o D E F g f b
  cases hf:du es m
  .have z:m<65536:=by
    by_cases c:m=65536
    .subst c;rw[xi h]at hf;cases hf
    .omega
   have t:Hid (ke es (65536-(m+1)).toNat (m+1)=N):=(Bj hf z).symm.trans a.out;clear a hf h;have u:Hid (kg _ _ _ _ _ _):=d;clear d;go_wp2;exact⟨⟨m+1,by go_num,by omega,by omega,t.out,u.out,q⟩,by simp[intOf];omega⟩
  .have y:m=N:=(If hf).symm.trans a.out
   subst y;obtain⟨M,q1,q2,q3,H⟩:=d.result;obtain⟨J,K,L⟩:=d.sizes;clear a hf h d;go_wp2;refine bodyPost_ret (v:=.agg #[.int .i64 m,.int .i64 32,.int .i64 2,.bool false]) ?_ rfl ⟨rfl,uy q _ _ _ _⟩;rw[av rfl];go_simp
def o7 (p:Int->Bool) (nx:Int->Int):Nat->Int->Int
 | 0,n=>n
 | f+1,n=>if p n=true then o7 p nx f (nx n) else n
theorem a46 {p:Int->Bool} {nx:Int->Int} {f:Nat} {n:Int}(h:p n=false):o7 p nx f n=n:=by
 cases f with
 | zero=>rfl
 | succ f=>exact if_neg (by simp[h])
def jt (p:Int->Bool) (nx:Int->Int) (M n N:Int):Prop:=∃ f:Nat,M-n<(f:Int)/\o7 p nx f n=N
theorem jt.next {p:Int->Bool} {nx:Int->Int} {M n N:Int}(h:jt p nx M n N) (c:p n=true) (d:n<=M) (e:n<nx n):jt p nx M (nx n) N:=by
 obtain⟨f,a,b⟩:=h
 cases f with
 | zero=>exfalso;simp at a;omega
 | succ f =>
  refine⟨f,by omega,?_⟩;rw[<- b];exact (if_pos c).symm
theorem jt.last {p:Int->Bool} {nx:Int->Int} {M n N:Int}(h:jt p nx M n N) (b:p n=false):n=N:=by
 obtain⟨f,_,a⟩:=h;rw[<- a,a46 b]
def kh (es:List Ent) (q:El->Bool) (k:Nat):Prop:=∀ j e,j<k->es[j]? = some e->q e.el=false
theorem kh.succ {es:List Ent} {q:El->Bool} {e:Ent} {k:Nat}(h:kh es q k) (d:es[k]? = some e) (b:q e.el=false):kh es q (k+1):=by
 intro j y f a;by_cases c:j=k
 .subst c;rw[d]at a;cases a;exact b
 .exact h j y (by omega) a
def d6 (es:List Ent) (q:El->Bool):Bool:=es.any fun e=>q e.el
theorem sf {es:List Ent} {q:El->Bool} {e:Ent} {k:Nat}(a:es[k]? = some e) (h:q e.el=true):d6 es q=true:=List.any_eq_true.2 ⟨e,List.mem_of_getElem? a,h⟩
theorem qp {es:List Ent} {q:El->Bool} {k:Nat}(h:kh es q k) (c:es.length<=k):d6 es q=false:=by
 refine List.any_eq_false.2 fun x hx=>?_
 obtain⟨j,a⟩:=List.mem_iff_getElem?.1 hx;have b:=(List.getElem?_eq_some_iff.1 a).1;simp[h j x (by omega) a]
def q2 (e:El) (n:Int) (x:El):Bool:=x.first == e.first && x.second == n
def q3 (e:El) (n:Int) (x:El):Bool:=(x.first == e.first && x.second == e.second) && x.third == n
def nx2 (n:Int):Int:=n+1
def nx3 (n:Int):Int:=if n+1=8 then n+1+1 else n+1
def zm (es:List Ent) (e:El):El:=⟨e.first,o7 (fun n=>d6 es (q2 e n)) nx2 1001 (e.second+1),2,false⟩
def qm (es:List Ent) (e:El):El:=⟨e.first,e.second,o7 (fun n=>d6 es (q3 e n)) nx3 1001 (nx3 e.third),false⟩
def Tk (w:World) (v:Value) (sh:Bool) (lv:Int) (e:El) (es:List Ent) (q:Int->El->Bool) (nx:Int->Int) (N:Int) (i j:Value) (wr:World):Prop :=
 ∃ (m:Int) (k:Nat),i=.int .i64 m/\j=.int .i64 k/\(0<=m/\m<=1002/\k<=es.length)/\kh es (q m) k/\jt (fun n=>d6 es (q n)) nx 1000 m N/\kg wr w.heap.size v sh lv e/\Below w.heap.size w wr
theorem Q1 {w:World} {B:Nat} {v:Value} {es:List Ent} {sh:Bool} {lv:Int} {e:El}(H:ac w B v es) (hn:es.length<=40) (I:∀ x ∈ es,x.el.second<=999) (h0:0<=e.second) (h1:e.second<=999) :
  Calls prog 58 #[.agg #[v,.bool sh,.int .i64 lv],.agg #[.int .i64 e.first,.int .i64 e.second,.int .i64 e.third,.bool e.varies],.int .i64 2] w fun x w'=>x=.returned (elV (zm es e))/\Below w.heap.size w w':=by
 obtain⟨a,c,rfl⟩:∃ a c,v=.slice a es.length c:=by
  rcases H.form with ⟨rfl,rfl⟩|⟨g,P,rfl,_,_,_,_⟩
  .exact⟨_,_,rfl⟩
  .exact⟨_,_,rfl⟩
 have K:Hid (Below _ _ _):=ux w (.slice a es.length c) sh lv e;have l:Hid (kg _ _ _ _ _ _):=Ad w (.slice a es.length c) sh lv e;have r:Hid (ac _ _ _ _):=H;unfold zm;obtain⟨N,G⟩:∃ N,Hid (o7 (fun n=>d6 es (q2 e n)) nx2 1001 (e.second+1)=N):=⟨_,rfl⟩
 rw[G.out];have J:Hid (jt (fun n=>d6 es (q2 e n)) nx2 1000 (e.second+1) N):=⟨1001,by omega,G.out⟩;clear H G;go_enter func58,ntmps58;go_wp2_with fail;go_loopw [8,9] (fun i j wr=>Tk w (.slice a es.length c) sh lv e es (q2 e) nx2 N i j wr) (fun i j _=>(1003-intOf i).toNat*100+(50-(intOf j).toNat))
 case atStart=>exact⟨e.second+1,0,rfl,rfl,⟨by omega,by omega,by omega⟩,fun j x hj=>by omega,J.out,l.out,K.out⟩
 case round =>
  clear J l K;obtain⟨m,k,rfl,rfl,⟨m0,m1,Z⟩,M,L,o,q⟩:=hrel;have b:Hid (kh _ _ _):=M;have f:Hid (jt _ _ _ _ _):=L;have l:Hid (kg _ _ _ _ _ _):=o;obtain⟨p0,p1,p2⟩:=o.rules;obtain⟨s0,s1,s2,s3⟩:=o.elem;obtain⟨z0,z1,z2,z3,Y⟩:=o.result;obtain⟨n0,n1,n2⟩:=o.sizes;clear M L o;by_cases F:k<es.length
  .obtain⟨x,t⟩:∃ x,es[k]? = some x:=⟨_,List.getElem?_eq_getElem F⟩
   have E:=I x (List.mem_of_getElem? t);rcases r.out.form with ⟨_,h⟩|⟨g,P,h,_,_,_,_⟩
   .rw[h]at F;simp at F
   .cases h
    obtain⟨y,R,T,U,V,W,X⟩:=(r.out.below q).cells k x t;have Q:(k:Int)<(es.length:Int):=by omega
    have A:Hid (kg _ _ _ _ _ _):=l.out.below ((Below.refl wr.heap.size wr).alloc bR (.cells #[.int .i64 x.el.first,.int .i64 x.el.second,.int .i64 x.el.third,.bool x.el.varies] 111));have u:Hid _:=q.alloc q.size (.cells #[.int .i64 x.el.first,.int .i64 x.el.second,.int .i64 x.el.third,.bool x.el.varies] 111);have d:Hid _:=t;clear R t r I l q;by_cases p:x.el.first=e.first
    .have C:(x.el.first == e.first)=true:=by simpa using p
     by_cases s:x.el.second=m
     .have D:(x.el.second == m)=true:=by simpa using s
      have O:Hid (jt (fun n=>d6 es (q2 e n)) nx2 1000 (m+1) N):=f.out.next (sf d.out (by show (_ && _)=true;rw[C,D];rfl)) (by omega) (by show m<m+1;omega)
      have m2:m<=999:=by omega
      clear b f d p s E;go_wp2;exact⟨⟨m+1,0,by go_num,by go_num,⟨by omega,by omega,by omega⟩,fun j x hj=>by omega,O.out,A.out,u.out⟩,by simp[intOf];omega⟩
     .have D:(x.el.second == m)=false:=by simpa using s
      have z:Hid (kh es (q2 e m) (k+1)):=b.out.succ d.out (by show (_ && _)=false;rw[D,Bool.and_false]);clear b d p s E;go_wp2;exact⟨⟨m,k+1,by go_num,by go_num,⟨by omega,by omega,by omega⟩,z.out,f.out,A.out,u.out⟩,by simp[intOf];omega⟩
    .have C:(x.el.first == e.first)=false:=by simpa using p
     have z:Hid (kh es (q2 e m) (k+1)):=b.out.succ d.out (by show (_ && _)=false;rw[C,Bool.false_and]);clear b d p E;go_wp2;exact⟨⟨m,k+1,by go_num,by go_num,⟨by omega,by omega,by omega⟩,z.out,f.out,A.out,u.out⟩,by simp[intOf];omega⟩
  .have S:m=N:=f.out.last (qp b.out (by omega))
   subst S;have Q:¬ (k:Int)<(es.length:Int):=by omega
   clear b f l r I;go_wp2;refine bodyPost_ret (v:=.agg #[.int .i64 e.first,.int .i64 m,.int .i64 2,.bool false]) ?_ rfl ⟨rfl,uy q _ _ _ _⟩;rw[av rfl];go_simp
theorem O9 (n:Int) (h:n+1=8):nx3 n=n+1+1:=if_pos h
theorem Oa (n:Int) (h:n+1≠8):nx3 n=n+1:=if_neg h
theorem Cq (n:Int):n<nx3 n:=by unfold nx3;split <;> omega
theorem Q3 {w:World} {B:Nat} {v:Value} {es:List Ent} {sh:Bool} {lv:Int} {e:El}(O:ac w B v es) (hn:es.length<=40) (P:∀ x ∈ es,x.el.third<=99) (M:e.third+1=8) :
  Calls prog 58 #[.agg #[v,.bool sh,.int .i64 lv],.agg #[.int .i64 e.first,.int .i64 e.second,.int .i64 e.third,.bool e.varies],.int .i64 3] w fun x w'=>x=.returned (elV (qm es e))/\Below w.heap.size w w':=by
 obtain⟨a,c,rfl⟩:∃ a c,v=.slice a es.length c:=by
  rcases O.form with ⟨rfl,rfl⟩|⟨g,V,rfl,_,_,_,_⟩
  .exact⟨_,_,rfl⟩
  .exact⟨_,_,rfl⟩
 have R:Hid (Below _ _ _):=ux w (.slice a es.length c) sh lv e;have o:Hid (kg _ _ _ _ _ _):=Ad w (.slice a es.length c) sh lv e;have D:Hid (ac _ _ _ _):=O;unfold qm;obtain⟨N,L⟩:∃ N,Hid (o7 (fun n=>d6 es (q3 e n)) nx3 1001 (nx3 e.third)=N):=⟨_,rfl⟩
 rw[L.out];have Q:Hid (jt (fun n=>d6 es (q3 e n)) nx3 1000 (e.third+1+1) N):=⟨1001,by omega,by rw[<- O9 _ M];exact L.out⟩;have W:(e.third+1 == 8)=true:=by simpa using M
 clear O L;go_enter func58,ntmps58;go_wp2_with fail;go_loopw [11,12] (fun i j wr=>Tk w (.slice a es.length c) sh lv e es (q3 e) nx3 N i j wr) (fun i j _=>(1003-intOf i).toNat*100+(50-(intOf j).toNat))
 case atStart=>exact⟨e.third+1+1,0,by rw[show e.third+1+1=9 by omega],rfl,⟨by omega,by omega,by omega⟩,fun j x hj=>by omega,Q.out,o.out,R.out⟩
 case round =>
  clear Q o R M W;obtain⟨m,k,rfl,rfl,⟨m0,m1,hk⟩,T,S,r,A⟩:=hrel;have b:Hid (kh _ _ _):=T;have f:Hid (jt _ _ _ _ _):=S;have o:Hid (kg _ _ _ _ _ _):=r;obtain⟨p0,p1,p2⟩:=r.rules;obtain⟨s0,s1,s2,s3⟩:=r.elem;obtain⟨z0,z1,z2,z3,f0⟩:=r.result;obtain⟨n0,n1,n2⟩:=r.sizes;clear T S r;by_cases K:k<es.length
  .obtain⟨x,F⟩:∃ x,es[k]? = some x:=⟨_,List.getElem?_eq_getElem K⟩
   have C:=P x (List.mem_of_getElem? F);rcases D.out.form with ⟨_,h⟩|⟨g,V,h,_,_,_,_⟩
   .rw[h]at K;simp at K
   .cases h
    obtain⟨y,Y,a0,a1,a2,a3,a4⟩:=(D.out.below A).cells k x F;have X:(k:Int)<(es.length:Int):=by omega
    have u:Hid (kg _ _ _ _ _ _):=o.out.below ((Below.refl wr.heap.size wr).alloc bR (.cells #[.int .i64 x.el.first,.int .i64 x.el.second,.int .i64 x.el.third,.bool x.el.varies] 111));have s:Hid _:=A.alloc A.size (.cells #[.int .i64 x.el.first,.int .i64 x.el.second,.int .i64 x.el.third,.bool x.el.varies] 111);have d:Hid _:=F;clear Y F D P o A;by_cases p:x.el.first=e.first
    .have H:(x.el.first == e.first)=true:=by simpa using p
     by_cases z:x.el.second=e.second
     .have I:(x.el.second == e.second)=true:=by simpa using z
      by_cases E:x.el.third=m
      .have J:(x.el.third == m)=true:=by simpa using E
       have l:Hid (jt (fun n=>d6 es (q3 e n)) nx3 1000 (nx3 m) N):=f.out.next (sf d.out (by show (_ && _)=true;rw[H,I,J];rfl)) (by omega) (Cq m)
       have m2:m<=99:=by omega
       clear b f d p z E C;by_cases q:m+1=8
       .have U:(m+1 == 8)=true:=by simpa using q
        have G:Hid (jt (fun n=>d6 es (q3 e n)) nx3 1000 (m+1+1) N):=by rw[O9 m q]at l;exact l
        clear l q;go_wp2;exact⟨⟨m+1+1,0,by go_num,by go_num,⟨by omega,by omega,by omega⟩,fun j x hj=>by omega,G.out,u.out,s.out⟩,by simp[intOf];omega⟩
       .have U:(m+1 == 8)=false:=by simpa using q
        have G:Hid (jt (fun n=>d6 es (q3 e n)) nx3 1000 (m+1) N):=by rw[Oa m q]at l;exact l
        clear l q;go_wp2;exact⟨⟨m+1,0,by go_num,by go_num,⟨by omega,by omega,by omega⟩,fun j x hj=>by omega,G.out,u.out,s.out⟩,by simp[intOf];omega⟩
      .have J:(x.el.third == m)=false:=by simpa using E
       have t:Hid (kh es (q3 e m) (k+1)):=b.out.succ d.out (by show (_ && _)=false;rw[J,Bool.and_false]);clear b d p z E C;go_wp2;exact⟨⟨m,k+1,by go_num,by go_num,⟨by omega,by omega,by omega⟩,t.out,f.out,u.out,s.out⟩,by simp[intOf];omega⟩
     .have I:(x.el.second == e.second)=false:=by simpa using z
      have t:Hid (kh es (q3 e m) (k+1)):=b.out.succ d.out (by show ((_ && _) && _)=false;rw[I,Bool.and_false,Bool.false_and]);clear b d p z C;go_wp2;exact⟨⟨m,k+1,by go_num,by go_num,⟨by omega,by omega,by omega⟩,t.out,f.out,u.out,s.out⟩,by simp[intOf];omega⟩
    .have H:(x.el.first == e.first)=false:=by simpa using p
     have t:Hid (kh es (q3 e m) (k+1)):=b.out.succ d.out (by show ((_ && _) && _)=false;rw[H,Bool.false_and,Bool.false_and]);clear b d p C;go_wp2;exact⟨⟨m,k+1,by go_num,by go_num,⟨by omega,by omega,by omega⟩,t.out,f.out,u.out,s.out⟩,by simp[intOf];omega⟩
  .have Z:m=N:=f.out.last (qp b.out (by omega))
   subst Z;have X:¬ (k:Int)<(es.length:Int):=by omega
   clear b f o D P;go_wp2;refine bodyPost_ret (v:=.agg #[.int .i64 e.first,.int .i64 e.second,.int .i64 m,.bool false]) ?_ rfl ⟨rfl,uy A _ _ _ _⟩;rw[av rfl];go_simp
theorem Q4 {w:World} {B:Nat} {v:Value} {es:List Ent} {sh:Bool} {lv:Int} {e:El}(O:ac w B v es) (hn:es.length<=40) (P:∀ x ∈ es,x.el.third<=99) (h0:0<=e.third) (h1:e.third<=99) (M:e.third+1≠8) :
  Calls prog 58 #[.agg #[v,.bool sh,.int .i64 lv],.agg #[.int .i64 e.first,.int .i64 e.second,.int .i64 e.third,.bool e.varies],.int .i64 3] w fun x w'=>x=.returned (elV (qm es e))/\Below w.heap.size w w':=by
 obtain⟨a,c,rfl⟩:∃ a c,v=.slice a es.length c:=by
  rcases O.form with ⟨rfl,rfl⟩|⟨g,V,rfl,_,_,_,_⟩
  .exact⟨_,_,rfl⟩
  .exact⟨_,_,rfl⟩
 have R:Hid (Below _ _ _):=ux w (.slice a es.length c) sh lv e;have o:Hid (kg _ _ _ _ _ _):=Ad w (.slice a es.length c) sh lv e;have D:Hid (ac _ _ _ _):=O;unfold qm;obtain⟨N,L⟩:∃ N,Hid (o7 (fun n=>d6 es (q3 e n)) nx3 1001 (nx3 e.third)=N):=⟨_,rfl⟩
 rw[L.out];have Q:Hid (jt (fun n=>d6 es (q3 e n)) nx3 1000 (e.third+1) N):=⟨1001,by omega,by rw[<- Oa _ M];exact L.out⟩;have W:(e.third+1 == 8)=false:=by simpa using M
 clear O L;go_enter func58,ntmps58;go_wp2_with fail;go_loopw [11,12] (fun i j wr=>Tk w (.slice a es.length c) sh lv e es (q3 e) nx3 N i j wr) (fun i j _=>(1003-intOf i).toNat*100+(50-(intOf j).toNat))
 case atStart=>exact⟨e.third+1,0,rfl,rfl,⟨by omega,by omega,by omega⟩,fun j x hj=>by omega,Q.out,o.out,R.out⟩
 case round =>
  clear Q o R M W;obtain⟨m,k,rfl,rfl,⟨m0,m1,hk⟩,T,S,r,A⟩:=hrel;have b:Hid (kh _ _ _):=T;have f:Hid (jt _ _ _ _ _):=S;have o:Hid (kg _ _ _ _ _ _):=r;obtain⟨p0,p1,p2⟩:=r.rules;obtain⟨s0,s1,s2,s3⟩:=r.elem;obtain⟨z0,z1,z2,z3,f0⟩:=r.result;obtain⟨n0,n1,n2⟩:=r.sizes;clear T S r;by_cases K:k<es.length
  .obtain⟨x,F⟩:∃ x,es[k]? = some x:=⟨_,List.getElem?_eq_getElem K⟩
   have C:=P x (List.mem_of_getElem? F);rcases D.out.form with ⟨_,h⟩|⟨g,V,h,_,_,_,_⟩
   .rw[h]at K;simp at K
   .cases h
    obtain⟨y,Y,a0,a1,a2,a3,a4⟩:=(D.out.below A).cells k x F;have X:(k:Int)<(es.length:Int):=by omega
    have u:Hid (kg _ _ _ _ _ _):=o.out.below ((Below.refl wr.heap.size wr).alloc bR (.cells #[.int .i64 x.el.first,.int .i64 x.el.second,.int .i64 x.el.third,.bool x.el.varies] 111));have s:Hid _:=A.alloc A.size (.cells #[.int .i64 x.el.first,.int .i64 x.el.second,.int .i64 x.el.third,.bool x.el.varies] 111);have d:Hid _:=F;clear Y F D P o A;by_cases p:x.el.first=e.first
    .have H:(x.el.first == e.first)=true:=by simpa using p
     by_cases z:x.el.second=e.second
     .have I:(x.el.second == e.second)=true:=by simpa using z
      by_cases E:x.el.third=m
      .have J:(x.el.third == m)=true:=by simpa using E
       have l:Hid (jt (fun n=>d6 es (q3 e n)) nx3 1000 (nx3 m) N):=f.out.next (sf d.out (by show (_ && _)=true;rw[H,I,J];rfl)) (by omega) (Cq m)
       have m2:m<=99:=by omega
       clear b f d p z E C;by_cases q:m+1=8
       .have U:(m+1 == 8)=true:=by simpa using q
        have G:Hid (jt (fun n=>d6 es (q3 e n)) nx3 1000 (m+1+1) N):=by rw[O9 m q]at l;exact l
        clear l q;go_wp2;exact⟨⟨m+1+1,0,by go_num,by go_num,⟨by omega,by omega,by omega⟩,fun j x hj=>by omega,G.out,u.out,s.out⟩,by simp[intOf];omega⟩
       .have U:(m+1 == 8)=false:=by simpa using q
        have G:Hid (jt (fun n=>d6 es (q3 e n)) nx3 1000 (m+1) N):=by rw[Oa m q]at l;exact l
        clear l q;go_wp2;exact⟨⟨m+1,0,by go_num,by go_num,⟨by omega,by omega,by omega⟩,fun j x hj=>by omega,G.out,u.out,s.out⟩,by simp[intOf];omega⟩
      .have J:(x.el.third == m)=false:=by simpa using E
       have t:Hid (kh es (q3 e m) (k+1)):=b.out.succ d.out (by show (_ && _)=false;rw[J,Bool.and_false]);clear b d p z E C;go_wp2;exact⟨⟨m,k+1,by go_num,by go_num,⟨by omega,by omega,by omega⟩,t.out,f.out,u.out,s.out⟩,by simp[intOf];omega⟩
     .have I:(x.el.second == e.second)=false:=by simpa using z
      have t:Hid (kh es (q3 e m) (k+1)):=b.out.succ d.out (by show ((_ && _) && _)=false;rw[I,Bool.and_false,Bool.false_and]);clear b d p z C;go_wp2;exact⟨⟨m,k+1,by go_num,by go_num,⟨by omega,by omega,by omega⟩,t.out,f.out,u.out,s.out⟩,by simp[intOf];omega⟩
    .have H:(x.el.first == e.first)=false:=by simpa using p
     have t:Hid (kh es (q3 e m) (k+1)):=b.out.succ d.out (by show ((_ && _) && _)=false;rw[H,Bool.false_and,Bool.false_and]);clear b d p C;go_wp2;exact⟨⟨m,k+1,by go_num,by go_num,⟨by omega,by omega,by omega⟩,t.out,f.out,u.out,s.out⟩,by simp[intOf];omega⟩
  .have Z:m=N:=f.out.last (qp b.out (by omega))
   subst Z;have X:¬ (k:Int)<(es.length:Int):=by omega
   clear b f o D P;go_wp2;refine bodyPost_ret (v:=.agg #[.int .i64 e.first,.int .i64 e.second,.int .i64 m,.bool false]) ?_ rfl ⟨rfl,uy A _ _ _ _⟩;rw[av rfl];go_simp
theorem Q2 {w:World} {B:Nat} {v:Value} {es:List Ent} {sh:Bool} {lv:Int} {e:El}(b:ac w B v es) (d:es.length<=40) (c:∀ x ∈ es,x.el.third<=99) (h0:0<=e.third) (h1:e.third<=99) :
  Calls prog 58 #[.agg #[v,.bool sh,.int .i64 lv],.agg #[.int .i64 e.first,.int .i64 e.second,.int .i64 e.third,.bool e.varies],.int .i64 3] w fun x w'=>x=.returned (elV (qm es e))/\Below w.heap.size w w':=by
 by_cases a:e.third+1=8
 .exact Q3 b d c a
 .exact Q4 b d c h0 h1 a
structure RS where
 es:List Ent
 sh:Bool
 lv:Int
 last:El
 reset:Bool
def jl:List UInt8:=[91,115,104,105,102,116,101,100,93]
def jp:List UInt8:=[91,108,101,118,101,108,115]
def ma (x:ByteArray):Option Nat :=
 if x.toList == [38] then some 0 else if x.toList == [60] then some 1 else if x.toList == [60,60] then some 2 else if x.toList == [60,60,60] then some 3 else none
def rk (y:ByteArray):Option Int :=
 if y.size=2/\49<=Dec.bt y 0/\Dec.bt y 0<=52/\Dec.bt y 1=93 then some ((Dec.bt y 0:Int)-48) else none
def gk (es:List Ent) (e:El):Nat->El
 | 1=>⟨ke es (65535-e.first).toNat (e.first+1),32,2,false⟩
 | 2=>zm es e
 | _=>qm es e
def d8 (st:RS) (lev:Nat) (l:List Int):Except Int RS :=
 if bd l=false then .error 2
 else if lev=0 then
  match fj st.es l with
  | none=>.error 3
  | some e=>if e.varies=true then .error 3 else .ok { st with last:=e,reset:=true }
 else if st.reset=false then .error 3
 else if 0<=atE st.es l then .error 4
 else if ay (st.es++[⟨l,gk st.es st.last lev⟩]) st.lv=true then .ok { st with es:=st.es++[⟨l,gk st.es st.last lev⟩],last:=gk st.es st.last lev }
 else .error 5
def bf:List ByteArray->RS->Except Int RS
 | [],st=>.ok st
 | x::ws,st =>
  if x.toList == jl then bf ws { st with sh:=true }
  else if x.toList == jp then
   match ws with
   | []=>.error 2
   | y::ws'=>match rk y with
    | none=>.error 2
    | some n=>bf ws' { st with lv:=n }
  else match ma x with
   | none=>.error 2
   | some lev=>match ws with
    | []=>.error 2
    | y::ws'=>if 200<y.size then .error 2 else match d8 st lev (nD (Dec.decT y.size y).1) with
     | .error c=>.error c
     | .ok st'=>bf ws' st'
def rs0:RS:=⟨[],false,3,⟨0,0,0,false⟩,false⟩
structure RA where
 es:List Ent
 sh:Bool
 lv:Int
 code:Int
def Wc:Except Int RS->RA
 | .ok st=>⟨st.es,st.sh,st.lv,0⟩
 | .error c=>⟨[],false,0,c⟩
def aa (s:ByteArray):RA:=if 300<s.size then ⟨[],false,0,1⟩ else Wc (bf (rx s) rs0)
structure gj (st:RS):Prop where
 good:ay st.es st.lv=true
 f0:0<=st.last.first
 f1:st.last.first<=65535
 s0:0<=st.last.second
 s1:st.last.second<=999
 t0:0<=st.last.third
 t1:st.last.third<=99
theorem cg {es:List Ent} {lv:Int}(h:ay es lv=true):es.length<=40/\(1<=lv/\lv<=4)/\∀ e ∈ es,bd e.runes=true/\(1<=e.el.first/\e.el.first<=65535)/\(32<=e.el.second/\e.el.second<=999)/\(2<=e.el.third/\e.el.third<=99)/\e.el.varies=false:=by
 have c:=of_decide_eq_true h;refine⟨c.1,c.2.1,fun e he=>?_⟩;obtain⟨i,a⟩:=List.mem_iff_getElem?.1 he;have:=(vh es).1 c.2.2 i e a;unfold mo at this;simp only[Bool.and_eq_true,decide_eq_true_eq,Bool.not_eq_true']at this;exact⟨this.1,this.2.2.1,this.2.2.2.1,this.2.2.2.2.1,this.2.2.2.2.2⟩
theorem Bd {es:List Ent} {lv a:Int}(h:ay es lv=true) (b:1<=a/\a<=4):ay es a=true:=by
 have c:=of_decide_eq_true h;exact decide_eq_true ⟨c.1,b,c.2.2⟩
theorem eg {l:List Int}(h:bd l=true):l.length<=4:=by
 unfold bd at h;rw[Bool.and_eq_true]at h;exact (of_decide_eq_true h.1).2
theorem Wr:gj rs0:=⟨by decide,by decide,by decide,by decide,by decide,by decide,by decide⟩
theorem Kr {l:List Int} {r:Int} {i:Nat}(h:d7 l r=some i):i<l.length:=by
 unfold d7 at h;exact (List.findIdx?_eq_some_iff_getElem.1 h).1
theorem a72 {r:Int} {e:El}(h:base r=[e]):0<=e.first/\e.first<=65535/\0<=e.second/\e.second<=999/\0<=e.third/\e.third<=99:=by
 unfold base at h;split at h
 .rename_i i hp
  have a:=Kr hp;have c:vsl.length=9:=rfl
  cases h
  simp only;omega
 .split at h
  .rename_i i hp
   have a:=Kr hp;have b:mkl.length=15:=rfl
   cases h
   simp only;omega
  .unfold gc at h
   split at h
   .cases h
   .split at h
    .cases h;simp only;omega
    .split at h
     .cases h;simp only;omega
     .split at h
      .cases h;simp only;omega
      .cases h
theorem Qd {st:RS} {l:List Int} {e:El}(hi:gj st) (h:fj st.es l=some e):0<=e.first/\e.first<=65535/\0<=e.second/\e.second<=999/\0<=e.third/\e.third<=99:=by
 unfold fj at h;split at h
 .obtain⟨x,a,rfl⟩:=Option.map_eq_some_iff.1 h
  have:=(cg hi.good).2.2 x (List.mem_of_getElem? a);omega
 .split at h
  .rename_i r _
   unfold mk at h;split at h
   .rename_i x hb
    split at h
    .cases h
    .cases h;exact a72 hb
   .cases h
  .cases h
theorem qr {st st':RS} {lev:Nat} {l:List Int}(hi:gj st) (h:d8 st lev l=.ok st'):gj st':=by
 unfold d8 at h;split at h
 .cases h
 .split at h
  .split at h
   .cases h
   .rename_i e he
    split at h
    .cases h
    .cases h
     have:=Qd hi he;exact⟨hi.good,this.1,this.2.1,this.2.2.1,this.2.2.2.1,this.2.2.2.2.1,this.2.2.2.2.2⟩
  .split at h
   .cases h
   .split at h
    .cases h
    .split at h
     .rename_i hr
      cases h
      have:=(cg hr).2.2 ⟨l,gk st.es st.last lev⟩ (by simp);exact⟨hr,by simp only at this ⊢;omega,by simp only at this ⊢;omega,by simp only at this ⊢;omega,by simp only at this ⊢;omega,by simp only at this ⊢;omega,by simp only at this ⊢;omega⟩
     .cases h
def firstOf (r:Int):Int:=match mk (base r) with
 | some e=>e.first
 | none=>0
theorem Mw:((List.range 127).all fun k=>match mk (base (k:Int)) with|some e=>ff e.first|none=>true)=true:=by kernel_rfl
theorem ai7 {k:Nat} {e:El}(a:k<127) (h:mk (base (k:Int))=some e):ff e.first=true:=by
 have:=List.all_eq_true.1 Mw k (List.mem_range.2 a);rw[h]at this;exact this
theorem Hv {e:El}(h:e.first≠0):mk [e]=some e:=if_neg h
theorem a60 {n:Int}(h:ff n=true):∃ (k:Nat) (e:El),k<127/\mk (base (k:Int))=some e/\e.first=n:=by
 rcases of_decide_eq_true h with ⟨a,b,c⟩|⟨a,b,c⟩|h
 .obtain⟨k,f⟩:∃ k:Nat,(k:Int)=48+(n-2000) / 100:=⟨(48+(n-2000) / 100).toNat,by omega⟩
  refine⟨k,⟨2000+100*((k:Int)-48),32,2,false⟩,by omega,?_,by simp only;omega⟩;rw[Gt (by omega)];exact Hv (by simp only;omega)
 .obtain⟨k,f⟩:∃ k:Nat,(k:Int)=97+(n-4000) / 200:=⟨(97+(n-4000) / 200).toNat,by omega⟩
  refine⟨k,⟨4000+200*((k:Int)-97),32,2,false⟩,by omega,?_,by simp only;omega⟩;rw[Gu (by omega)];exact Hv (by simp only;omega)
 .have d:n=1\/n=2\/n=3\/n=4\/n=5\/n=6\/n=7\/n=8\/n=9:=by omega
  rcases d with rfl|rfl|rfl|rfl|rfl|rfl|rfl|rfl|rfl
  .exact⟨32,⟨1,32,2,true⟩,by omega,rfl,rfl⟩
  .exact⟨95,⟨2,32,2,true⟩,by omega,rfl,rfl⟩
  .exact⟨45,⟨3,32,2,true⟩,by omega,rfl,rfl⟩
  .exact⟨44,⟨4,32,2,true⟩,by omega,rfl,rfl⟩
  .exact⟨59,⟨5,32,2,true⟩,by omega,rfl,rfl⟩
  .exact⟨58,⟨6,32,2,true⟩,by omega,rfl,rfl⟩
  .exact⟨33,⟨7,32,2,true⟩,by omega,rfl,rfl⟩
  .exact⟨63,⟨8,32,2,true⟩,by omega,rfl,rfl⟩
  .exact⟨46,⟨9,32,2,true⟩,by omega,rfl,rfl⟩
def qv (n:Int) (k:Nat):Prop:=∀ j e,j<k->mk (base (j:Int))=some e->e.first≠n
theorem qv.succ {n:Int} {k:Nat}(h:qv n k) (b:∀ e,mk (base (k:Int))=some e->e.first≠n):qv n (k+1):=by
 intro j e d a;by_cases c:j=k
 .subst c;exact b e a
 .exact h j e (by omega) a
theorem qv.all {n:Int} {k:Nat}(h:qv n k) (f:127<=k):ff n=false:=by
 cases c:ff n
 .rfl
 .obtain⟨j,e,d,a,b⟩:=a60 c
  exact absurd b (h j e (by omega) a)
def wdB (l:List UInt8):ByteArray:=⟨(dn l).1.toArray⟩
def wdR (l:List UInt8):List UInt8:=(dn l).2
theorem Ja {l:List UInt8}(h:(dn l).1=[]):wf l []=[]:=by rw[Th,if_pos h]
theorem wq {l:List UInt8}(h:(dn l).1≠[]):wf l []=wdB l::wf (wdR l) []:=by rw[Th,if_neg h];rfl
def jOk (x:ByteArray):Bool:=decide (x.size<=200) && bd (nD (Dec.decT x.size x).1)
def nc (st:RS) (lev:Nat) (x:ByteArray):Except Int RS:=if 200<x.size then .error 2 else d8 st lev (nD (Dec.decT x.size x).1)
def si (st:RS) (x:ByteArray):Except Int RS:=match rk x with
 | none=>.error 2
 | some n=>.ok { st with lv:=n }
theorem ae9 {st:RS} {lev:Nat} {l:List Int}(h:bd l=false):d8 st lev l=.error 2:=if_pos h
theorem J4 {st:RS} {lev:Nat} {x:ByteArray}(h:jOk x=false):nc st lev x=.error 2:=by
 unfold nc;split
 .rfl
 .rename_i c
  unfold jOk at h;rw[decide_eq_true (show x.size<=200 by omega),Bool.true_and]at h;exact ae9 h
theorem Oj {st:RS} {lev:Nat} {x:ByteArray}(h:jOk x=true):nc st lev x=d8 st lev (nD (Dec.decT x.size x).1):=by
 unfold nc;unfold jOk at h;rw[Bool.and_eq_true]at h;rw[if_neg (by have:=of_decide_eq_true h.1;omega)]
theorem af2 {st:RS} {lev:Nat} {l:List UInt8}(h:(dn l).1=[]):nc st lev (wdB l)=.error 2:=by
 apply J4
 unfold jOk wdB;rw[h];rfl
theorem ac7 {st:RS} {l:List UInt8}(h:(dn l).1=[]):si st (wdB l)=.error 2:=by
 have e:rk (wdB l)=none:=by
  unfold wdB rk;rw[h];rfl
 unfold si;rw[e]
theorem a19 {l:List UInt8} {st:RS}(h:(dn l).1=[]):bf (wf l []) st=.ok st:=by
 rw[Ja h];rfl
theorem Rm {l:List UInt8} {st:RS}(h:(dn l).1≠[]) (a:((wdB l).toList == jl)=true):bf (wf l []) st=bf (wf (wdR l) []) { st with sh:=true }:=by
 rw[wq h];conv=>lhs;unfold bf
 rw[if_pos a]
theorem Om {l:List UInt8} {st:RS}(h:(dn l).1≠[]) (h1:((wdB l).toList == jl)=false) (b:((wdB l).toList == jp)=true) :
  bf (wf l []) st=match si st (wdB (wdR l)) with
   | .error c=>.error c
   | .ok st'=>bf (wf (wdR (wdR l)) []) st':=by
 rw[wq h];by_cases a:(dn (wdR l)).1=[]
 .rw[Ja a,ac7 a]
  conv=>lhs;unfold bf
  rw[if_neg (by simp[h1]),if_pos b]
 .rw[wq a]
  conv=>lhs;unfold bf
  rw[if_neg (by simp[h1]),if_pos b];simp only;unfold si
  cases rk (wdB (wdR l)) <;> rfl
theorem af4 {l:List UInt8} {st:RS} {lev:Nat}(h:(dn l).1≠[]) (h1:((wdB l).toList == jl)=false) (h2:((wdB l).toList == jp)=false) (b:ma (wdB l)=some lev) :
  bf (wf l []) st=match nc st lev (wdB (wdR l)) with
   | .error c=>.error c
   | .ok st'=>bf (wf (wdR (wdR l)) []) st':=by
 rw[wq h];by_cases a:(dn (wdR l)).1=[]
 .rw[Ja a,af2 a]
  conv=>lhs;unfold bf
  rw[if_neg (by simp[h1]),if_neg (by simp[h2]),b]
 .rw[wq a]
  conv=>lhs;unfold bf
  rw[if_neg (by simp[h1]),if_neg (by simp[h2]),b];simp only;unfold nc;split
  .rfl
  .cases d8 st lev (nD (Dec.decT (wdB (wdR l)).size (wdB (wdR l))).1) <;> rfl
theorem a21 {l:List UInt8} {st:RS}(h:(dn l).1≠[]) (h1:((wdB l).toList == jl)=false) (h2:((wdB l).toList == jp)=false) (a:ma (wdB l)=none):bf (wf l []) st=.error 2:=by
 rw[wq h];conv=>lhs;unfold bf
 rw[if_neg (by simp[h1]),if_neg (by simp[h2]),a]
theorem W8 {st:RS} {lev:Nat} {l:List Int} {c:Int}(h:d8 st lev l=.error c):c≠0:=by
 unfold d8 at h;split at h
 .cases h;decide
 .split at h
  .split at h
   .cases h;decide
   .split at h
    .cases h;decide
    .cases h
  .split at h
   .cases h;decide
   .split at h
    .cases h;decide
    .split at h
     .cases h
     .cases h;decide
theorem af1 {st st':RS} {lev:Nat} {x:ByteArray}(hi:gj st) (h:nc st lev x=.ok st'):gj st':=by
 unfold nc at h;split at h
 .cases h
 .exact qr hi h
theorem Zt {x:ByteArray} {n:Int}(h:rk x=some n):1<=n/\n<=4:=by
 unfold rk at h;split at h
 .cases h;omega
 .cases h
theorem ac5 {st st':RS} {x:ByteArray}(hi:gj st) (h:si st x=.ok st'):gj st':=by
 unfold si at h;split at h
 .cases h
 .rename_i n hn
  cases h
  exact⟨Bd hi.good (Zt hn),hi.f0,hi.f1,hi.s0,hi.s1,hi.t0,hi.t1⟩
theorem a43 {st:RS}(hi:gj st):gj { st with sh:=true }:=⟨hi.good,hi.f0,hi.f1,hi.s0,hi.s1,hi.t0,hi.t1⟩
theorem ac2 (x:ByteArray):rk x=if x.toList == [49,93] then some 1 else if x.toList == [50,93] then some 2 else if x.toList == [51,93] then some 3 else if x.toList == [52,93] then some 4 else none:=by
 obtain⟨⟨l⟩⟩:=x;have e:(⟨⟨l⟩⟩:ByteArray).toList=l:=by rw[ByteArray.toList_eq]
 rw[e];unfold rk;match l with
 | []=>rfl
 | [_] =>
  rw[if_neg (fun h=>by have:=h.1;simp[ByteArray.size]at this)];simp
 | [a,c] =>
  have A:(⟨⟨[a,c]⟩⟩:ByteArray).size=2:=rfl;have s:Dec.bt ⟨⟨[a,c]⟩⟩ 0=a.toNat:=rfl;have u:Dec.bt ⟨⟨[a,c]⟩⟩ 1=c.toNat:=rfl;rw[A,s,u];have d:∀ (p:UInt8) (n:Nat),n<256->(p=UInt8.ofNat n↔p.toNat=n):=fun p n hn=>by
   constructor
   .intro h;rw[h];simp;omega
   .intro h;rw[<- h];simp
  have q:(c=93)↔c.toNat=93:=d c 93 (by omega);have i:(a=49)↔a.toNat=49:=d a 49 (by omega);have j:(a=50)↔a.toNat=50:=d a 50 (by omega);have m:(a=51)↔a.toNat=51:=d a 51 (by omega);have o:(a=52)↔a.toNat=52:=d a 52 (by omega);have f:∀ k:UInt8,([a,c] == [k,93])=decide (a=k/\c=93):=fun k=>by
   rw[Bool.eq_iff_iff];simp
  rw[f,f,f,f];by_cases g:c.toNat=93
  .have b:=q.2 g
   by_cases q1:a.toNat=49
   .simp[b,i.2 q1]
   .by_cases q2:a.toNat=50
    .simp[b,j.2 q2]
    .by_cases q3:a.toNat=51
     .simp[b,m.2 q3]
     .by_cases r:a.toNat=52
      .simp[b,o.2 r]
      .have v:¬ a=49:=fun h=>q1 (i.1 h)
       have w:¬ a=50:=fun h=>q2 (j.1 h)
       have y:¬ a=51:=fun h=>q3 (m.1 h)
       have z:¬ a=52:=fun h=>r (o.1 h)
       rw[if_neg (by omega)];simp[v,w,y,z]
  .have b:¬ c=93:=fun h=>g (q.1 h)
   rw[if_neg (fun h=>g h.2.2.2)];simp[b]
 | _::_::_::t =>
  rw[if_neg (fun h=>by have:=h.1;simp[ByteArray.size]at this)];simp
theorem Ig {p:Int->Bool} {nx:Int->Int} {M:Int}(a:∀ n,p n=true->n<=M) (b:∀ n,n<nx n):∀ (f:Nat) (n:Int),M-n<(f:Int)->p (o7 p nx f n)=false:=by
 intro f;induction f with
 | zero =>
  intro n h
  cases c:p n
  .exact c
  .have:=a n c;omega
 | succ f ih =>
  intro n h;unfold o7;split
  .have:=b n
   exact ih (nx n) (by omega)
  .rename_i c;simpa using c
theorem Xf {es:List Ent}(a:∀ e ∈ es,e.el.first<=65535):∀ (f:Nat) (n:Int),n<=65536->65536-n<=(f:Int)->du es (ke es f n)=true:=by
 intro f;induction f with
 | zero =>
  intro n b d;have:n=65536:=by omega
  subst this;exact xi a
 | succ f ih =>
  intro n b d;unfold ke;split
  .assumption
  .rename_i c
   have:n≠65536:=fun e=>c (by rw[e];exact xi a)
   exact ih (n+1) (by omega) (by omega)
theorem Tu {st:RS} {lev:Nat}(hi:gj st) (k:lev=1\/lev=2\/lev=3):∀ e ∈ st.es,e.el≠gk st.es st.last lev:=by
 obtain⟨l,m,h⟩:=cg hi.good;intro e f c;rcases k with rfl|rfl|rfl
 .have a:=Xf (es:=st.es) (fun e f=>(h e f).2.1.2) (65535-st.last.first).toNat (st.last.first+1) (by have:=hi.f1;omega) (by have:=hi.f1;omega)
  have d:e.el.first=ke st.es (65535-st.last.first).toNat (st.last.first+1):=by rw[c];rfl
  rw[<- d]at a;unfold du at a;rw[Bool.and_eq_true]at a;have:=List.all_eq_true.1 a.2 e f;simp at this
 .have a:=Ig (p:=fun n=>d6 st.es (q2 st.last n)) (nx:=nx2) (M:=999) (fun n hn=>by
   obtain⟨x,i,b⟩:=List.any_eq_true.1 hn;unfold q2 at b;rw[Bool.and_eq_true]at b;have:=(h x i).2.2.1.2;have:=eq_of_beq b.2;omega) (fun n=>by unfold nx2;omega) 1001 (st.last.second+1) (by have:=hi.s0;omega)
  have d:e.el.first=st.last.first:=by rw[c];rfl
  have g:e.el.second=o7 (fun n=>d6 st.es (q2 st.last n)) nx2 1001 (st.last.second+1):=by rw[c];rfl
  rw[<- g]at a;have:d6 st.es (q2 st.last e.el.second)=true:=List.any_eq_true.2 ⟨e,f,by unfold q2;simp[d]⟩;rw[this]at a
  cases a
 .have a:=Ig (p:=fun n=>d6 st.es (q3 st.last n)) (nx:=nx3) (M:=99) (fun n hn=>by
   obtain⟨x,i,b⟩:=List.any_eq_true.1 hn;unfold q3 at b;rw[Bool.and_eq_true]at b;have:=(h x i).2.2.2.1.2;have:=eq_of_beq b.2;omega) Cq 1001 (nx3 st.last.third) (by have:=hi.t0;have:=Cq st.last.third;omega)
  have d:e.el.first=st.last.first:=by rw[c];rfl
  have g:e.el.second=st.last.second:=by rw[c];rfl
  have j:e.el.third=o7 (fun n=>d6 st.es (q3 st.last n)) nx3 1001 (nx3 st.last.third):=by rw[c];rfl
  rw[<- j]at a;have:d6 st.es (q3 st.last e.el.third)=true:=List.any_eq_true.2 ⟨e,f,by unfold q3;simp[d,g]⟩;rw[this]at a
  cases a
def y5 (es:List Ent):Prop:=∀ (i j:Nat) (e e':Ent),i<j->es[i]? = some e->es[j]? = some e'->e.el≠e'.el
theorem y5.snoc {es:List Ent} {x:Ent}(h:y5 es) (k:∀ e ∈ es,e.el≠x.el):y5 (es++[x]):=by
 intro i j e f d b a;have g:=(List.getElem?_eq_some_iff.1 a).1;simp at g;by_cases c:j<es.length
 .rw[List.getElem?_append_left (by omega)]at b
  rw[List.getElem?_append_left c]at a;exact h i j e f d b a
 .have:j=es.length:=by omega
  subst this;rw[List.getElem?_append_left (by omega)]at b;simp at a;subst a;exact k e (List.mem_of_getElem? b)
theorem W9 {st st':RS} {lev:Nat} {l:List Int}(hi:gj st) (hd:y5 st.es) (a:lev<=3) (h:d8 st lev l=.ok st'):y5 st'.es:=by
 unfold d8 at h;split at h
 .cases h
 .split at h
  .split at h
   .cases h
   .split at h
    .cases h
    .cases h;exact hd
  .rename_i c0
   split at h
   .cases h
   .split at h
    .cases h
    .split at h
     .cases h
      exact hd.snoc (Tu hi (by omega))
     .cases h
theorem ac4 {x:ByteArray} {lev:Nat}(h:ma x=some lev):lev<=3:=by
 unfold ma at h;repeat' split at h
 all_goals first|(cases h;omega)|cases h
theorem vz:∀ (a:List ByteArray) (st st':RS),gj st->y5 st.es->bf a st=.ok st'->y5 st'.es/\gj st'
 | [],st,st',hi,hd,h=>by
  unfold bf at h
  cases h
  exact⟨hd,hi⟩
 | x::a,st,st',hi,hd,h=>by
  unfold bf at h;split at h
  .exact vz a { st with sh:=true } st' ⟨hi.good,hi.f0,hi.f1,hi.s0,hi.s1,hi.t0,hi.t1⟩ hd h
  .split at h
   .split at h
    .cases h
    .rename_i y ws'
     split at h
     .cases h
     .rename_i n hn
      refine vz ws' { st with lv:=n } st' ⟨Bd hi.good ?_,hi.f0,hi.f1,hi.s0,hi.s1,hi.t0,hi.t1⟩ hd h;unfold rk at hn;split at hn
      .cases hn;simp only;omega
      .cases hn
   .split at h
    .cases h
    .rename_i lev hlev
     split at h
     .cases h
     .rename_i y ws'
      split at h
      .cases h
      .split at h
       .cases h
       .rename_i st2 hp
        exact vz ws' st2 st' (qr hi hp) (W9 hi hd (ac4 hlev) hp) h
theorem vv:∀ (a:List ByteArray) (st:RS) (c:Int),bf a st=.error c->c≠0
 | [],st,c,h=>by unfold bf at h;cases h
 | x::a,st,c,h=>by
  unfold bf at h;split at h
  .exact vv a _ c h
  .split at h
   .split at h
    .cases h;decide
    .rename_i y ws'
     split at h
     .cases h;decide
     .exact vv ws' _ c h
   .split at h
    .cases h;decide
    .split at h
     .cases h;decide
     .rename_i y ws'
      split at h
      .cases h;decide
      .split at h
       .rename_i k hp
        cases h
        exact W8 hp
       .exact vv ws' _ c h
theorem B0 (s:ByteArray) (h:(aa s).code=0):ay (aa s).es (aa s).lv=true/\y5 (aa s).es:=by
 unfold aa at h ⊢;split at h
 .cases h
 .rename_i c
  rw[if_neg c]
  cases e:bf (rx s) rs0 with
  | error k=>rw[e]at h;exact absurd h (vv _ _ _ e)
  | ok st =>
   have:=vz (rx s) rs0 st Wr (fun i j e e' _ h1=>by simp[rs0]at h1) e;exact⟨this.2.good,this.1⟩
end Go.Proofs.YtjbmgghehdemdaaGreatDoor
