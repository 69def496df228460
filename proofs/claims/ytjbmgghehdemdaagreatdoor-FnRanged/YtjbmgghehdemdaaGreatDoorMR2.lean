/- Ints -/
import Derived.WalkSpells
import Derived.WalkLawsBesides
import Derived.WalkSmall
import Derived.Laws.OwnMore
import Derived.Deep.QuietTactic
import Derived.BigQuiet
import Derived.BigCall
import Derived.Lib.RuneBytes
import Derived.Test.YtjbmgghehdemdaaGreatDoorMR1
import Derived.Deep.AppendLies
namespace Go.Proofs.YtjbmgghehdemdaaGreatDoor
set_option maxRecDepth 100000
set_option maxHeartbeats 16000000
open _root_.Go.Proofs.Tryz
open Go.RowKit
theorem dv:(prog.info? 3).map (fun i=>(i.zero,i.size,i.bytes))=some (some (.int .i64 0),1,8):=by kernel_rfl
def ab (w:World) (base:Nat) (v:Value) (zs:List Int):Prop:=w.ownsRow base 3 1 v zs.length (zs.map (Value.int .i64))
theorem ab.snoc {w:World} {base:Nat} {v:Value} {zs:List Int} {x:Int}(h:w.ownsRow base 3 1 v (zs.length+1) (zs.map (Value.int .i64)++[.int .i64 x])):ab w base v (zs++[x]):=by
 unfold ab;simpa using h
theorem ab.form {w:World} {B:Nat} {v:Value} {zs:List Int}(h:ab w B v zs):(v=.slice none 0 0/\zs=[])\/∃ g cap,v=.slice (some ⟨g,0,none⟩) zs.length cap/\zs.length<=cap/\cap<=maxLen:=by
 rcases h.2 with ⟨a,b⟩|⟨g,cap,f,a,b,c,d,e,_⟩
 .exact .inl ⟨a,by simpa using b⟩
 .exact .inr ⟨g,cap,a,d,e⟩
theorem ab.cell {w:World} {B:Nat} {g cap:Nat} {zs:List Int}(h:ab w B (.slice (some ⟨g,0,none⟩) zs.length cap) zs) (j:Nat) (a:j<zs.length) :
  w.cell? ⟨g,j,none⟩=some (.int .i64 (zs[j]?.getD 0)):=by
 rw[World.ownsRow.cellAt h j (by omega)];simp[a]
theorem yy (w:World) (n:Nat) (row:Option Nat):w.grownBy (w.drewN n) row:=⟨rfl,rfl,rfl,bR,fun _ _ _=>rfl⟩
theorem ab.below {w w':World} {B:Nat} {v:Value} {zs:List Int}(h:ab w B v zs) (a:Below w.heap.size w w'):ab w' B v zs :=
 World.ownsRow.kept h (row:=none) ⟨a.os,a.tape,a.output,a.size,fun k hk _=>a.block k hk⟩ (by cases h:v.ownBlock <;> simp)
def uo (w:World) (B b:Nat) (a:Option Addr) (n:Nat):Prop :=
 n=0\/∃ cb off,a=some ⟨cb,off,none⟩/\cb≠b/\cb<B/\∀ j,j<n->∃ x:Int,0<=x/\x<=255/\w.cell? ⟨cb,off+j,none⟩=some (.int .u8 x)
def Cur (w:World) (B b k:Nat):Prop :=
 ∃ (a:Option Addr) (n cap:Nat) (seed:Int),w.heap[b]? = some (.cells #[.slice a n cap,.int .i64 (k:Int),.int .u64 seed] 67 (0,0))/\b<B/\B<=w.heap.size/\n<=1048576/\0<=seed/\seed<18446744073709551616/\uo w B b a n
theorem uo.kept {w w':World} {B b:Nat} {a:Option Addr} {n:Nat}(h:uo w B b a n) (r:B<=w.heap.size){row:Option Nat}(l:w.grownBy w' row) (m:∀ k,row=some k->k=b\/B<=k):uo w' B b a n:=by
 rcases h with h|⟨c,d,rfl,f,g,i⟩
 .exact .inl h
 .refine .inr ⟨c,d,rfl,f,g,fun j hj=>?_⟩
  obtain⟨x,p,q,o⟩:=i j hj;refine⟨x,p,q,?_⟩;rw[World.cell?_of_block (w:=w) (l.block c (by omega) (fun e=>by rcases m c e.symm with h|h <;> omega))];exact o
theorem Cur.kept {w w':World} {B b k:Nat}(h:Cur w B b k){row:Option Nat}(c:w.grownBy w' row) (f:∀ k,row=some k->B<=k):Cur w' B b k:=by
 obtain⟨a,n,g,i,j,l,d,m,o,p,q⟩:=h;refine⟨a,n,g,i,?_,l,Nat.le_trans d c.size,m,o,p,q.kept d c (fun k hk=>.inr (f k hk))⟩;rw[c.block b (by omega) (fun e=>by have:=f b e.symm;omega)];exact j
theorem Cur.drewN {w:World} {B b k:Nat}(h:Cur w B b k) (n:Nat):Cur (w.drewN n) B b k:=h
theorem Cur.lt {w:World} {B b k:Nat}(h:Cur w B b k):b<B/\B<=w.heap.size:=by obtain⟨_,_,_,_,_,a,c,_⟩:=h;exact⟨a,c⟩
theorem bu {a b c:World} {row:Option Nat}(h:a.grownBy b row) (k:b.grownBy c row):a.grownBy c row:=h.trans k
theorem fd {a b c:World} {row d:Option Nat}(h:a.grownBy b row) (k:b.grownBy c d) (f:∀ j,d=some j->a.heap.size<=j):a.grownBy c row :=
 ⟨k.os.trans h.os,k.tape.trans h.tape,k.output.trans h.output,Nat.le_trans h.size k.size,fun i hi hn=>by
  rw[k.block i (Nat.lt_of_lt_of_le hi h.size) (fun e=>by have:=f i e.symm;omega)];exact h.block i hi hn⟩
theorem as5 (x:Int) (h0:0<=x) (h1:x<18446744073709551616):0<=bits .and .u64 (x / 1099511627776) 255/\bits .and .u64 (x / 1099511627776) 255<=255:=by
 have c:(2:Int) ^ 40=1099511627776:=by decide
 have g:∀ n:Int,0<=n->n<2 ^ 40->IntKind.u64.wrap n=n:=fun n a b=>by
  have e:IntKind.u64.wrap n=n % 18446744073709551616:=by simp[IntKind.wrap,IntKind.bits,IntKind.signed]
  rw[c]at b;rw[e];omega
 have h:=bits_mask .u64 40 (by decide) g 8 (by decide) (x / 1099511627776) (by omega) (by rw[c];omega);have d:(2:Int) ^ 8-1=255:=by decide
 have f:(2:Int) ^ 8=256:=by decide
 rw[d,f]at h;rw[h];omega
theorem ap9 {y:Int}(h0:0<=y) (h1:y<=255):Ending.returned (.int .i64 (wrap64 y))=.returned (.int .i64 y):=by
 have e:wrap64 y=y:=by
  unfold wrap64;omega
 rw[e]
theorem ak5 (n:Int):0<=IntKind.u64.wrap n/\IntKind.u64.wrap n<18446744073709551616:=by
 have e:IntKind.u64.wrap n=n % 18446744073709551616:=by simp[IntKind.wrap,IntKind.bits,IntKind.signed]
 rw[e];omega
theorem Mk {w:World} {B b k:Nat} {a:Option Addr} {n cap:Nat} {f:Int}(h1:w.heap[b]? = some (.cells #[.slice a n cap,.int .i64 (k:Int),.int .u64 f] 67 (0,0))) (h2:b<B) (h:B<=w.heap.size) (p:n<=1048576) (u:uo w B b a n) (s:Int) (r:0<=s) (t:s<18446744073709551616) (q c:Nat) :
  Cur ((((w.drewN q).setCell ⟨b,1,none⟩ (.int .i64 ((k:Int)+1))).setCell ⟨b,2,none⟩ (.int .u64 s)).drewN c) B b (k+1)/\w.grownBy ((((w.drewN q).setCell ⟨b,1,none⟩ (.int .i64 ((k:Int)+1))).setCell ⟨b,2,none⟩ (.int .u64 s)).drewN c) (some b):=by
 have l:=heap_setCell_same (w.drewN q) b 1 _ _ (.int .i64 ((k:Int)+1)) h1;have m:=heap_setCell_same _ b 2 _ _ (.int .u64 s) l;have g:w.grownBy ((((w.drewN q).setCell ⟨b,1,none⟩ (.int .i64 ((k:Int)+1))).setCell ⟨b,2,none⟩ (.int .u64 s)).drewN c) (some b):=by
  refine⟨rfl,rfl,rfl,by simp[World.drewN],fun i hi hn=>?_⟩;have d:i≠b:=fun e=>hn (by rw[e])
  exact (heap_setCell_other _ ⟨b,2,none⟩ i _ d).trans (heap_setCell_other _ ⟨b,1,none⟩ i _ d)
 refine⟨⟨a,n,cap,s,?_,h2,Nat.le_trans h g.size,p,r,t,u.kept h g (fun j hj=>by cases hj;exact .inl rfl)⟩,g⟩;have o:(((#[.slice a n cap,.int .i64 (k:Int),.int .u64 f]:Array Value).setIfInBounds 1 (.int .i64 ((k:Int)+1))).setIfInBounds 2 (.int .u64 s))=#[.slice a n cap,.int .i64 ((k+1:Nat):Int),.int .u64 s]:=by
  simp
 rw[<- o];exact m
theorem Fw (w:World) (B b k:Nat) (h:Cur w B b k) (L:k<=1073741824) :
  Calls prog 96 #[.pointer (some ⟨b,0,none⟩)] w fun e w'=>∃ x:Int,e=.returned (.int .i64 x)/\0<=x/\x<=255/\Cur w' B b (k+1)/\w.grownBy w' (some b):=by
 obtain⟨a,n,E,l,d,q,r,s,t,u,i⟩:=h;have y:=cell_of_row w b 0 _ _ _ d;have z:=cell_of_row w b 1 _ _ _ d;have A:=cell_of_row w b 2 _ _ _ d;simp at y z A;have I:=fun j=>frozen_of_row w b j _ _ d
 have G:Hid _:=And.intro t u;have m:Hid _:=d;have o:Hid _:=i;clear t u d;by_cases v:k<n
 .rcases i with i|⟨H,F,rfl,J,K,p⟩
  .omega
  .obtain⟨x,C,D,g⟩:=p k v
   clear p;go_enter func96,ntmps96;go_wp2;go_quiet (fail)
   go_wp2;go_quiet (fail)
   go_wp2;go_quiet (fail)
   go_wp2;go_ret;have c:=ak5 (IntKind.u64.wrap (IntKind.u64.wrap (l*6364136223846793005)+x)+1442695040888963407);have f:=Mk m.out q r s o.out _ c.1 c.2;exact⟨x,rfl,C,D,(f _ _).1,(f _ _).2⟩
 .clear i
  go_enter func96,ntmps96;go_wp2;go_quiet (fail)
  go_wp2;go_quiet (fail)
  go_wp2;go_ret;have c:=ak5 (IntKind.u64.wrap (IntKind.u64.wrap (l*6364136223846793005))+1442695040888963407);have f:=Mk m.out q r s o.out _ c.1 c.2;have g:=as5 _ c.1 c.2;exact⟨_,ap9 g.1 g.2,g.1,g.2,(f _ _).1,(f _ _).2⟩
def ed (w w':World) (B b k m:Nat):Prop:=(∃ k',k'<=k+m/\Cur w' B b k')/\w.grownBy w' (some b)
theorem ep (w:World) (B b k:Nat) (h:Cur w B b k) (p:k<=1000000000) (n:Int) (q:n<=1048576) (l:-1048576<=n) :
  Calls prog 45 #[.pointer (some ⟨b,0,none⟩),.int .i64 n] w fun e w'=>∃ x:Int,e=.returned (.int .i64 x)/\0<=x/\(x<n\/x=0)/\ed w w' B b k 2:=by
 by_cases m:n<=1
 .go_enter func45,ntmps45
  go_wp2;go_ret;exact⟨0,rfl,by omega,.inr rfl,⟨k,by omega,h⟩,World.grownBy.refl _ _⟩
 by_cases o:n<=200
 .have N:=Fw w B b k h (by omega)
  clear h;go_enter func45,ntmps45;go_wp2_with (go_at_call 96;refine N.mono ?_;rintro e w' ⟨x,rfl,i,j,a,c⟩)
  go_ret;exact⟨_,rfl,Int.emod_nonneg _ (by omega),.inl (Int.emod_lt_of_pos _ (by omega)),⟨k+1,by omega,a⟩,c⟩
 .have N:=Fw w B b k h (by omega)
  clear h;go_enter func45,ntmps45;go_wp2_with fail;refine N.mono ?_;rintro e g ⟨x,rfl,i,j,a,c⟩;clear N;go_wp2_with fail;refine (Fw g B b (k+1) a (by omega)).mono ?_;rintro e r ⟨y,rfl,s,t,d,f⟩;go_wp2;go_ret;exact⟨_,rfl,Int.emod_nonneg _ (by omega),.inl (Int.emod_lt_of_pos _ (by omega)),⟨k+1+1,by omega,d⟩,bu c f⟩
theorem uj (w:World) (B b k:Nat) (h:Cur w B b k) (d:k<=1000000000) (n:Int) (f:n<=1048576) (a:-1048576<=n) :
  Calls prog 67 #[.pointer (some ⟨b,0,none⟩),.int .i64 n] w fun e w'=>∃ x:Bool,e=.returned (.bool x)/\ed w w' B b k 2:=by
 have N:=ep w B b k h d n f a;clear h;go_enter func67,ntmps67;go_wp2_with (go_at_call 45;refine N.mono ?_;rintro e w' ⟨x,rfl,g,i,c⟩)
 go_ret;exact⟨_,rfl,c⟩
theorem qj (w:World) (B b k:Nat) (h:Cur w B b k) (p:k<=1000000000) (g m cap:Nat) (zs:List Int) (v:zs.length=m) (s:0<m) (u:m<=1048576) (n:g<w.heap.size) (i:g≠b)
  (f:∀ j,j<m->w.cell? ⟨g,j,none⟩=some (.int .i64 (zs[j]?.getD 0))) :
  Calls prog 69 #[.pointer (some ⟨b,0,none⟩),.slice (some ⟨g,0,none⟩) m cap] w fun e w'=>∃ x:Int,e=.returned (.int .i64 x)/\x ∈ zs/\ed w w' B b k 2:=by
 have N:=ep w B b k h p (m:Int) (by omega) (by omega);clear h;go_enter func69,ntmps69;go_wp2_with fail;refine N.mono ?_;rintro e w' ⟨x,rfl,q,z,d⟩;obtain⟨j,rfl⟩:=Int.eq_ofNat_of_zero_le q;have o:j<m:=by omega
 have r:(j:Int)<(m:Int):=by omega
 obtain⟨y,a⟩:∃ y,zs[j]? = some y:=⟨_,List.getElem?_eq_getElem (by omega)⟩
 have c:=f j o;rw[a]at c;have t:w'.cell? ⟨g,j,none⟩=some (.int .i64 y):=by
  rw[World.cell?_of_block (w:=w) (d.2.block g n (fun e=>i (Option.some.inj e)))];exact c
 have l:Hid _:=a;clear N f c a;go_wp2;go_ret;exact⟨y,rfl,List.mem_of_getElem? l.out,d⟩
def bp (r:Int):Bool:=decide (0<=r/\r<=1114111/\¬ (55296<=r/\r<=57343))
theorem l7 {r:Int}(h:bp r=true):0<=r/\r<=1114111/\(r<55296\/57343<r):=by
 have:=of_decide_eq_true h;omega
theorem En {r:Int}(h:bp r=false):r<0\/1114111<r\/(0<=r/\r<=1114111/\55296<=r/\r<=57343):=by
 have:=of_decide_eq_false h;omega
theorem jj {a b:Bool}(h:a=b):Ending.returned (.bool a)=.returned (.bool b):=by rw[h]
theorem Ce (r:Int) (h:bp r=true) (w:World) :
  Calls prog 223 #[.int .i64 r] w fun e w'=>e=.returned (.bool true)/\w'=w:=by
 obtain⟨b,c,a⟩:=l7 h;clear h;rcases a with a|a;all_goals
  go_enter func223,ntmps223;go_wp2;go_ret;exact⟨jj (by simp;try omega),rfl⟩
theorem Eq (r:Int) (h:bp r=false) (w:World) :
  Calls prog 223 #[.int .i64 r] w fun e w'=>e=.returned (.bool false)/\w'=w:=by
 rcases En h with a|a|⟨a,b,c,d⟩;all_goals
  clear h;go_enter func223,ntmps223;go_wp2;go_ret;exact⟨jj (by simp;try omega),rfl⟩
theorem Pf (r:Int) (h:bp r=true) (w:World) :
  Calls prog 42 #[.int .i64 r] w fun e w'=>e=.returned (.bool true)/\w'=w:=by
 obtain⟨b,c,a⟩:=l7 h;clear h;rcases a with a|a;all_goals
  go_enter func42,ntmps42;go_wp2;go_ret;exact⟨jj (by simp;try omega),rfl⟩
theorem Rt (r:Int) (h:bp r=false) (w:World) :
  Calls prog 42 #[.int .i64 r] w fun e w'=>e=.returned (.bool false)/\w'=w:=by
 rcases En h with a|a|⟨a,b,c,d⟩;all_goals
  clear h;go_enter func42,ntmps42;go_wp2;go_ret;exact⟨jj (by simp;try omega),rfl⟩
theorem Ea {w w':World}(h:Below w.heap.size w w') (row:Option Nat):w.grownBy w' row:=⟨h.os,h.tape,h.output,h.size,fun k hk _=>h.block k hk⟩
theorem an7 {w:World} {B b:Nat} {v:Value} {zs:List Int}(h:ab w B v zs) (a:b<B):v.ownBlock=none\/v.ownBlock≠some b:=by
 cases c:v.ownBlock with
 | none=>exact .inl rfl
 | some g =>
  refine .inr fun e=>?_
  have:=(World.ownsRow.lt h g c).1;have:=Option.some.inj e;omega
theorem qk (w:World) (B b k:Nat) (h:Cur w B b k) (a:k<=1000000000) (zs:List Int) (m:Nat) (d:zs.length=m) (g:0<m) (n:m<=1048576) (cs:Array Value) (f:cs=(zs.map (Value.int .i64)).toArray) :
  Calls prog 69 #[.pointer (some ⟨b,0,none⟩),.slice (some ⟨w.heap.size,0,none⟩) m m] (w.alloc (.cells cs 3)) fun e w'=>∃ x:Int,e=.returned (.int .i64 x)/\x ∈ zs/\ed w w' B b k 2:=by
 have p:=h.lt;have i:=World.grownBy_alloc w (.cells cs 3) none;have l:=h.kept i (fun k a=>by cases a);refine (qj (w.alloc (.cells cs 3)) B b k l a w.heap.size m m zs d g n (by simp) (by omega) (fun j hj=>?_)).mono ?_
 .rw[World.cell?_alloc_new,f]
  simp[d,hj]
 .rintro e w' ⟨x,rfl,o,c⟩
  exact⟨x,rfl,o,c.1,bu (World.grownBy_alloc w _ _) c.2⟩
theorem ag7 (w:World) (B b k:Nat) (h:Cur w B b k) (A:k<=900000000) :
  Calls prog 110 #[.pointer (some ⟨b,0,none⟩)] w fun e w'=>∃ x:Int,e=.returned (.int .i64 x)/\bp x=true/\ed w w' B b k 6:=by
 have N:=ep w B b k h (by omega) 8 (by omega) (by omega);clear h;go_enter func110,ntmps110;go_wp2_with fail;refine N.mono ?_;rintro e o ⟨x,rfl,C,D,⟨⟨m,v,l⟩,g⟩⟩;have s:x=0\/x=1\/x=2\/x=3\/4<=x:=by omega
 clear N;rcases s with rfl|rfl|rfl|rfl|s
 .go_wp2_with fail
  refine (qk o B b m l (by omega) [32,45,49,57,46,95] 6 rfl (by omega) (by omega) _ rfl).mono ?_;rintro e p ⟨y,rfl,a,⟨⟨f,q,c⟩,d⟩⟩;go_wp2;go_ret;exact⟨y,rfl,(by decide:∀ z ∈ [32,45,49,57,46,95],bp z=true) y a,⟨f,by omega,c⟩,bu g d⟩
 .go_wp2_with fail
  refine (qk o B b m l (by omega) [233,201,229,197,231,241,252,8491,7845,7785,226] 11 rfl (by omega) (by omega) _ rfl).mono ?_;rintro e p ⟨y,rfl,a,⟨⟨f,q,c⟩,d⟩⟩;go_wp2;go_ret;exact⟨y,rfl,(by decide:∀ z ∈ [233,201,229,197,231,241,252,8491,7845,7785,226],bp z=true) y a,⟨f,by omega,c⟩,bu g d⟩
 .go_wp2_with fail
  refine (qk o B b m l (by omega) [768,769,776,778,803,807,770,775] 8 rfl (by omega) (by omega) _ rfl).mono ?_;rintro e p ⟨y,rfl,a,⟨⟨f,q,c⟩,d⟩⟩;go_wp2;go_ret;exact⟨y,rfl,(by decide:∀ z ∈ [768,769,776,778,803,807,770,775],bp z=true) y a,⟨f,by omega,c⟩,bu g d⟩
 .go_wp2_with fail
  refine (uj o B b m l (by omega) 3 (by omega) (by omega)).mono ?_;rintro e p ⟨u,rfl,⟨⟨f,q,c⟩,d⟩⟩
  cases u
  .go_wp2_with fail
   refine (qk p B b f c (by omega) [97,98,99,104,108,122,65,67,101,111,110,97] 12 rfl (by omega) (by omega) _ rfl).mono ?_;rintro e t ⟨y,rfl,a,⟨⟨n,r,i⟩,j⟩⟩;go_wp2;go_ret;exact⟨y,rfl,(by decide:∀ z ∈ [97,98,99,104,108,122,65,67,101,111,110,97],bp z=true) y a,⟨n,by omega,i⟩,bu g (bu d j)⟩
  .go_wp2_with fail
   refine (qk p B b f c (by omega) [44032,44033,55203,4352,4449,4520,19968,1114111,128512,3,127,65533] 12 rfl (by omega) (by omega) _ rfl).mono ?_;rintro e t ⟨y,rfl,a,⟨⟨n,r,i⟩,j⟩⟩;go_wp2;go_ret;exact⟨y,rfl,(by decide:∀ z ∈ [44032,44033,55203,4352,4449,4520,19968,1114111,128512,3,127,65533],bp z=true) y a,⟨n,by omega,i⟩,bu g (bu d j)⟩
 .go_wp2_with fail
  refine (qk o B b m l (by omega) [97,98,99,104,108,122,65,67,101,111,110,97] 12 rfl (by omega) (by omega) _ rfl).mono ?_;rintro e t ⟨y,rfl,a,⟨⟨n,r,i⟩,j⟩⟩;go_wp2;go_ret;exact⟨y,rfl,(by decide:∀ z ∈ [97,98,99,104,108,122,65,67,101,111,110,97],bp z=true) y a,⟨n,by omega,i⟩,bu g j⟩
def a66 (w:World) (B b K m:Nat) (v n:Value) (wr:World):Prop :=
 ∃ (j k:Nat) (zs:List Int),n=.int .i64 j/\ab wr w.heap.size v zs/\zs.length+j<=m/\(∀ x ∈ zs,bp x=true)/\k+6*j<=K/\Cur wr B b k/\w.grownBy wr (some b)
theorem D0 (w:World) (B b k m:Nat) (h:Cur w B b k) (f:k<=800000000) (hm:m<=1000) :
  Calls prog 71 #[.pointer (some ⟨b,0,none⟩),.int .i64 (m:Int)] w fun e w'=>∃ v zs,e=.returned v/\ab w' w.heap.size v zs/\zs.length<=m/\(∀ x ∈ zs,bp x=true)/\ed w w' B b k (2+6*m):=by
 obtain⟨U,S,L,M,O⟩:=info_parts dv;have Q:=h.lt;have N:=ep w B b k h (by omega) ((m:Int)+1) (by omega) (by omega);clear h;go_enter func71,ntmps71;go_wp2_with fail;refine N.mono ?_;rintro e w1 ⟨x,rfl,E,X,⟨⟨V,J,t⟩,u⟩⟩;obtain⟨C,rfl⟩:=Int.eq_ofNat_of_zero_le E;have r:C<=m:=by omega
 clear N E X;go_wp2_with fail;go_loopw [5,6] (fun v n wr=>a66 w B b (k+2+6*m) m v n wr) (fun _ n _=>(intOf n).toNat)
 case atStart=>exact⟨C,V,[],rfl,World.ownsRow_nil _ _ _ _,by simp;omega,by simp,by omega,t,u⟩
 case round =>
  clear t u J;obtain⟨j,D,zs,rfl,c,hl,p,Y,g,a⟩:=hrel;have s:Hid _:=p;clear p;by_cases d:0<j
  .have R:=ag7 wr B b D g (by omega)
   have a1:=a.size;go_wp2_with fail;refine R.mono ?_;rintro e w3 ⟨y,rfl,A,⟨⟨W,Z,F⟩,l⟩⟩;have i:=World.ownsRow.kept c l (an7 c (by omega));have o:=bu a l;have P:Hid _:=A;have a0:=o.size;clear R c l A a g;go_wp2_with (at_builtin;refine wpList_append_own _ rfl _ _ 39 rfl w.heap.size 3 U (.int .i64 0) 1 8 underlying39 S L M O rfl (by decide) _ _ _ rfl (i.alloc _) ⟨_,0,none⟩ 1 1 [.int .i64 y] rfl rfl (cell_one_new _ _ _) (fun x hx=>by simp at hx;subst hx;rfl) (by unfold maxLen;omega) (by omega) (by simp;omega) ?_;intro v' w4 K q _)
   have H:∀ j,_=some j->B<=j:=fun j d=>Nat.le_trans Q.2 (i.lt j d).1
   have G:=(F.kept (World.grownBy_alloc _ _ none) (fun k f=>by cases f)).kept q H;have I:=fd (fd o (World.grownBy_alloc _ _ none) (fun k f=>by cases f)) q (fun j d=>(i.lt j d).1);refine⟨⟨j-1,W,zs++[y],by go_num,ab.snoc K,by simp;omega,?_,by omega,G,I⟩,by simp[intOf];omega⟩;intro z T;rcases List.mem_append.1 T with h|h
   .exact s.out z h
   .rw[List.mem_singleton.1 h];exact P.out
  .have r:j=0:=by omega
   subst r;go_wp2;go_ret;exact⟨_,zs,rfl,c,by omega,s.out,⟨D,by omega,g⟩,a⟩
theorem uh (w:World) (B b k:Nat) (h:Cur w B b k) (l:k<=1000000000) (ss:List ByteArray) (m:Nat) (v:ss.length=m) (C:0<m) (F:m<=1048576) (cs:Array Value) (o:cs=(ss.map Value.string).toArray) :
  Calls prog 70 #[.pointer (some ⟨b,0,none⟩),.slice (some ⟨w.heap.size,0,none⟩) m m] (w.alloc (.cells cs 9)) fun e w'=>∃ s:ByteArray,e=.returned (.string s)/\s ∈ ss/\ed w w' B b k 2:=by
 have E:=h.lt;have p:=World.grownBy_alloc w (.cells cs 9) none;have q:=h.kept p (fun k l=>by cases l);have N:=ep _ B b k q l (m:Int) (by omega) (by omega);have d:∀ j,j<m->(w.alloc (.cells cs 9)).cell? ⟨w.heap.size,j,none⟩=some (.string (ss[j]?.getD ByteArray.empty)):=fun j i=>by
  rw[World.cell?_alloc_new,o];simp[v,i]
 clear q p h;obtain⟨W,a⟩:∃ W,W=w.alloc (.cells cs 9):=⟨_,rfl⟩
 have r:w.heap.size<W.heap.size:=by rw[a];simp
 have t:w.grownBy W (some b):=by rw[a];exact World.grownBy_alloc w _ _
 rw[<- a]at N d ⊢;clear a o;generalize w.heap.size=g at *;go_enter func70,ntmps70;go_wp2_with fail;refine N.mono ?_;rintro e w' ⟨x,rfl,z,G,f⟩;obtain⟨j,rfl⟩:=Int.eq_ofNat_of_zero_le z;have i:j<m:=by omega
 have A:(j:Int)<(m:Int):=by omega
 obtain⟨y,n⟩:∃ y,ss[j]? = some y:=⟨_,List.getElem?_eq_getElem (by omega)⟩
 have c:=d j i;rw[n]at c;have D:w'.cell? ⟨g,j,none⟩=some (.string y):=by
  rw[World.cell?_of_block (w:=W) (f.2.block g r (fun e=>by have:=Option.some.inj e;omega))];exact c
 have u:Hid _:=n;clear N d c n;go_wp2;go_ret;exact⟨y,rfl,List.mem_of_getElem? u.out,f.1,bu t f.2⟩
def l6s:List ByteArray:=[⟨#[]⟩,⟨#[]⟩,⟨#[91,115,104,105,102,116,101,100,93,32]⟩,⟨#[91,108,101,118,101,108,115,32,50,93,32]⟩,⟨#[91,108,101,118,101,108,115,32,52,93,32,91,115,104,105,102,116,101,100,93,32]⟩,⟨#[91,108,101,118,101,108,115,32,49,93,32]⟩]
def l7s:List ByteArray:=[⟨#[99]⟩,⟨#[108]⟩,⟨#[122]⟩,⟨#[97]⟩,⟨#[110]⟩,⟨#[65]⟩,⟨#[111]⟩]
def l4s:List ByteArray:=[⟨#[60]⟩,⟨#[60,60]⟩,⟨#[60,60,60]⟩,⟨#[60]⟩]
def au7:List ByteArray:=[⟨#[99,104]⟩,⟨#[108,108]⟩,⟨#[195,165]⟩,⟨#[195,169]⟩,⟨#[67,72]⟩,⟨#[113]⟩,⟨#[97,101]⟩,⟨#[195,177]⟩,⟨#[97,98,99,100]⟩,⟨#[122,204,129]⟩,⟨#[66]⟩]
theorem b15:∀ s ∈ l6s,s.size<=21:=by decide
theorem b16:∀ s ∈ l7s,s.size<=1:=by decide
theorem b14:∀ s ∈ l4s,s.size<=3:=by decide
theorem au6:∀ s ∈ au7,s.size<=4:=by decide
def az4 (w:World) (B b K M:Nat) (sv n:Value) (wr:World):Prop :=
 ∃ (j k:Nat) (s:ByteArray),n=.int .i64 j/\j<=3/\sv=.string s/\s.size+31*j<=M/\k+20*j<=K/\Cur wr B b k/\w.grownBy wr (some b)
def aj8 (w:World) (B b K M:Nat) (sv n:Value) (wr:World):Prop :=
 ∃ (j k:Nat) (s:ByteArray),n=.int .i64 j/\j<=3/\sv=.string s/\s.size+9*j<=M/\k+4*j<=K/\Cur wr B b k/\w.grownBy wr (some b)
theorem Oq (w:World) (B b k:Nat) (h:Cur w B b k) (hk:k<=700000000) :
  Calls prog 66 #[.pointer (some ⟨b,0,none⟩)] w fun e w'=>∃ s:ByteArray,e=.returned (.string s)/\s.size<=300/\ed w w' B b k 64:=by
 have Q:=uh w B b k h (by omega) l6s 6 rfl (by omega) (by omega) _ rfl;clear h;go_enter func66,ntmps66;go_wp2_with fail;refine Q.mono ?_;rintro e w1 ⟨Z,rfl,V,⟨⟨k1,ad,u⟩,D⟩⟩;have a5:=b15 Z V;have N:=ep w1 B b k1 u (by omega) 4 (by omega) (by omega);clear Q V;go_wp2_with fail;refine N.mono ?_;rintro e w2 ⟨x,rfl,x0,x1,⟨⟨k2,a4,v⟩,E⟩⟩;obtain⟨S,rfl⟩:=Int.eq_ofNat_of_zero_le x0;have a2:S<=3:=by omega
 have F:=bu D E;clear N x0 x1 u D E;go_wp2_with fail;go_loopw [3,4] (fun sv n wr=>az4 w B b (k+64) 114 sv n wr) (fun _ n _=>(intOf n).toNat)
 case atStart=>exact⟨S,k2,Z,rfl,a2,rfl,by omega,by omega,v,F⟩
 case round =>
  clear v F a5 a4;obtain⟨j,T,d,rfl,ac,rfl,ak,ae,g,m⟩:=hrel;by_cases hj:0<j
  .have R:=uh wr B b T g (by omega) l7s 7 rfl (by omega) (by omega) _ rfl
   go_wp2_with fail;refine R.mono ?_;rintro e w4 ⟨a,rfl,W,⟨⟨k4,af,z⟩,G⟩⟩;have a6:=b16 a W;have a8:((⟨#[38,32]⟩:ByteArray)++a).size<=3:=by rw[ByteArray.size_append];show 2+a.size<=3;omega
   have a9:((⟨#[38,32]⟩:ByteArray)++a++⟨#[32]⟩).size<=4:=by rw[ByteArray.size_append];show _+1<=4;omega
   have O:=ep w4 B b k4 z (by omega) 3 (by omega) (by omega);have H:=bu m G;clear R W g m G;have aa:(d++((⟨#[38,32]⟩:ByteArray)++a++⟨#[32]⟩)).size<=d.size+4:=by rw[ByteArray.size_append];omega
   clear a8;go_wp2_with fail;refine O.mono ?_;rintro e w5 ⟨y,rfl,y0,y1,⟨⟨k5,ag,A⟩,I⟩⟩;obtain⟨p,rfl⟩:=Int.eq_ofNat_of_zero_le y0;have hi0:p<=2:=by omega
   have J:=bu H I;have r:Hid (aj8 w B b (k+64-20*(j-1)) (114-31*(j-1)) (.string (d++((⟨#[38,32]⟩:ByteArray)++a++⟨#[32]⟩))) (.int .i64 (1+(p:Int))) w5):=⟨p+1,k5,_,by go_num,by omega,rfl,by omega,by omega,A,J⟩;clear O y0 y1 z H I A J;go_wp2_with fail;go_loopw [3,5] (fun sv n wr=>aj8 w B b (k+64-20*(j-1)) (114-31*(j-1)) sv n wr) (fun _ n _=>(intOf n).toNat)
   case atStart=>exact r.out
   case round =>
    clear r a9 aa a6;obtain⟨i,U,q,rfl,ab,rfl,al,ah,l,o⟩:=hrel;by_cases hi:0<i
    .have P:=uh wr B b U l (by omega) l4s 4 rfl (by omega) (by omega) _ rfl
     go_wp2_with fail;refine P.mono ?_;rintro e w7 ⟨c,rfl,X,⟨⟨k7,ai,C⟩,K⟩⟩;have am:=b14 c X;have L:=bu o K;have t:=uh w7 B b k7 C (by omega) au7 11 rfl (by omega) (by omega) _ rfl;have ao:(c++(⟨#[32]⟩:ByteArray)).size<=4:=by rw[ByteArray.size_append];show c.size+1<=4;omega
     clear P X l o K C;go_wp2_with fail;refine t.mono ?_;rintro e w8 ⟨f,rfl,Y,⟨⟨k8,aj,a1⟩,M⟩⟩;have an:=au6 f Y;have a0:=bu L M;have ap:(c++(⟨#[32]⟩:ByteArray)++f).size<=8:=by rw[ByteArray.size_append];omega
     have aq:(c++(⟨#[32]⟩:ByteArray)++f++⟨#[32]⟩).size<=9:=by rw[ByteArray.size_append];show _+1<=9;omega
     have a7:(q++(c++(⟨#[32]⟩:ByteArray)++f++⟨#[32]⟩)).size<=q.size+9:=by rw[ByteArray.size_append];omega
     clear t Y L M;go_wp2;exact⟨⟨i-1,k8,_,by go_num,by omega,rfl,by omega,by omega,a1,a0⟩,by simp[intOf];omega⟩
    .have hi1:i=0:=by omega
     subst hi1;go_wp2;exact⟨⟨j-1,U,q,by go_num,by omega,rfl,by omega,by omega,l,o⟩,by simp[intOf];omega⟩
  .have a3:j=0:=by omega
   subst a3;go_wp2;go_ret;exact⟨d,rfl,by omega,⟨T,by omega,g⟩,m⟩
theorem Hd:∀ (xs:List Int) (r:ByteArray),xs.foldl (fun r n=>r.push (UInt8.ofNat n.toNat)) r=⟨r.data++(xs.map fun x=>x.toNat.toUInt8).toArray⟩
 | [],r=>by simp
 | x::xs,r=>by
  simp only[List.map_cons,List.foldl_cons];rw[Hd xs];simp[ByteArray.push]
theorem L1 (b j:Nat):(⟨b,0,none⟩:Addr).add j=⟨b,j,none⟩:=by
 unfold Addr.add;split
 .rename_i h;subst h;rfl
 .simp
theorem xd (w:World) (xs:List Int) (n:Nat) (d:xs.length=n) (cs:Array Value) (b:cs=(xs.map (Value.int .u8)).toArray) :
  (convert 22 9 (.slice (some ⟨w.heap.size,0,none⟩) n n)).run prog (w.alloc (.cells cs 5))=.ok (.string ⟨(xs.map fun x=>x.toNat.toUInt8).toArray⟩) (w.alloc (.cells cs 5)):=by
 subst b;rw[run_convert_bytes_string _ _ _ _ _ _ _ underlying22 underlying5 underlying9];have a:=run_loadCells_list (P:=prog) (w.alloc (.cells (xs.map (Value.int .u8)).toArray 5)) ⟨w.heap.size,0,none⟩ (xs.map (Value.int .u8)) (fun j v hj=>by
  rw[L1,World.cell?_alloc_new];simpa using hj)
 simp only[List.length_map,d]at a;rw[run_bytesToString _ _ n n xs a,Hd];have c:ByteArray.empty.data=#[]:=rfl;rw[c];simp
theorem sz (u:ByteArray) (i:Nat) (x:UInt8) (h:i<u.size):(u.extract 0 i++⟨#[x]⟩++u.extract i u.size).size=u.size+1/\(u.extract 0 i++⟨#[x]⟩++u.extract (i+1) u.size).size=u.size/\(u.extract 0 i++u.extract (i+1) u.size).size=u.size-1:=by
 have a:(⟨#[x]⟩:ByteArray).size=1:=rfl;simp only[ByteArray.size_append,ByteArray.size_extract,a];omega
def b00 (w:World) (B b K M:Nat) (tv n:Value) (wr:World):Prop :=
 ∃ (j k:Nat) (t:ByteArray),n=.int .i64 j/\tv=.string t/\t.size+j<=M/\k+6*j<=K/\Cur wr B b k/\w.grownBy wr (some b)
theorem Ie (w:World) (B b k:Nat) (h:Cur w B b k) (K:k<=800000000) (t d:ByteArray) (ht:t.size<=1000000) (a6:0<d.size) (a7:d.size<=1000) :
  Calls prog 68 #[.pointer (some ⟨b,0,none⟩),.string t,.string d] w fun e w'=>∃ t':ByteArray,e=.returned (.string t')/\t'.size<=t.size+2/\ed w w' B b k 14:=by
 have hB:=h.lt;have N:=ep w B b k h (by omega) 3 (by omega) (by omega);clear h;go_enter func68,ntmps68;go_wp2_with fail;refine N.mono ?_;rintro e w1 ⟨x,rfl,Q,Z,⟨⟨U,R,I⟩,J⟩⟩;obtain⟨O,rfl⟩:=Int.eq_ofNat_of_zero_le Q;have a1:O<=2:=by omega
 clear N Q Z;go_wp2_with fail;go_loopw [1,7] (fun tv n wr=>b00 w B b (k+14) (t.size+2) tv n wr) (fun _ n _=>(intOf n).toNat)
 case atStart=>exact⟨O,U,t,rfl,rfl,by omega,by omega,I,J⟩
 case round =>
  clear I J R;obtain⟨j,q,u,rfl,rfl,hl,a2,g,l⟩:=hrel;by_cases hj:0<j
  .by_cases hu:0<u.size
   .have P:=ep wr B b q g (by omega) (u.size:Int) (by omega) (by omega)
    go_wp2_with fail;refine P.mono ?_;rintro e Y ⟨i,rfl,M,T,⟨⟨W,a3,v⟩,C⟩⟩;obtain⟨i,rfl⟩:=Int.eq_ofNat_of_zero_le M;have p:i<u.size:=by omega
    have F:=ep Y B b W v (by omega) (d.size:Int) (by omega) (by omega);clear P M T g;go_wp2_with fail;refine F.mono ?_;rintro e s ⟨c,rfl,H,S,⟨⟨X,a4,z⟩,D⟩⟩;obtain⟨c,rfl⟩:=Int.eq_ofNat_of_zero_le H;have f:c<d.size:=by omega
    have a0:(d[c]'f).toNat<256:=(d[c]'f).toNat_lt;have V:=fun a:Int=>xd s [a] 1 rfl #[.int .u8 a] rfl
    have A:=z.kept (World.grownBy_alloc s (.cells #[.int .u8 ((d[c]'f).toNat:Int)] 5) none) (fun k K=>by cases K);have G:=ep _ B b X A (by omega) 3 (by omega) (by omega);clear F H S v z A;go_wp2_with fail;refine G.mono ?_;rintro e w5 ⟨y,rfl,y0,y1,⟨⟨r,a5,m⟩,E⟩⟩;have o:=bu l (bu C (bu D (bu (World.grownBy_alloc s _ (some b)) E)));clear G V l C D E;have L:y=0\/y=1\/2<=y:=by omega
    rcases L with rfl|rfl|L
    .go_wp2_with fail
     go_quiet (fail)
     go_wp2;exact⟨⟨j-1,r,_,by go_num,rfl,by have:=sz u i (d[c]'f) p;omega,by omega,m.drewN _,bu o (yy _ _ _)⟩,by simp[intOf];omega⟩
    .go_wp2_with fail
     go_quiet (fail)
     go_wp2;exact⟨⟨j-1,r,_,by go_num,rfl,by have:=sz u i (d[c]'f) p;omega,by omega,m.drewN _,bu o (yy _ _ _)⟩,by simp[intOf];omega⟩
    .go_wp2_with fail
     go_quiet (fail)
     go_wp2;exact⟨⟨j-1,r,_,by go_num,rfl,by have:=sz u i 0 p;omega,by omega,m.drewN _,bu o (yy _ _ _)⟩,by simp[intOf];omega⟩
   .go_wp2
    go_ret;exact⟨u,rfl,by omega,⟨q,by omega,g⟩,l⟩
  .go_wp2
   go_ret;exact⟨u,rfl,by omega,⟨q,by omega,g⟩,l⟩
theorem Lr {a b:ByteArray}(h:a=b):Ending.returned (.string a)=.returned (.string b):=by rw[h]
theorem am7 {r:Int}(h:[r]=Lib.encodeRuneZ r):(⟨#[r.toNat.toUInt8]⟩:ByteArray)=⟨(Lib.encodeRune r).toArray⟩:=by
 unfold Lib.encodeRune;rw[<- h];rfl
theorem am8 {r a b:Int}(h:[a,b]=Lib.encodeRuneZ r):(⟨#[a.toNat.toUInt8,b.toNat.toUInt8]⟩:ByteArray)=⟨(Lib.encodeRune r).toArray⟩:=by
 unfold Lib.encodeRune;rw[<- h];rfl
theorem Yw {r a b c:Int}(h:[a,b,c]=Lib.encodeRuneZ r):(⟨#[a.toNat.toUInt8,b.toNat.toUInt8,c.toNat.toUInt8]⟩:ByteArray)=⟨(Lib.encodeRune r).toArray⟩:=by
 unfold Lib.encodeRune;rw[<- h];rfl
theorem a96 {r a b c d:Int}(h:[a,b,c,d]=Lib.encodeRuneZ r):(⟨#[a.toNat.toUInt8,b.toNat.toUInt8,c.toNat.toUInt8,d.toNat.toUInt8]⟩:ByteArray)=⟨(Lib.encodeRune r).toArray⟩:=by
 unfold Lib.encodeRune;rw[<- h];rfl
theorem ap6 (r:Int) (h:bp r=true) (w:World) :
  Calls prog 93 #[.int .i64 r] w fun e w'=>e=.returned (.string ⟨(Lib.encodeRune r).toArray⟩)/\Below w.heap.size w w':=by
 obtain⟨f,k,l⟩:=l7 h;clear h;by_cases g:r<128
 .have V:=fun a:Int=>xd w [a] 1 rfl #[.int .u8 a] rfl
  go_enter func93,ntmps93;go_wp2;go_ret;exact⟨Lr (am7 (Lib.encodeRuneZ_one f (by omega)).symm),bY _⟩
 by_cases i:r<2048
 .have V:=fun a b:Int=>xd w [a,b] 2 rfl #[.int .u8 a,.int .u8 b] rfl
  go_enter func93,ntmps93;go_wp2;go_ret;exact⟨Lr (am8 (Lib.encodeRuneZ_two (by omega) (by omega)).symm),bY _⟩
 by_cases j:r<65536
 .have V:=fun a b c:Int=>xd w [a,b,c] 3 rfl #[.int .u8 a,.int .u8 b,.int .u8 c] rfl
  go_enter func93,ntmps93;go_wp2;go_ret;exact⟨Lr (Yw (Lib.encodeRuneZ_three (by omega)).symm),bY _⟩
 .have V:=fun a b c d:Int=>xd w [a,b,c,d] 4 rfl #[.int .u8 a,.int .u8 b,.int .u8 c,.int .u8 d] rfl
  go_enter func93,ntmps93;go_wp2;go_ret;exact⟨Lr (a96 (Lib.encodeRuneZ_four (by omega) (by omega)).symm),bY _⟩
def jw (zs:List Int):List UInt8:=zs.flatMap Lib.encodeRune
theorem Eg (zs:List Int) (k:Nat) (x:Int) (h:zs[k]? = some x):jw (zs.take (k+1))=jw (zs.take k)++Lib.encodeRune x:=by
 have a:k<zs.length:=(List.getElem?_eq_some_iff.1 h).1;rw[List.take_succ_eq_append_getElem a];have e:zs[k]=x:=by
  have:=List.getElem?_eq_getElem a;rw[h]at this;exact (Option.some.inj this).symm
 rw[e];simp[jw]
theorem Bm (r:Int):(Lib.encodeRune r).length<=4:=by
 unfold Lib.encodeRune;simpa using (Lib.encodeRuneZ_length r).2
theorem C9 (zs:List Int) (k:Nat):(jw (zs.take k)).length<=4*k:=by
 induction k with
 | zero=>simp[jw]
 | succ k ih =>
  by_cases h:k<zs.length
  .rw[Eg zs k zs[k] (List.getElem?_eq_getElem h)]
   have:=Bm zs[k];simp only[List.length_append];omega
  .have a:zs.take (k+1)=zs:=List.take_of_length_le (by omega)
   have b:zs.take k=zs:=List.take_of_length_le (by omega);rw[a];rw[b]at ih;omega
def ar4 (w:World) (zs:List Int) (s i:Value) (wr:World):Prop :=
 ∃ k:Nat,k<=zs.length/\i=.int .i64 k/\s=.string ⟨(jw (zs.take k)).toArray⟩/\Below w.heap.size w wr
theorem Xz (a b:List UInt8):(⟨a.toArray⟩++⟨b.toArray⟩:ByteArray)=⟨(a++b).toArray⟩:=by
 apply ByteArray.ext
 simp
theorem Nr (w:World) (g cap:Nat) (zs:List Int) (B:zs.length<=1048576) (r:g<w.heap.size)
  (c:∀ j,j<zs.length->w.cell? ⟨g,j,none⟩=some (.int .i64 (zs[j]?.getD 0))) (f:∀ x ∈ zs,bp x=true) :
  Calls prog 43 #[.slice (some ⟨g,0,none⟩) zs.length cap] w fun e w'=>e=.returned (.string ⟨(jw zs).toArray⟩)/\Below w.heap.size w w':=by
 go_enter func43,ntmps43;go_wp2;go_loopw [3,8] (fun s i wr=>ar4 w zs s i wr) (fun _ i _=>zs.length-(intOf i).toNat)
 case atStart=>exact⟨0,Nat.zero_le _,rfl,rfl,bX⟩
 case round =>
  obtain⟨k,A,rfl,rfl,b⟩:=hrel;have o:=C9 zs k;by_cases l:k<zs.length
  .obtain⟨x,a⟩:∃ x,zs[k]? = some x:=⟨_,List.getElem?_eq_getElem l⟩
   have d:=(b.cell (p:=⟨g,k,none⟩) r).trans (c k l);rw[a]at d;have z:wr.cell? ⟨g,k,none⟩=some (.int .i64 x):=d;have h:=f x (List.mem_of_getElem? a);have q:Hid _:=Eg zs k x a;have P:=fun w=>ap6 x h w
   have u:=Bm x;have v:Hid _:=c;have y:Hid _:=a;clear c d a f h;go_wp2_with (go_at_call 93;refine (P _).mono ?_;rintro e C ⟨rfl,n⟩)
   exact⟨⟨k+1,by omega,by go_num,by rw[Xz,q.out],b.trans (n.mono b.size)⟩,by simp[intOf];omega⟩
  .have t:k=zs.length:=by omega
   have m:zs.take k=zs:=List.take_of_length_le (by omega);rw[m];clear c m o;go_wp2;go_ret;exact⟨rfl,b⟩
theorem La (w:World) (a:Option Addr) (c:Nat) :
  Calls prog 43 #[.slice a 0 c] w fun e w'=>e=.returned (.string ⟨#[]⟩)/\w'=w:=by
 go_enter func43,ntmps43;go_wp2;go_loop [3,8] (fun s i=>s=.string ⟨#[]⟩/\i=.int .i64 0) (fun _ _=>0)
 case atStart=>exact⟨rfl,rfl⟩
 case round =>
  obtain⟨rfl,rfl⟩:=hrel;go_wp2;go_ret;exact⟨rfl,rfl⟩
theorem xm {w:World} {B:Nat} {v:Value} {zs:List Int}(f:zs.length<=1048576) (a:ab w B v zs) (c:∀ x ∈ zs,bp x=true) :
  Calls prog 43 #[v] w fun e w'=>e=.returned (.string ⟨(jw zs).toArray⟩)/\Below w.heap.size w w':=by
 have d:=World.ownsRow.lt a;rcases a.form with ⟨rfl,rfl⟩|⟨g,b,rfl,h,i⟩
 .refine (La w _ _).mono ?_
  rintro e w' ⟨rfl,rfl⟩;exact⟨rfl,bX⟩
 .exact Nr w g b zs f (d g rfl).2 (fun j hj=>a.cell j hj) c
theorem Ge (w:World) (B b k:Nat) (h:Cur w B b k) (p:k<=700000000) :
  Calls prog 72 #[.pointer (some ⟨b,0,none⟩)] w fun e w'=>∃ t:ByteArray,e=.returned (.string t)/\t.size<=30/\ed w w' B b k 60:=by
 have R:=D0 w B b k 7 h (by omega) (by omega);clear h;go_enter func72,ntmps72;go_wp2_with fail;refine R.mono ?_;rintro e K ⟨J,a,rfl,o,H,n,⟨⟨x,C,d⟩,i⟩⟩;have E:=xm (by omega) o n;clear R;go_wp2_with fail;refine E.mono ?_;rintro e z ⟨rfl,c⟩;have f:=d.kept (Ea c none) (fun k p=>by cases p);have j:=bu i (Ea c (some b));have G:(⟨(jw a).toArray⟩:ByteArray).size<=28:=by
  have:=C9 a 7;rw[List.take_of_length_le (by omega)]at this;show (jw a).toArray.size<=28
  simpa using this
 generalize (⟨(jw a).toArray⟩:ByteArray)=u at *;have O:=uj z B b x f (by omega) 6 (by omega) (by omega);clear E i d c f o n;go_wp2_with fail;refine O.mono ?_;rintro e A ⟨v,rfl,⟨⟨q,D,g⟩,l⟩⟩;have m:=bu j l;clear O j l
 cases v
 .go_wp2
  go_ret;exact⟨u,rfl,by omega,⟨q,by omega,g⟩,m⟩
 .go_wp2_with fail
  refine (Ie A B b q g (by omega) u _ (by omega) (by decide) (by decide)).mono ?_;rintro e L ⟨t,rfl,I,⟨⟨y,F,r⟩,s⟩⟩;go_wp2;go_ret;exact⟨t,rfl,by omega,⟨y,by omega,r⟩,bu m s⟩
structure El where
 first:Int
 second:Int
 third:Int
 varies:Bool
def elC (e:El):List Value:=[.int .i64 e.first,.int .i64 e.second,.int .i64 e.third,.bool e.varies]
def elV (e:El):Value:=.agg #[.int .i64 e.first,.int .i64 e.second,.int .i64 e.third,.bool e.varies]
def kt (es:List El):List Value:=es.flatMap elC
theorem ts (es:List El):(kt es).length=es.length*4:=by
 induction es with
 | nil=>rfl
 | cons e es ih=>show (elC e++kt es).length=_;rw[List.length_append,ih,List.length_cons];show 4+_=_;omega
theorem a89 (es:List El) (k i:Nat) (e:El) (h:es[k]? = some e) (hi:i<4):(kt es)[k*4+i]? = (elC e)[i]?:=by
 induction es generalizing k with
 | nil=>simp at h
 | cons x es ih =>
  show (elC x++kt es)[k*4+i]? = _
  cases k with
  | zero =>
   simp at h;subst h;rw[Nat.zero_mul,Nat.zero_add,List.getElem?_append_left (by show i<4;exact hi)]
  | succ k =>
   have b:es[k]? = some e:=by simpa using h
   rw[List.getElem?_append_right (by show 4<=_;omega)];have a:(k+1)*4+i-(elC x).length=k*4+i:=by show (k+1)*4+i-4=_;omega
   rw[a];exact ih k b
def ah (w:World) (B:Nat) (v:Value) (es:List El):Prop:=w.ownsRow B 111 4 v es.length (kt es)
theorem ah.form {w:World} {B:Nat} {v:Value} {es:List El}(h:ah w B v es):(v=.slice none 0 0/\es=[])\/∃ g cap,v=.slice (some ⟨g,0,none⟩) es.length cap/\es.length<=cap/\cap<=maxLen:=by
 rcases h.2 with ⟨a,b⟩|⟨g,cap,f,a,b,c,d,e,_⟩
 .exact .inl ⟨a,List.eq_nil_of_length_eq_zero b⟩
 .exact .inr ⟨g,cap,a,d,e⟩
theorem ah.cells {w:World} {B g cap:Nat} {es:List El}(h:ah w B (.slice (some ⟨g,0,none⟩) es.length cap) es) (k:Nat) (e:El) (b:es[k]? = some e) :
  w.cell? ⟨g,k*4,none⟩=some (.int .i64 e.first)/\w.cell? ⟨g,k*4+1,none⟩=some (.int .i64 e.second)/\w.cell? ⟨g,k*4+2,none⟩=some (.int .i64 e.third)/\w.cell? ⟨g,k*4+3,none⟩=some (.bool e.varies):=by
 have c:=(List.getElem?_eq_some_iff.1 b).1;have a:∀ i,i<4->w.cell? ⟨g,k*4+i,none⟩=(elC e)[i]?:=fun i hi=>by
  rw[World.ownsRow.cellAt h (k*4+i) (by omega),a89 es k i e b hi]
 exact⟨a 0 (by omega),a 1 (by omega),a 2 (by omega),a 3 (by omega)⟩
theorem ah.below {w w':World} {B:Nat} {v:Value} {es:List El}(h:ah w B v es) (a:Below w.heap.size w w'):ah w' B v es :=
 World.ownsRow.kept h (row:=none) ⟨a.os,a.tape,a.output,a.size,fun k hk _=>a.block k hk⟩ (by cases h:v.ownBlock <;> simp)
structure Ent where
 runes:List Int
 el:El
def gm (x:Value) (e:El):List Value:=[x,.int .i64 e.first,.int .i64 e.second,.int .i64 e.third,.bool e.varies]
def eu:List Value->List Ent->List Value
 | x::xs,e::es=>gm x e.el++eu xs es
 | _,_=>[]
theorem Ue (xs:List Value) (es:List Ent) (h:xs.length=es.length):(eu xs es).length=es.length*5:=by
 induction es generalizing xs with
 | nil=>cases xs with
  | nil=>rfl
  | cons x xs=>simp at h
 | cons e es ih=>cases xs with
  | nil=>simp at h
  | cons x xs =>
   show (gm x e.el++eu xs es).length=_
   rw[List.length_append,ih xs (by simpa using h),List.length_cons];show 5+_=_
   omega
theorem Yx (xs:List Value) (es:List Ent) (k i:Nat) (x:Value) (e:Ent) (b:xs[k]? = some x) (a:es[k]? = some e) (hi:i<5):(eu xs es)[k*5+i]? = (gm x e.el)[i]?:=by
 induction es generalizing xs k with
 | nil=>simp at a
 | cons e' es ih=>cases xs with
  | nil=>simp at b
  | cons x' xs =>
   show (gm x' e'.el++eu xs es)[k*5+i]? = _
   cases k with
   | zero =>
    simp at b a;subst b;subst a;rw[Nat.zero_mul,Nat.zero_add,List.getElem?_append_left (by show i<5;exact hi)]
   | succ k =>
    rw[List.getElem?_append_right (by show 5<=_;omega)];have c:(k+1)*5+i-(gm x' e'.el).length=k*5+i:=by show (k+1)*5+i-5=_;omega
    rw[c];exact ih xs k (by simpa using b) (by simpa using a)
def ac (w:World) (B:Nat) (v:Value) (es:List Ent):Prop :=
 ∃ xs:List Value,xs.length=es.length/\w.ownsRow B 117 5 v es.length (eu xs es)/\∀ (k:Nat) (e:Ent),es[k]? = some e->∃ x,xs[k]? = some x/\ab w B x e.runes
theorem ac.form {w:World} {B:Nat} {v:Value} {es:List Ent}(h:ac w B v es):(v=.slice none 0 0/\es=[])\/∃ g cap,v=.slice (some ⟨g,0,none⟩) es.length cap/\es.length<=cap/\cap<=maxLen/\g<w.heap.size/\B<=g:=by
 obtain⟨k,_,f,_⟩:=h;have i:=World.ownsRow.lt f;rcases f.2 with ⟨a,b⟩|⟨g,cap,j,rfl,b,c,d,e,_⟩
 .exact .inl ⟨a,List.eq_nil_of_length_eq_zero b⟩
 .exact .inr ⟨g,cap,rfl,d,e,(i g rfl).2,(i g rfl).1⟩
theorem ac.cells {w:World} {B g cap:Nat} {es:List Ent}(h:ac w B (.slice (some ⟨g,0,none⟩) es.length cap) es) (k:Nat) (e:Ent) (b:es[k]? = some e) :
  ∃ x,ab w B x e.runes/\w.cell? ⟨g,k*5,none⟩=some x/\w.cell? ⟨g,k*5+1,none⟩=some (.int .i64 e.el.first)/\w.cell? ⟨g,k*5+2,none⟩=some (.int .i64 e.el.second)/\w.cell? ⟨g,k*5+3,none⟩=some (.int .i64 e.el.third)/\w.cell? ⟨g,k*5+4,none⟩=some (.bool e.el.varies):=by
 obtain⟨l,n,c,d⟩:=h;obtain⟨x,j,f⟩:=d k e b;have m:=(List.getElem?_eq_some_iff.1 b).1;have a:∀ i,i<5->w.cell? ⟨g,k*5+i,none⟩=(gm x e.el)[i]?:=fun i hi=>by
  rw[World.ownsRow.cellAt c (k*5+i) (by omega),Yx l es k i x e j b hi]
 exact⟨x,f,a 0 (by omega),a 1 (by omega),a 2 (by omega),a 3 (by omega),a 4 (by omega)⟩
theorem ac.below {w w':World} {B:Nat} {v:Value} {es:List Ent}(h:ac w B v es) (a:Below w.heap.size w w'):ac w' B v es:=by
 obtain⟨i,f,b,c⟩:=h;refine⟨i,f,World.ownsRow.kept b (row:=none) ⟨a.os,a.tape,a.output,a.size,fun k hk _=>a.block k hk⟩ (by cases h:v.ownBlock <;> simp),fun k e he=>?_⟩;obtain⟨x,g,d⟩:=c k e he;exact⟨x,g,d.below a⟩
theorem ac.nil (w:World) (B:Nat):ac w B (.slice none 0 0) []:=⟨[],rfl,⟨rfl,.inl ⟨rfl,rfl⟩⟩,fun k e h=>by simp at h⟩
theorem Wp {a b:Int}(h:a=b):Ending.returned (.int .i64 a)=.returned (.int .i64 b):=by rw[h]
theorem Bt (r:Int) (w:World):Calls prog 127 #[.int .i64 r] w fun e w'=>e=.returned (.int .i64 (cls r))/\w'=w:=by
 go_enter func127,ntmps127;go_wp2;all_goals
  go_ret;refine⟨Wp ?_,rfl⟩;simp only[beq_iff_eq,beq_eq_false_iff_ne,ne_eq]at *;simp[cls, *]
def okR (zs:List Int):Bool:=decide (zs.length<=200/\∀ x ∈ zs,bp x=true)
theorem qi {zs:List Int}(h:okR zs=true):zs.length<=200/\∀ x ∈ zs,bp x=true:=of_decide_eq_true h
def A5 (zs:List Int) (k:Nat):Prop:=∀ j x,j<k->zs[j]? = some x->bp x=true
theorem A5.succ {zs:List Int} {k:Nat} {x:Int}(h:A5 zs k) (c:zs[k]? = some x) (b:bp x=true):A5 zs (k+1):=by
 intro j y d a;by_cases e:j=k
 .subst e;rw[c]at a;cases a;exact b
 .exact h j y (by omega) a
theorem A5.all {zs:List Int} {k:Nat}(h:A5 zs k) (c:¬ k<zs.length):∀ x ∈ zs,bp x=true:=by
 intro x b;obtain⟨j,a⟩:=List.mem_iff_getElem?.1 b;have:=(List.getElem?_eq_some_iff.1 a).1;exact h j x (by omega) a
theorem Ze (w:World) (a:Option Addr) (c:Nat):Calls prog 40 #[.slice a 0 c] w fun e w'=>e=.returned (.bool true)/\w'=w:=by
 go_enter func40,ntmps40;go_wp2;go_loop [7] (fun i=>i=.int .i64 0) (fun _=>0)
 case atStart=>rfl
 case round =>
  subst hrel;go_wp2;go_ret;exact⟨rfl,rfl⟩
theorem aa6 (w:World) (g cap:Nat) (zs:List Int) (t:zs.length<=1048576)
  (d:∀ j,j<zs.length->w.cell? ⟨g,j,none⟩=some (.int .i64 (zs[j]?.getD 0))) :
  Calls prog 40 #[.slice (some ⟨g,0,none⟩) zs.length cap] w fun e w'=>e=.returned (.bool (okR zs))/\w'=w:=by
 go_enter func40,ntmps40;go_wp2;go_loop [7] (fun i=>∃ k:Nat,k<=zs.length/\i=.int .i64 k/\Hid (A5 zs k)) (fun i=>zs.length-(intOf i).toNat)
 case atStart=>exact⟨0,Nat.zero_le _,rfl,fun j x hj=>by omega⟩
 case round =>
  obtain⟨k,s,rfl,m⟩:=hrel;by_cases f:k<zs.length
  .obtain⟨x,a⟩:∃ x,zs[k]? = some x:=⟨_,List.getElem?_eq_getElem f⟩
   have b:=d k f;rw[a]at b;have r:w.cell? ⟨g,k,none⟩=some (.int .i64 x):=b
   cases hgx:bp x
   .have P:=fun w=>Rt x hgx w
    have o:Hid (false=okR zs):=by
     refine (decide_eq_false fun h=>?_).symm;have:=h.2 x (List.mem_of_getElem? a);rw[hgx]at this;cases this
    clear d b a hgx;go_wp2_with (go_at_call 42;refine (P _).mono ?_;rintro e q ⟨rfl,rfl⟩)
    go_ret;exact⟨jj o.out,rfl⟩
   .have P:=fun w=>Pf x hgx w
    have n:Hid (A5 zs (k+1)):=m.out.succ a hgx;clear d b a hgx;go_wp2_with (go_at_call 42;refine (P _).mono ?_;rintro e q ⟨rfl,rfl⟩)
    exact⟨⟨k+1,by omega,by go_num,n⟩,by simp[intOf];omega⟩
  .have l:=m.out.all f
   have p:Hid (decide ((zs.length:Int)<=200)=okR zs):=by
    show _=_
    unfold okR;by_cases c:zs.length<=200
    .rw[show decide (zs.length<=200/\∀ x ∈ zs,bp x=true)=true from decide_eq_true ⟨c,l⟩];simp;omega
    .rw[show decide (zs.length<=200/\∀ x ∈ zs,bp x=true)=false from decide_eq_false (fun h=>c h.1)];simp;omega
   clear d l;go_wp2;go_ret;exact⟨jj p.out,rfl⟩
theorem aa5 {w:World} {B:Nat} {v:Value} {zs:List Int}(c:zs.length<=1048576) (a:ab w B v zs) :
  Calls prog 40 #[v] w fun e w'=>e=.returned (.bool (okR zs))/\w'=w:=by
 rcases a.form with ⟨rfl,rfl⟩|⟨g,b,rfl,d,f⟩
 .have:okR []=true:=decide_eq_true ⟨by simp,by simp⟩
  rw[this];exact Ze w _ _
 .exact aa6 w g b zs c (fun j hj=>a.cell j hj)
def as0 (w:World) (g cap:Nat) (zs:List Int) (i:Value) (wr:World):Prop :=
 ∃ k:Nat,k<=zs.length/\i=.int .i64 k/\wr.ownsRow w.heap.size 3 1 (.slice (some ⟨g,0,none⟩) zs.length cap) zs.length ((srt zs k).map (Value.int .i64))/\Below w.heap.size w wr
def ay3 (w:World) (g cap:Nat) (zs:List Int) (goal:List Int) (k:Value) (wr:World):Prop :=
 ∃ (j:Nat) (l:List Int),j<zs.length/\k=.int .i64 j/\l.length=zs.length/\wr.ownsRow w.heap.size 3 1 (.slice (some ⟨g,0,none⟩) zs.length cap) zs.length (l.map (Value.int .i64))/\Below w.heap.size w wr/\bub l j=goal
theorem ah5 (w:World) (q A:Nat) (zs:List Int) (V:0<zs.length) (hz:zs.length<=1048576) (a1:q<w.heap.size)
  (P:∀ j,j<zs.length->w.cell? ⟨q,j,none⟩=some (.int .i64 (zs[j]?.getD 0))) :
  Calls prog 92 #[.slice (some ⟨q,0,none⟩) zs.length A] w fun e w'=>∃ v,e=.returned v/\ab w' w.heap.size v (mc zs)/\Below w.heap.size w w':=by
 obtain⟨i0,hi,Y,W,X⟩:=info_parts dv;have H:=World.ownsRow_lit (base:=w.heap.size) (e:=3) (size:=1) w #[] 0 bR (by unfold maxLen;omega) rfl;go_enter func92,ntmps92;go_wp2_with (at_builtin;refine wpList_append_lies _ rfl _ _ 39 rfl w.heap.size 3 i0 (.int .i64 0) 1 8 underlying39 hi Y W X rfl (by decide) _ 0 [] rfl H ⟨q,0,none⟩ zs.length A (zs.map (Value.int .i64)) rfl (by simp) ?hn (fun x hx=>by simp at hx;obtain⟨y,_,rfl⟩:=hx;rfl) V (by unfold maxLen;omega) (by omega) (by simp) (w.heap.size+1) (by simp) ?_)
 case hn =>
  intro j a O;have f:=(List.getElem?_eq_some_iff.1 O).1;rw[P j f,O];rfl
 intro g z w1 b F S a0;have B:Below w.heap.size w w1:=Below.grown (bY _) F (by simp) (fun j f=>by cases f;exact bR);clear F S P H;go_wp2_with fail;go_loopw [12] (fun i wr=>as0 w g z zs i wr) (fun i _=>zs.length-(intOf i).toNat)
 case atStart=>exact⟨0,Nat.zero_le _,rfl,b,B⟩
 case round =>
  clear b B;obtain⟨i,hi1,rfl,b,d⟩:=hrel;by_cases U:i<zs.length
  .go_wp2_with fail
   go_loopw [5] (fun k wr=>ay3 w g z zs (srt zs (i+1)) k wr) (fun k _=>(intOf k).toNat)
   case atStart=>exact⟨i,srt zs i,U,rfl,rt zs i,b,d,rfl⟩
   case round =>
    clear b d;obtain⟨j,l,f,rfl,Q,b,d,E⟩:=hrel;have o:Hid _:=E;clear E
    cases j with
    | zero =>
     go_wp2;go_quiet (fail)
     go_wp2;have s:l=srt zs (i+1):=o.out;subst s;exact⟨⟨i+1,by omega,by go_num,b,below_drewN d _⟩,by simp[intOf];omega⟩
    | succ m =>
     have cx:=b.cellAt (m+1) (by omega);have cy:=b.cellAt m (by omega);have K:(l.map (Value.int .i64))[m+1]? = some (.int .i64 (at0 l (m+1))):=by simp[at0,Q,f]
     have L:(l.map (Value.int .i64))[m]? = some (.int .i64 (at0 l m)):=by
      have:m<l.length:=by omega
      simp[at0,this]
     rw[K]at cx;rw[L]at cy;have fx:=b.frozenAt (m+1);have fy:=b.frozenAt m;clear K L;have C:=fun r w=>Bt r w
     by_cases c:0<cls (at0 l (m+1))/\cls (at0 l (m+1))<cls (at0 l m)
     .have R:Hid _:=(zo l m c).symm.trans o.out
      have t:=(b.stored (m+1) (.int .i64 (at0 l m))).1;have u:=(t.stored m (.int .i64 (at0 l (m+1)))).1;have M:=(b.stored (m+1) (.int .i64 (at0 l m))).2;have N:=(t.stored m (.int .i64 (at0 l (m+1)))).2;have J:((l.map (Value.int .i64)).set (m+1) (.int .i64 (at0 l m))).set m (.int .i64 (at0 l (m+1)))=((l.set (m+1) (at0 l m)).set m (at0 l (m+1))).map (Value.int .i64):=by simp[List.map_set]
      rw[J]at u;have G:((l.set (m+1) (at0 l m)).set m (at0 l (m+1))).length=zs.length:=by simp[Q]
      have Z:Hid _:=And.intro u (And.intro M (And.intro N G));obtain⟨p,I⟩:=c;have D:=(b.lt g rfl).1;clear t u M N J G o b;generalize at0 l (m+1)=x at *;generalize at0 l m=y at *;go_wp2;go_quiet ((go_at_call 127;exact Calls.quiet_of_same (C _ _)))
      go_wp2;have n:=Z.out;exact⟨⟨m,_,by omega,by go_num,n.2.2.2,n.1,below_drewN (Below.grown (Below.grown d n.2.1 (d.size) (fun j f=>by cases f;exact D)) n.2.2.1 (Nat.le_trans d.size n.2.1.size) (fun j f=>by cases f;exact D)) _,R.out⟩,by simp[intOf]⟩
     .have s:l=srt zs (i+1):=(oe l m c).symm.trans o.out
      clear o;generalize at0 l (m+1)=x at *;generalize at0 l m=y at *;by_cases p:0<cls x
      .have I:¬ cls x<cls y:=fun h=>c ⟨p,h⟩
       have d2:decide (cls x<cls y)=false:=by simpa using I
       clear c;go_wp2;go_quiet ((go_at_call 127;exact Calls.quiet_of_same (C _ _)))
       go_wp2;subst s;exact⟨⟨i+1,by omega,by go_num,b,below_drewN d _⟩,by simp[intOf];omega⟩
      .have d1:decide (0<cls x)=false:=by simpa using p
       clear c p;go_wp2;go_quiet ((go_at_call 127;exact Calls.quiet_of_same (C _ _)))
       go_wp2;subst s;exact⟨⟨i+1,by omega,by go_num,b,below_drewN d _⟩,by simp[intOf];omega⟩
  .have T:i=zs.length:=by omega
   subst T;go_wp2;go_ret;refine⟨_,rfl,?_,d⟩;unfold ab mc;rw[rt];exact b
theorem ae2 {w:World} {B e n:Nat} {v:Value} {xs:List Value}(h:w.ownsRow B e 1 v n xs) (a:v≠.slice none 0 0):∃ g cap,v=.slice (some ⟨g,0,none⟩) n cap:=by
 rcases h.2 with ⟨h,_⟩|⟨g,cap,_,h,_⟩
 .exact absurd h a
 .exact⟨g,cap,h⟩
theorem Pd (w:World) :
  Calls prog 92 #[.slice none 0 0] w fun e w'=>∃ v,e=.returned v/\ab w' w.heap.size v []/\Below w.heap.size w w':=by
 have a:=World.ownsRow_lit (base:=w.heap.size) (e:=3) (size:=1) w #[] 0 bR (by unfold maxLen;omega) rfl;go_enter func92,ntmps92;go_wp2;go_loopw [12] (fun i wr=>i=.int .i64 0/\wr=w.alloc (.cells #[] 3)) (fun _ _=>0)
 case atStart=>exact⟨rfl,rfl⟩
 case round =>
  obtain⟨rfl,rfl⟩:=hrel;go_wp2;go_ret;exact⟨_,rfl,a,bY _⟩
theorem Xc (w:World) (ad:Addr) (c:Nat) :
  Calls prog 92 #[.slice (some ad) 0 c] w fun e w'=>∃ v,e=.returned v/\ab w' w.heap.size v []/\Below w.heap.size w w':=by
 obtain⟨r,q,o,m,n⟩:=info_parts dv;have f:=World.ownsRow_lit (base:=w.heap.size) (e:=3) (size:=1) w #[] 0 bR (by unfold maxLen;omega) rfl;go_enter func92,ntmps92;go_wp2_with (at_builtin;refine wpList_append_own _ rfl _ _ 39 rfl w.heap.size 3 r (.int .i64 0) 1 8 underlying39 q o m n rfl (by decide) _ 0 [] rfl f ad 0 c [] rfl rfl (fun j u h=>by simp at h) (fun x hx=>by simp at hx) (by unfold maxLen;omega) (by omega) (by simp) ?_;intro v w1 a b d;obtain⟨g,k,rfl⟩:=ae2 a (fun h=>by have:=(d.1 h).1;cases this);clear d)
 have l:Below w.heap.size w w1:=Below.grown (bY _) b (by simp) (fun j hj=>by cases hj;exact bR);have p:ab w1 w.heap.size (.slice (some ⟨g,0,none⟩) 0 k) []:=a;clear a b f;go_loopw [12] (fun i wr=>i=.int .i64 0/\wr=w1) (fun _ _=>0)
 case atStart=>exact⟨rfl,rfl⟩
 case round =>
  obtain⟨rfl,rfl⟩:=hrel;go_wp2;go_ret;exact⟨_,rfl,p,l⟩
theorem ah4 {w:World} {B:Nat} {v:Value} {zs:List Int}(f:zs.length<=1048576) (a:ab w B v zs) :
  Calls prog 92 #[v] w fun e w'=>∃ v',e=.returned v'/\ab w' w.heap.size v' (mc zs)/\Below w.heap.size w w':=by
 have d:=World.ownsRow.lt a;rcases a.form with ⟨rfl,rfl⟩|⟨g,b,rfl,h,i⟩
 .exact Pd w
 .by_cases c:0<zs.length
  .exact ah5 w g b zs c f (d g rfl).2 (fun j hj=>a.cell j hj)
  .have e:zs=[]:=List.eq_nil_of_length_eq_zero (by omega)
   subst e;exact Xc w _ _
def ni:List (List Int):=[[255,121,776],[7844,194,769],[7845,226,769],[7779,115,803],[7785,7779,775]]
def jv:List (List Int):=[[192,65,768,769,770,771,776,778],[199,67,807],[200,69,768,769,770,776],[204,73,768,769,770,776],[209,78,771],[210,79,768,769,770,771,776],[217,85,768,769,770,776],[221,89,769]]
def gu (r:List Int):List (List Int):=match r with
 | r0::r1::ms=>(ms.zipIdx).flatMap fun p=>[[r0+(p.2:Int),r1,p.1],[r0+(p.2:Int)+32,r1+32,p.1]]
 | _=>[]
def tab:List (List Int):=ni++jv.flatMap gu
theorem J8:tab.length=57:=by decide
theorem a57:∀ t ∈ tab,t.length=3:=by decide
def apart (r:Int):List Int :=
 if r=8491 then [197]
 else if 44032<=r/\r<=55203 then
  [4352+(r-44032) / 588,4449+(r-44032) % 588 / 28]++(if 0<(r-44032) % 28 then [4519+(r-44032) % 28] else [])
 else match tab.find? (fun t=>at0 t 0 == r) with
  | some t=>[at0 t 1,at0 t 2]
  | none=>[r]
def o5:List (List Int):=jv.flatMap gu++ni
theorem Qm {α:Type}(p:α->Bool) (E F:List α) (h:∀ e ∈ E,∀ f ∈ F,p e=true->p f=true->False):(E++F).find? p=(F++E).find? p:=by
 rw[List.find?_append,List.find?_append]
 cases he:E.find? p with
 | none=>cases F.find? p <;> rfl
 | some e =>
  cases hf:F.find? p with
  | none=>rfl
  | some f=>exact (h e (List.mem_of_find?_eq_some he) f (List.mem_of_find?_eq_some hf) (List.find?_some he) (List.find?_some hf)).elim
theorem Vm:∀ e ∈ jv.flatMap gu,∀ f ∈ ni,at0 e 0≠at0 f 0/\¬ (at0 e 1=at0 f 1/\at0 e 2=at0 f 2):=by decide +kernel
theorem Xh (r:Int):o5.find? (fun t=>at0 t 0 == r)=tab.find? (fun t=>at0 t 0 == r):=by
 refine Qm _ _ _ fun e he f hf h1 h2=>?_
 simp at h1 h2;exact (Vm e he f hf).1 (by rw[h1,h2])
theorem tm (r:Int):1<=(apart r).length/\(apart r).length<=3:=by
 unfold apart;split
 .simp
 .split
  .split <;> simp
  .split <;> simp
def full:Nat->Int->List Int
 | 0,r=>[r]
 | n+1,r=>if apart r=[r] then [r] else (apart r).flatMap (full n)
def qg:Nat->Int->Bool
 | 0,r=>apart r == [r]
 | n+1,r=>apart r == [r] || (apart r).all (qg n)
theorem Kh {r:Int}(h:qg 0 r=true):apart r=[r]:=by simpa [qg] using h
theorem Kg {n:Nat} {r:Int}(h:qg (n+1) r=true):apart r=[r]\/∀ x ∈ apart r,qg n x=true:=by
 simpa [qg] using h
theorem ac1 {n:Nat} {r:Int}(h:apart r=[r]):qg n r=true:=by
 cases n <;> simp[qg,h]
theorem og {n:Nat} {r:Int}(h:apart r=[r]):full n r=[r]:=by
 cases n <;> simp[full,h]
theorem wi {n:Nat} {r:Int}(h:apart r≠[r]):full (n+1) r=(apart r).flatMap (full n):=by simp[full,h]
theorem aq7:∀ t ∈ tab,at0 t 0<4352\/4600<at0 t 0:=by decide +kernel
theorem Mv {p:List Int->Bool}(h:∀ t ∈ tab,p t=false):tab.find? p=none:=by
 rw[List.find?_eq_none];intro t a;simp[h t a]
theorem Ke {x:Int}(h1:4352<=x) (h2:x<=4600):apart x=[x]:=by
 unfold apart;rw[if_neg (by omega),if_neg (by omega),Mv];intro t a;have:=aq7 t a;simp;omega
theorem ai3:∀ t ∈ tab,qg 1 (at0 t 1)=true/\qg 1 (at0 t 2)=true:=by decide +kernel
theorem Da {r:Int}(h1:44032<=r) (h2:r<=55203):apart r=[4352+(r-44032) / 588,4449+(r-44032) % 588 / 28]++(if 0<(r-44032) % 28 then [4519+(r-44032) % 28] else []):=by
 unfold apart;rw[if_neg (by omega),if_pos ⟨h1,h2⟩]
theorem Db {r:Int}(h1:44032<=r) (h2:r<=55203):∀ x ∈ apart r,4352<=x/\x<=4600:=by
 rw[Da h1 h2];intro x a;simp only[List.cons_append,List.nil_append,List.mem_cons]at a;rcases a with rfl|rfl|a
 .omega
 .omega
 .split at a
  .simp at a;subst a;omega
  .simp at a
theorem av0 (r:Int):qg 2 r=true:=by
 by_cases b:r=8491
 .subst b;decide +kernel
 by_cases a:44032<=r/\r<=55203
 .have:=Db a.1 a.2
  simp only[qg,Bool.or_eq_true,List.all_eq_true];right
  intro x c;have e:=Ke (this x c).1 (this x c).2;exact .inl (by simpa using e)
 .cases hf:tab.find? (fun t=>at0 t 0 == r) with
  | none =>
   refine ac1 ?_;unfold apart;rw[if_neg b,if_neg a,hf]
  | some t =>
   have d:apart r=[at0 t 1,at0 t 2]:=by unfold apart;rw[if_neg b,if_neg a,hf]
   have:=ai3 t (List.mem_of_find?_eq_some hf);show (apart r == [r] || (apart r).all (qg 1))=true
   rw[d];simp[this.1,this.2]
def kw (r:Int):List Int:=full 2 r
theorem pr {α β:Type}(f:α->List β) (n:Nat) (l:List α) (h:∀ x,(f x).length<=n):(l.flatMap f).length<=l.length*n:=by
 induction l with
 | nil=>simp
 | cons a l ih=>simp only[List.flatMap_cons,List.length_append,List.length_cons];have:=h a;rw[Nat.succ_mul];omega
theorem Fp (n:Nat) (r:Int):(full n r).length<=3 ^ n:=by
 induction n generalizing r with
 | zero=>simp[full]
 | succ n ih =>
  by_cases h:apart r=[r]
  .rw[og h];exact Nat.one_le_pow _ _ (by omega)
  .rw[wi h]
   have:=pr (full n) (3 ^ n) (apart r) ih;have a:=(tm r).2;calc _<=(apart r).length*3 ^ n:=this
    _<=3*3 ^ n:=Nat.mul_le_mul_right _ a
    _=3 ^ (n+1):=by rw[Nat.pow_succ];omega
theorem wv (r:Int):(kw r).length<=9:=Fp 2 r
theorem W4:∀ t ∈ tab,bp (at0 t 0)=true/\bp (at0 t 1)=true/\bp (at0 t 2)=true:=by decide +kernel
theorem Gm {r:Int}(h:bp r=true):∀ x ∈ apart r,bp x=true:=by
 by_cases b:r=8491
 .subst b;decide +kernel
 by_cases a:44032<=r/\r<=55203
 .intro x d
  have:=Db a.1 a.2 x d;exact decide_eq_true (by omega)
 .cases hf:tab.find? (fun t=>at0 t 0 == r) with
  | none =>
   have c:apart r=[r]:=by unfold apart;rw[if_neg b,if_neg a,hf]
   rw[c];simpa using h
  | some t =>
   have c:apart r=[at0 t 1,at0 t 2]:=by unfold apart;rw[if_neg b,if_neg a,hf]
   have:=W4 t (List.mem_of_find?_eq_some hf);rw[c];simp[this.2.1,this.2.2]
theorem Z9 (n:Nat){r:Int}(h:bp r=true):∀ x ∈ full n r,bp x=true:=by
 induction n generalizing r with
 | zero=>simpa [full] using h
 | succ n ih =>
  by_cases e:apart r=[r]
  .rw[og e];simpa using h
  .rw[wi e]
   intro x a;obtain⟨y,b,a⟩:=List.mem_flatMap.1 a;exact ih (Gm h y b) x a
def apD (zs:List Int):List Int:=zs.flatMap kw
def nD (zs:List Int):List Int:=mc (apD zs)
theorem zj (zs:List Int):(apD zs).length<=zs.length*9:=pr kw 9 zs wv
theorem zw (zs:List Int):(nD zs).length=(apD zs).length:=xz _
theorem M0 {zs:List Int}(h:∀ x ∈ zs,bp x=true):∀ x ∈ apD zs,bp x=true:=by
 intro x a;obtain⟨y,b,a⟩:=List.mem_flatMap.1 a;exact Z9 2 (h y b) x a
def Xq (a b:List Int) (k:Nat):Prop:=∀ j,j<k->a[j]? = b[j]?
theorem Bg (w:World) (a b:Option Addr) (c d:Nat):Calls prog 104 #[.slice a 0 c,.slice b 0 d] w fun e w'=>e=.returned (.bool true)/\∃ n,w'=w.drewN n:=by
 go_enter func104,ntmps104;go_wp2;go_loopw [13] (fun i wr=>i=.int .i64 0/\wr=w) (fun _ _=>0)
 case atStart=>exact⟨rfl,rfl⟩
 case round =>
  obtain⟨rfl,rfl⟩:=hrel;go_wp2;go_ret;exact⟨rfl,0,rfl⟩
theorem D6 (w:World) (a b:Option Addr) (n m c d:Nat) (h:n≠m):Calls prog 104 #[.slice a n c,.slice b m d] w fun e w'=>e=.returned (.bool false)/\∃ n,w'=w.drewN n:=by
 have f:((n:Int) != (m:Int))=true:=by simp;omega
 go_enter func104,ntmps104;go_wp2;go_ret;exact⟨rfl,0,rfl⟩
theorem a39 (w:World) (g g' cap A n:Nat) (a b:List Int) (c:a.length=n) (d:b.length=n) (I:n<=1048576)
  (h1:∀ j,j<n->w.cell? ⟨g,j,none⟩=some (.int .i64 (a[j]?.getD 0)))
  (h2:∀ j,j<n->w.cell? ⟨g',j,none⟩=some (.int .i64 (b[j]?.getD 0))) :
  Calls prog 104 #[.slice (some ⟨g,0,none⟩) n cap,.slice (some ⟨g',0,none⟩) n A] w fun e w'=>e=.returned (.bool (decide (a=b)))/\∃ n,w'=w.drewN n:=by
 go_enter func104,ntmps104;go_wp2;go_loopw [13] (fun i wr=>∃ k v:Nat,k<=n/\i=.int .i64 k/\wr=w.drewN v/\Hid (Xq a b k)) (fun i _=>n-(intOf i).toNat)
 case atStart=>exact⟨0,0,Nat.zero_le _,rfl,rfl,fun j o=>by omega⟩
 case round =>
  obtain⟨k,v,H,rfl,rfl,s⟩:=hrel;by_cases r:k<n
  .obtain⟨x,p⟩:∃ x,a[k]? = some x:=⟨_,List.getElem?_eq_getElem (by omega)⟩
   obtain⟨y,q⟩:∃ y,b[k]? = some y:=⟨_,List.getElem?_eq_getElem (by omega)⟩
   have l:=h1 k r;have m:=h2 k r;rw[p]at l;rw[q]at m;have F:w.cell? ⟨g,k,none⟩=some (.int .i64 x):=l;have G:w.cell? ⟨g',k,none⟩=some (.int .i64 y):=m;have E:(k:Int)<(n:Int):=by omega
   have t:Hid _:=p;have u:Hid _:=q;have B:Hid _:=c;have C:Hid _:=d;clear h1 h2 l m p q c d;by_cases e:x=y
   .subst e
    have z:Hid (Xq a b (k+1)):=by
     intro j o;by_cases e:j=k
     .subst e;rw[t.out,u.out]
     .exact s.out j (by omega)
    go_wp2;go_quiet (fail)
    go_wp2;exact⟨⟨k+1,_,by omega,by go_num,rfl,z⟩,by simp[intOf];omega⟩
   .have D:(x != y)=true:=by simpa using e
    have f:Hid (false=decide (a=b)):=by
     refine (decide_eq_false fun h=>e ?_).symm;have:=t.out;rw[h,u.out]at this;exact (Option.some.inj this).symm
    clear e;go_wp2;go_quiet (fail)
    go_wp2;go_ret;exact⟨jj f.out,_,World.drewN_drewN _ _ _⟩
  .have f:Hid (true=decide (a=b)):=by
    refine (decide_eq_true ?_).symm;apply List.ext_getElem?
    intro j;by_cases o:j<k
    .exact s.out j o
    .rw[List.getElem?_eq_none (by omega),List.getElem?_eq_none (by omega)]
   have B:Hid _:=c;have C:Hid _:=d;clear h1 h2 c d;go_wp2;go_ret;exact⟨jj f.out,_,rfl⟩
theorem Kz {w:World} {B p:Nat} {a b:Value} {c d:List Int}(o:c.length<=1048576) (s:d.length<=1048576) (l:ab w B a c) (f:ab w p b d) :
  Calls prog 104 #[a,b] w fun e w'=>e=.returned (.bool (decide (c=d)))/\∃ n,w'=w.drewN n:=by
 by_cases h:c.length=d.length
 .rcases l.form with ⟨rfl,rfl⟩|⟨g,m,rfl,q,r⟩
  .have e:d=[]:=List.eq_nil_of_length_eq_zero (by simpa using h.symm)
   subst e;rcases f.form with ⟨rfl,_⟩|⟨k,i,rfl,_,_⟩
   .exact Bg w _ _ _ _
   .exact Bg w _ _ _ _
  .rcases f.form with ⟨rfl,rfl⟩|⟨k,i,rfl,_,_⟩
   .have e:c=[]:=List.eq_nil_of_length_eq_zero (by simpa using h)
    subst e;exact Bg w _ _ _ _
   .rw[<- h]
    exact a39 w g k m i c.length c d rfl h.symm o (fun j hj=>l.cell j hj) (fun j hj=>f.cell j (by omega))
 .have e:decide (c=d)=false:=decide_eq_false (fun e=>h (by rw[e]))
  rw[e];rcases l.form with ⟨rfl,rfl⟩|⟨g,m,rfl,q,r⟩
  .rcases f.form with ⟨rfl,rfl⟩|⟨k,i,rfl,_,_⟩
   .exact absurd rfl h
   .exact D6 w _ _ _ _ _ _ (by simpa using h)
  .rcases f.form with ⟨rfl,rfl⟩|⟨k,i,rfl,_,_⟩
   .exact D6 w _ _ _ _ _ _ (by simpa using h)
   .exact D6 w _ _ _ _ _ _ h
theorem av {b:Func} {p:Tmp} {ty:TypeId}(h:b.results=#[.cell p ty]) (tmps:Array Value) (P:Program) (w:World) :
  (results b tmps).run P w=((asAddr (tmps.getD p undef)).run P w).andThen fun a w₁=>(loadVar ty a).run P w₁:=by
 simp only[results,h];simp[Sem.run_bind,Result.andThen]
theorem jx {b:Func} {p u:Tmp} {ty:TypeId}(h:b.results=#[.tmp u,.cell p ty]) (tmps:Array Value) (P:Program) (w:World) :
  (results b tmps).run P w=((asAddr (tmps.getD p undef)).run P w).andThen fun a w₁=>((loadVar ty a).run P w₁).andThen fun v w₂=>.ok (.tuple #[tmps.getD u undef,v]) w₂:=by
 simp only[results,h];simp[Sem.run_bind,Result.andThen]
theorem au (u:World) (b o:Nat) (x:Value):u.grownBy (u.setCell ⟨b,o,none⟩ x) (some b):=by
 refine⟨rfl,rfl,rfl,by simp,fun k hk hne=>?_⟩;have h:b≠k:=fun e=>hne (by rw[e])
 simp[World.setCell,Array.getElem?_modify,h]
end Go.Proofs.YtjbmgghehdemdaaGreatDoor
