/- Ints -/
import Derived.WalkSpells
import Derived.WalkLawsBesides
import Derived.WalkSmall
import Derived.Laws.OwnMore
import Derived.Deep.QuietTactic
import Derived.BigQuiet
import Derived.BigCall
import Derived.Lib.RuneBytes
import Derived.Test.YtjbmgghehdemdaaGreatDoorMT1
namespace Go.Proofs.YtjbmgghehdemdaaGreatDoor
set_option maxRecDepth 100000
set_option maxHeartbeats 16000000
open _root_.Go.Proofs.Tryz
open Go.RowKit
theorem dv:(prog.info? 3).map (fun i=>(i.zero,i.size,i.bytes))=some (some (.int .i64 0),1,8):=by kernel_rfl
def ab (w:World) (base:Nat) (v:Value) (zs:List Int):Prop:=w.ownsRow base 3 1 v zs.length (zs.map (Value.int .i64))
theorem ab.snoc {w:World} {base:Nat} {v:Value} {zs:List Int} {x:Int}(h:w.ownsRow base 3 1 v (zs.length+1) (zs.map (Value.int .i64)++[.int .i64 x])):ab w base v (zs++[x]):=by
 unfold ab;simpa using h
theorem ab.form {w:World} {B:Nat} {v:Value} {zs:List Int}(h:ab w B v zs):(v=.slice none 0 0∧zs=[])∨∃ g cap,v=.slice (some ⟨g,0,none⟩) zs.length cap∧zs.length≤cap∧cap≤maxLen:=by
 rcases h.2 with ⟨a,b⟩|⟨g,cap,cur,a,b,c,d,e,_⟩
 .exact .inl ⟨a,by simpa using b⟩
 .exact .inr ⟨g,cap,a,d,e⟩
theorem ab.cell {w:World} {B:Nat} {g cap:Nat} {zs:List Int}(h:ab w B (.slice (some ⟨g,0,none⟩) zs.length cap) zs) (j:Nat) (hj:j<zs.length) :
  w.cell? ⟨g,j,none⟩=some (.int .i64 (zs[j]?.getD 0)):=by
 rw[World.ownsRow.cellAt h j (by omega)];simp[hj]
theorem yy (w:World) (n:Nat) (row:Option Nat):w.grownBy (w.drewN n) row:=⟨rfl,rfl,rfl,bR,fun _ _ _=>rfl⟩
theorem ab.below {w w':World} {B:Nat} {v:Value} {zs:List Int}(h:ab w B v zs) (hb:Below w.heap.size w w'):ab w' B v zs :=
 World.ownsRow.kept h (row:=none) ⟨hb.os,hb.tape,hb.output,hb.size,fun k hk _=>hb.block k hk⟩ (by cases h:v.ownBlock <;> simp)
def uo (w:World) (B b:Nat) (a:Option Addr) (n:Nat):Prop :=
 n=0∨∃ cb off,a=some ⟨cb,off,none⟩∧cb≠b∧cb<B∧∀ j,j<n→∃ x:Int,0≤x∧x≤255∧w.cell? ⟨cb,off+j,none⟩=some (.int .u8 x)
def Cur (w:World) (B b k:Nat):Prop :=
 ∃ (a:Option Addr) (n cap:Nat) (seed:Int),w.heap[b]? = some (.cells #[.slice a n cap,.int .i64 (k:Int),.int .u64 seed] 67 (0,0))∧b<B∧B≤w.heap.size∧n≤1048576∧0≤seed∧seed<18446744073709551616∧uo w B b a n
theorem uo.kept {w w':World} {B b:Nat} {a:Option Addr} {n:Nat}(h:uo w B b a n) (hs:B≤w.heap.size){row:Option Nat}(hg:w.grownBy w' row) (hr:∀ k,row=some k→k=b∨B≤k):uo w' B b a n:=by
 rcases h with h|⟨cb,a0,rfl,h1,h2,h3⟩
 .exact .inl h
 .refine .inr ⟨cb,a0,rfl,h1,h2,fun j hj=>?_⟩
  obtain⟨x,x0,x1,hx⟩:=h3 j hj;refine⟨x,x0,x1,?_⟩;rw[World.cell?_of_block (w:=w) (hg.block cb (by omega) (fun e=>by rcases hr cb e.symm with h|h <;> omega))];exact hx
theorem Cur.kept {w w':World} {B b k:Nat}(h:Cur w B b k){row:Option Nat}(hg:w.grownBy w' row) (hr:∀ k,row=some k→B≤k):Cur w' B b k:=by
 obtain⟨a,n,cap,a0,h1,h2,h3,h4,h5,h6,h7⟩:=h;refine⟨a,n,cap,a0,?_,h2,Nat.le_trans h3 hg.size,h4,h5,h6,h7.kept h3 hg (fun k hk=>.inr (hr k hk))⟩;rw[hg.block b (by omega) (fun e=>by have:=hr b e.symm;omega)];exact h1
theorem Cur.drewN {w:World} {B b k:Nat}(h:Cur w B b k) (n:Nat):Cur (w.drewN n) B b k:=h
theorem Cur.lt {w:World} {B b k:Nat}(h:Cur w B b k):b<B∧B≤w.heap.size:=by obtain⟨_,_,_,_,_,h1,h2,_⟩:=h;exact⟨h1,h2⟩
theorem bu {a b c:World} {row:Option Nat}(h:a.grownBy b row) (k:b.grownBy c row):a.grownBy c row:=h.trans k
theorem fd {a b c:World} {row a0:Option Nat}(h:a.grownBy b row) (k:b.grownBy c a0) (hr:∀ j,a0=some j→a.heap.size≤j):a.grownBy c row :=
 ⟨k.os.trans h.os,k.tape.trans h.tape,k.output.trans h.output,Nat.le_trans h.size k.size,fun i hi hn=>by
  rw[k.block i (Nat.lt_of_lt_of_le hi h.size) (fun e=>by have:=hr i e.symm;omega)];exact h.block i hi hn⟩
theorem as4 (x:Int) (h0:0≤x) (h1:x<18446744073709551616):0≤bits .and .u64 (x / 1099511627776) 255∧bits .and .u64 (x / 1099511627776) 255≤255:=by
 have a0:(2:Int) ^ 40=1099511627776:=by decide
 have hw:∀ n:Int,0≤n→n<2 ^ 40→IntKind.u64.wrap n=n:=fun n a b=>by
  have e:IntKind.u64.wrap n=n % 18446744073709551616:=by simp[IntKind.wrap,IntKind.bits,IntKind.signed]
  rw[a0]at b;rw[e];omega
 have h:=bits_mask .u64 40 (by decide) hw 8 (by decide) (x / 1099511627776) (by omega) (by rw[a0];omega);have e8:(2:Int) ^ 8-1=255:=by decide
 have e9:(2:Int) ^ 8=256:=by decide
 rw[e8,e9]at h;rw[h];omega
theorem ap8 {y:Int}(h0:0≤y) (h1:y≤255):Ending.returned (.int .i64 (wrap64 y))=.returned (.int .i64 y):=by
 have e:wrap64 y=y:=by
  unfold wrap64;omega
 rw[e]
theorem ak4 (n:Int):0≤IntKind.u64.wrap n∧IntKind.u64.wrap n<18446744073709551616:=by
 have e:IntKind.u64.wrap n=n % 18446744073709551616:=by simp[IntKind.wrap,IntKind.bits,IntKind.signed]
 rw[e];omega
theorem Mk {w:World} {B b k:Nat} {a:Option Addr} {n cap:Nat} {a0:Int}(h1:w.heap[b]? = some (.cells #[.slice a n cap,.int .i64 (k:Int),.int .u64 a0] 67 (0,0))) (h2:b<B) (h3:B≤w.heap.size) (h4:n≤1048576) (h7:uo w B b a n) (s:Int) (h5:0≤s) (h6:s<18446744073709551616) (q q':Nat) :
  Cur ((((w.drewN q).setCell ⟨b,1,none⟩ (.int .i64 ((k:Int)+1))).setCell ⟨b,2,none⟩ (.int .u64 s)).drewN q') B b (k+1)∧w.grownBy ((((w.drewN q).setCell ⟨b,1,none⟩ (.int .i64 ((k:Int)+1))).setCell ⟨b,2,none⟩ (.int .u64 s)).drewN q') (some b):=by
 have e1:=heap_setCell_same (w.drewN q) b 1 _ _ (.int .i64 ((k:Int)+1)) h1;have e2:=heap_setCell_same _ b 2 _ _ (.int .u64 s) e1;have g:w.grownBy ((((w.drewN q).setCell ⟨b,1,none⟩ (.int .i64 ((k:Int)+1))).setCell ⟨b,2,none⟩ (.int .u64 s)).drewN q') (some b):=by
  refine⟨rfl,rfl,rfl,by simp[World.drewN],fun i hi hn=>?_⟩;have a1:i≠b:=fun e=>hn (by rw[e])
  exact (heap_setCell_other _ ⟨b,2,none⟩ i _ a1).trans (heap_setCell_other _ ⟨b,1,none⟩ i _ a1)
 refine⟨⟨a,n,cap,s,?_,h2,Nat.le_trans h3 g.size,h4,h5,h6,h7.kept h3 g (fun j hj=>by cases hj;exact .inl rfl)⟩,g⟩;have e3:(((#[.slice a n cap,.int .i64 (k:Int),.int .u64 a0]:Array Value).setIfInBounds 1 (.int .i64 ((k:Int)+1))).setIfInBounds 2 (.int .u64 s))=#[.slice a n cap,.int .i64 ((k+1:Nat):Int),.int .u64 s]:=by
  simp
 rw[<- e3];exact e2
theorem Fw (w:World) (B b k:Nat) (h:Cur w B b k) (hk:k≤1073741824) :
  Calls prog 96 #[.pointer (some ⟨b,0,none⟩)] w fun e w'=>∃ x:Int,e=.returned (.int .i64 x)∧0≤x∧x≤255∧Cur w' B b (k+1)∧w.grownBy w' (some b):=by
 obtain⟨a,n,cap,a0,h1,h2,h3,h4,h5,h6,h7⟩:=h;have c0:=cell_of_row w b 0 _ _ _ h1;have c1:=cell_of_row w b 1 _ _ _ h1;have c2:=cell_of_row w b 2 _ _ _ h1;simp at c0 c1 c2;have f0:=fun j=>frozen_of_row w b j _ _ h1
 have HS:Hid _:=And.intro h5 h6;have H1:Hid _:=h1;have H7:Hid _:=h7;clear h5 h6 h1;by_cases a1:k<n
 .rcases h7 with h7|⟨cb,a2,rfl,g1,g2,g3⟩
  .omega
  .obtain⟨x,x0,x1,hx⟩:=g3 k a1
   clear g3;go_enter func96,ntmps96;go_wp2;go_quiet (fail)
   go_wp2;go_quiet (fail)
   go_wp2;go_quiet (fail)
   go_wp2;go_ret;have hs:=ak4 (IntKind.u64.wrap (IntKind.u64.wrap (a0*6364136223846793005)+x)+1442695040888963407);have hc:=Mk H1.out h2 h3 h4 H7.out _ hs.1 hs.2;exact⟨x,rfl,x0,x1,(hc _ _).1,(hc _ _).2⟩
 .clear h7
  go_enter func96,ntmps96;go_wp2;go_quiet (fail)
  go_wp2;go_quiet (fail)
  go_wp2;go_ret;have hs:=ak4 (IntKind.u64.wrap (IntKind.u64.wrap (a0*6364136223846793005))+1442695040888963407);have hc:=Mk H1.out h2 h3 h4 H7.out _ hs.1 hs.2;have hx:=as4 _ hs.1 hs.2;exact⟨_,ap8 hx.1 hx.2,hx.1,hx.2,(hc _ _).1,(hc _ _).2⟩
def ed (w w':World) (B b k m:Nat):Prop:=(∃ k',k'≤k+m∧Cur w' B b k')∧w.grownBy w' (some b)
theorem ep (w:World) (B b k:Nat) (h:Cur w B b k) (hk:k≤1000000000) (n:Int) (hn:n≤1048576) (a2:-1048576≤n) :
  Calls prog 45 #[.pointer (some ⟨b,0,none⟩),.int .i64 n] w fun e w'=>∃ x:Int,e=.returned (.int .i64 x)∧0≤x∧(x<n∨x=0)∧ed w w' B b k 2:=by
 by_cases c1:n≤1
 .go_enter func45,ntmps45
  go_wp2;go_ret;exact⟨0,rfl,by omega,.inr rfl,⟨k,by omega,h⟩,World.grownBy.refl _ _⟩
 by_cases c2:n≤200
 .have N:=Fw w B b k h (by omega)
  clear h;go_enter func45,ntmps45;go_wp2_with (go_at_call 96;refine N.mono ?_;rintro e w' ⟨x,rfl,x0,x1,hC,hg⟩)
  go_ret;exact⟨_,rfl,Int.emod_nonneg _ (by omega),.inl (Int.emod_lt_of_pos _ (by omega)),⟨k+1,by omega,hC⟩,hg⟩
 .have N:=Fw w B b k h (by omega)
  clear h;go_enter func45,ntmps45;go_wp2_with fail;refine N.mono ?_;rintro e w1 ⟨x,rfl,x0,x1,hC,hg⟩;clear N;go_wp2_with fail;refine (Fw w1 B b (k+1) hC (by omega)).mono ?_;rintro e w2 ⟨y,rfl,y0,y1,a0,a1⟩;go_wp2;go_ret;exact⟨_,rfl,Int.emod_nonneg _ (by omega),.inl (Int.emod_lt_of_pos _ (by omega)),⟨k+1+1,by omega,a0⟩,bu hg a1⟩
theorem uj (w:World) (B b k:Nat) (h:Cur w B b k) (hk:k≤1000000000) (n:Int) (hn:n≤1048576) (a0:-1048576≤n) :
  Calls prog 67 #[.pointer (some ⟨b,0,none⟩),.int .i64 n] w fun e w'=>∃ x:Bool,e=.returned (.bool x)∧ed w w' B b k 2:=by
 have N:=ep w B b k h hk n hn a0;clear h;go_enter func67,ntmps67;go_wp2_with (go_at_call 45;refine N.mono ?_;rintro e w' ⟨x,rfl,x0,x1,hM⟩)
 go_ret;exact⟨_,rfl,hM⟩
theorem qj (w:World) (B b k:Nat) (h:Cur w B b k) (hk:k≤1000000000) (g m cap:Nat) (zs:List Int) (hz:zs.length=m) (a2:0<m) (hm:m≤1048576) (hg:g<w.heap.size) (a0:g≠b)
  (hc:∀ j,j<m→w.cell? ⟨g,j,none⟩=some (.int .i64 (zs[j]?.getD 0))) :
  Calls prog 69 #[.pointer (some ⟨b,0,none⟩),.slice (some ⟨g,0,none⟩) m cap] w fun e w'=>∃ x:Int,e=.returned (.int .i64 x)∧x ∈ zs∧ed w w' B b k 2:=by
 have N:=ep w B b k h hk (m:Int) (by omega) (by omega);clear h;go_enter func69,ntmps69;go_wp2_with fail;refine N.mono ?_;rintro e w' ⟨x,rfl,x0,x1,hM⟩;obtain⟨j,rfl⟩:=Int.eq_ofNat_of_zero_le x0;have hj:j<m:=by omega
 have a1:(j:Int)<(m:Int):=by omega
 obtain⟨y,hy⟩:∃ y,zs[j]? = some y:=⟨_,List.getElem?_eq_getElem (by omega)⟩
 have c:=hc j hj;rw[hy]at c;have c1:w'.cell? ⟨g,j,none⟩=some (.int .i64 y):=by
  rw[World.cell?_of_block (w:=w) (hM.2.block g hg (fun e=>a0 (Option.some.inj e)))];exact c
 have HY:Hid _:=hy;clear N hc c hy;go_wp2;go_ret;exact⟨y,rfl,List.mem_of_getElem? HY.out,hM⟩
def bp (r:Int):Bool:=decide (0≤r∧r≤1114111∧¬ (55296≤r∧r≤57343))
theorem l7 {r:Int}(h:bp r=true):0≤r∧r≤1114111∧(r<55296∨57343<r):=by
 have:=of_decide_eq_true h;omega
theorem En {r:Int}(h:bp r=false):r<0∨1114111<r∨(0≤r∧r≤1114111∧55296≤r∧r≤57343):=by
 have:=of_decide_eq_false h;omega
theorem jj {a b:Bool}(h:a=b):Ending.returned (.bool a)=.returned (.bool b):=by rw[h]
theorem Ce (r:Int) (h:bp r=true) (w:World) :
  Calls prog 223 #[.int .i64 r] w fun e w'=>e=.returned (.bool true)∧w'=w:=by
 obtain⟨h1,h2,h3⟩:=l7 h;clear h;rcases h3 with h3|h3;all_goals
  go_enter func223,ntmps223;go_wp2;go_ret;exact⟨jj (by simp;try omega),rfl⟩
theorem Eq (r:Int) (h:bp r=false) (w:World) :
  Calls prog 223 #[.int .i64 r] w fun e w'=>e=.returned (.bool false)∧w'=w:=by
 rcases En h with h1|h1|⟨h1,h2,h3,h4⟩;all_goals
  clear h;go_enter func223,ntmps223;go_wp2;go_ret;exact⟨jj (by simp;try omega),rfl⟩
theorem Pf (r:Int) (h:bp r=true) (w:World) :
  Calls prog 42 #[.int .i64 r] w fun e w'=>e=.returned (.bool true)∧w'=w:=by
 obtain⟨h1,h2,h3⟩:=l7 h;clear h;rcases h3 with h3|h3;all_goals
  go_enter func42,ntmps42;go_wp2;go_ret;exact⟨jj (by simp;try omega),rfl⟩
theorem Rt (r:Int) (h:bp r=false) (w:World) :
  Calls prog 42 #[.int .i64 r] w fun e w'=>e=.returned (.bool false)∧w'=w:=by
 rcases En h with h1|h1|⟨h1,h2,h3,h4⟩;all_goals
  clear h;go_enter func42,ntmps42;go_wp2;go_ret;exact⟨jj (by simp;try omega),rfl⟩
theorem Ea {w w':World}(h:Below w.heap.size w w') (row:Option Nat):w.grownBy w' row:=⟨h.os,h.tape,h.output,h.size,fun k hk _=>h.block k hk⟩
theorem an6 {w:World} {B b:Nat} {v:Value} {zs:List Int}(h:ab w B v zs) (hb:b<B):v.ownBlock=none∨v.ownBlock≠some b:=by
 cases c:v.ownBlock with
 | none=>exact .inl rfl
 | some g =>
  refine .inr fun e=>?_
  have:=(World.ownsRow.lt h g c).1;have:=Option.some.inj e;omega
theorem qk (w:World) (B b k:Nat) (h:Cur w B b k) (hk:k≤1000000000) (zs:List Int) (m:Nat) (hz:zs.length=m) (a1:0<m) (hm:m≤1048576) (cs:Array Value) (a0:cs=(zs.map (Value.int .i64)).toArray) :
  Calls prog 69 #[.pointer (some ⟨b,0,none⟩),.slice (some ⟨w.heap.size,0,none⟩) m m] (w.alloc (.cells cs 3)) fun e w'=>∃ x:Int,e=.returned (.int .i64 x)∧x ∈ zs∧ed w w' B b k 2:=by
 have hl:=h.lt;have ga:=World.grownBy_alloc w (.cells cs 3) none;have hC:=h.kept ga (fun k hk=>by cases hk);refine (qj (w.alloc (.cells cs 3)) B b k hC hk w.heap.size m m zs hz a1 hm (by simp) (by omega) (fun j hj=>?_)).mono ?_
 .rw[World.cell?_alloc_new,a0]
  simp[hz,hj]
 .rintro e w' ⟨x,rfl,hx,hM⟩
  exact⟨x,rfl,hx,hM.1,bu (World.grownBy_alloc w _ _) hM.2⟩
theorem ag6 (w:World) (B b k:Nat) (h:Cur w B b k) (hk:k≤900000000) :
  Calls prog 110 #[.pointer (some ⟨b,0,none⟩)] w fun e w'=>∃ x:Int,e=.returned (.int .i64 x)∧bp x=true∧ed w w' B b k 6:=by
 have N:=ep w B b k h (by omega) 8 (by omega) (by omega);clear h;go_enter func110,ntmps110;go_wp2_with fail;refine N.mono ?_;rintro e w1 ⟨x,rfl,x0,x1,⟨⟨k1,a6,hC⟩,hg⟩⟩;have hx:x=0∨x=1∨x=2∨x=3∨4≤x:=by omega
 clear N;rcases hx with rfl|rfl|rfl|rfl|hx
 .go_wp2_with fail
  refine (qk w1 B b k1 hC (by omega) [32,45,49,57,46,95] 6 rfl (by omega) (by omega) _ rfl).mono ?_;rintro e w2 ⟨y,rfl,hy,⟨⟨k2,a4,a0⟩,a1⟩⟩;go_wp2;go_ret;exact⟨y,rfl,(by decide:∀ z ∈ [32,45,49,57,46,95],bp z=true) y hy,⟨k2,by omega,a0⟩,bu hg a1⟩
 .go_wp2_with fail
  refine (qk w1 B b k1 hC (by omega) [233,201,229,197,231,241,252,8491,7845,7785,226] 11 rfl (by omega) (by omega) _ rfl).mono ?_;rintro e w2 ⟨y,rfl,hy,⟨⟨k2,a4,a0⟩,a1⟩⟩;go_wp2;go_ret;exact⟨y,rfl,(by decide:∀ z ∈ [233,201,229,197,231,241,252,8491,7845,7785,226],bp z=true) y hy,⟨k2,by omega,a0⟩,bu hg a1⟩
 .go_wp2_with fail
  refine (qk w1 B b k1 hC (by omega) [768,769,776,778,803,807,770,775] 8 rfl (by omega) (by omega) _ rfl).mono ?_;rintro e w2 ⟨y,rfl,hy,⟨⟨k2,a4,a0⟩,a1⟩⟩;go_wp2;go_ret;exact⟨y,rfl,(by decide:∀ z ∈ [768,769,776,778,803,807,770,775],bp z=true) y hy,⟨k2,by omega,a0⟩,bu hg a1⟩
 .go_wp2_with fail
  refine (uj w1 B b k1 hC (by omega) 3 (by omega) (by omega)).mono ?_;rintro e w2 ⟨bo,rfl,⟨⟨k2,a4,a0⟩,a1⟩⟩
  cases bo
  .go_wp2_with fail
   refine (qk w2 B b k2 a0 (by omega) [97,98,99,104,108,122,65,67,101,111,110,97] 12 rfl (by omega) (by omega) _ rfl).mono ?_;rintro e w3 ⟨y,rfl,hy,⟨⟨k3,a5,a2⟩,a3⟩⟩;go_wp2;go_ret;exact⟨y,rfl,(by decide:∀ z ∈ [97,98,99,104,108,122,65,67,101,111,110,97],bp z=true) y hy,⟨k3,by omega,a2⟩,bu hg (bu a1 a3)⟩
  .go_wp2_with fail
   refine (qk w2 B b k2 a0 (by omega) [44032,44033,55203,4352,4449,4520,19968,1114111,128512,3,127,65533] 12 rfl (by omega) (by omega) _ rfl).mono ?_;rintro e w3 ⟨y,rfl,hy,⟨⟨k3,a5,a2⟩,a3⟩⟩;go_wp2;go_ret;exact⟨y,rfl,(by decide:∀ z ∈ [44032,44033,55203,4352,4449,4520,19968,1114111,128512,3,127,65533],bp z=true) y hy,⟨k3,by omega,a2⟩,bu hg (bu a1 a3)⟩
 .go_wp2_with fail
  refine (qk w1 B b k1 hC (by omega) [97,98,99,104,108,122,65,67,101,111,110,97] 12 rfl (by omega) (by omega) _ rfl).mono ?_;rintro e w3 ⟨y,rfl,hy,⟨⟨k3,a5,a2⟩,a3⟩⟩;go_wp2;go_ret;exact⟨y,rfl,(by decide:∀ z ∈ [97,98,99,104,108,122,65,67,101,111,110,97],bp z=true) y hy,⟨k3,by omega,a2⟩,bu hg a3⟩
def a65 (w:World) (B b K m:Nat) (v n:Value) (wr:World):Prop :=
 ∃ (j k:Nat) (zs:List Int),n=.int .i64 j∧ab wr w.heap.size v zs∧zs.length+j≤m∧(∀ x ∈ zs,bp x=true)∧k+6*j≤K∧Cur wr B b k∧w.grownBy wr (some b)
theorem D0 (w:World) (B b k m:Nat) (h:Cur w B b k) (hk:k≤800000000) (hm:m≤1000) :
  Calls prog 71 #[.pointer (some ⟨b,0,none⟩),.int .i64 (m:Int)] w fun e w'=>∃ v zs,e=.returned v∧ab w' w.heap.size v zs∧zs.length≤m∧(∀ x ∈ zs,bp x=true)∧ed w w' B b k (2+6*m):=by
 obtain⟨i0,hi,ag,ah,ai⟩:=info_parts dv;have hB:=h.lt;have N:=ep w B b k h (by omega) ((m:Int)+1) (by omega) (by omega);clear h;go_enter func71,ntmps71;go_wp2_with fail;refine N.mono ?_;rintro e w1 ⟨x,rfl,x0,x1,⟨⟨k1,ae,hC⟩,hg⟩⟩;obtain⟨j0,rfl⟩:=Int.eq_ofNat_of_zero_le x0;have a8:j0≤m:=by omega
 clear N x0 x1;go_wp2_with fail;go_loopw [5,6] (fun v n wr=>a65 w B b (k+2+6*m) m v n wr) (fun _ n _=>(intOf n).toNat)
 case atStart=>exact⟨j0,k1,[],rfl,World.ownsRow_nil _ _ _ _,by simp;omega,by simp,by omega,hC,hg⟩
 case round =>
  clear hC hg ae;obtain⟨j,k2,zs,rfl,hI,hl,a7,aj,a4,a3⟩:=hrel;have HG:Hid _:=a7;clear a7;by_cases hj:0<j
  .have R:=ag6 wr B b k2 a4 (by omega)
   have al:=a3.size;go_wp2_with fail;refine R.mono ?_;rintro e w3 ⟨y,rfl,hy,⟨⟨k3,ak,a9⟩,a6⟩⟩;have a5:=World.ownsRow.kept hI a6 (an6 hI (by omega));have a1:=bu a3 a6;have HY:Hid _:=hy;have af:=a1.size;clear R hI a6 hy a3 a4;go_wp2_with (at_builtin;refine wpList_append_own _ rfl _ _ 39 rfl w.heap.size 3 i0 (.int .i64 0) 1 8 underlying39 hi ag ah ai rfl (by decide) _ _ _ rfl (a5.alloc _) ⟨_,0,none⟩ 1 1 [.int .i64 y] rfl rfl (cell_one_new _ _ _) (fun x hx=>by simp at hx;subst hx;rfl) (by unfold maxLen;omega) (by omega) (by simp;omega) ?_;intro v' w4 a2 a0 _)
   have ac:∀ j,_=some j→B≤j:=fun j hj=>Nat.le_trans hB.2 (a5.lt j hj).1
   have aa:=(a9.kept (World.grownBy_alloc _ _ none) (fun k hk=>by cases hk)).kept a0 ac;have ad:=fd (fd a1 (World.grownBy_alloc _ _ none) (fun k hk=>by cases hk)) a0 (fun j hj=>(a5.lt j hj).1);refine⟨⟨j-1,k3,zs++[y],by go_num,ab.snoc a2,by simp;omega,?_,by omega,aa,ad⟩,by simp[intOf];omega⟩;intro z hz;rcases List.mem_append.1 hz with h|h
   .exact HG.out z h
   .rw[List.mem_singleton.1 h];exact HY.out
  .have a8:j=0:=by omega
   subst a8;go_wp2;go_ret;exact⟨_,zs,rfl,hI,by omega,HG.out,⟨k2,by omega,a4⟩,a3⟩
theorem uh (w:World) (B b k:Nat) (h:Cur w B b k) (hk:k≤1000000000) (ss:List ByteArray) (m:Nat) (hz:ss.length=m) (a5:0<m) (hm:m≤1048576) (cs:Array Value) (a1:cs=(ss.map Value.string).toArray) :
  Calls prog 70 #[.pointer (some ⟨b,0,none⟩),.slice (some ⟨w.heap.size,0,none⟩) m m] (w.alloc (.cells cs 9)) fun e w'=>∃ s:ByteArray,e=.returned (.string s)∧s ∈ ss∧ed w w' B b k 2:=by
 have hl:=h.lt;have ga:=World.grownBy_alloc w (.cells cs 9) none;have hC:=h.kept ga (fun k hk=>by cases hk);have N:=ep _ B b k hC hk (m:Int) (by omega) (by omega);have a0:∀ j,j<m→(w.alloc (.cells cs 9)).cell? ⟨w.heap.size,j,none⟩=some (.string (ss[j]?.getD ByteArray.empty)):=fun j hj=>by
  rw[World.cell?_alloc_new,a1];simp[hz,hj]
 clear hC ga h;obtain⟨W,hW⟩:∃ W,W=w.alloc (.cells cs 9):=⟨_,rfl⟩
 have a2:w.heap.size<W.heap.size:=by rw[hW];simp
 have a3:w.grownBy W (some b):=by rw[hW];exact World.grownBy_alloc w _ _
 rw[<- hW]at N a0 ⊢;clear hW a1;generalize w.heap.size=g at *;go_enter func70,ntmps70;go_wp2_with fail;refine N.mono ?_;rintro e w' ⟨x,rfl,x0,x1,hM⟩;obtain⟨j,rfl⟩:=Int.eq_ofNat_of_zero_le x0;have hj:j<m:=by omega
 have a4:(j:Int)<(m:Int):=by omega
 obtain⟨y,hy⟩:∃ y,ss[j]? = some y:=⟨_,List.getElem?_eq_getElem (by omega)⟩
 have c:=a0 j hj;rw[hy]at c;have c1:w'.cell? ⟨g,j,none⟩=some (.string y):=by
  rw[World.cell?_of_block (w:=W) (hM.2.block g a2 (fun e=>by have:=Option.some.inj e;omega))];exact c
 have HY:Hid _:=hy;clear N a0 c hy;go_wp2;go_ret;exact⟨y,rfl,List.mem_of_getElem? HY.out,hM.1,bu a3 hM.2⟩
def l6s:List ByteArray:=[⟨#[]⟩,⟨#[]⟩,⟨#[91,115,104,105,102,116,101,100,93,32]⟩,⟨#[91,108,101,118,101,108,115,32,50,93,32]⟩,⟨#[91,108,101,118,101,108,115,32,52,93,32,91,115,104,105,102,116,101,100,93,32]⟩,⟨#[91,108,101,118,101,108,115,32,49,93,32]⟩]
def l7s:List ByteArray:=[⟨#[99]⟩,⟨#[108]⟩,⟨#[122]⟩,⟨#[97]⟩,⟨#[110]⟩,⟨#[65]⟩,⟨#[111]⟩]
def l4s:List ByteArray:=[⟨#[60]⟩,⟨#[60,60]⟩,⟨#[60,60,60]⟩,⟨#[60]⟩]
def au6:List ByteArray:=[⟨#[99,104]⟩,⟨#[108,108]⟩,⟨#[195,165]⟩,⟨#[195,169]⟩,⟨#[67,72]⟩,⟨#[113]⟩,⟨#[97,101]⟩,⟨#[195,177]⟩,⟨#[97,98,99,100]⟩,⟨#[122,204,129]⟩,⟨#[66]⟩]
theorem b14:∀ s ∈ l6s,s.size≤21:=by decide
theorem b15:∀ s ∈ l7s,s.size≤1:=by decide
theorem b13:∀ s ∈ l4s,s.size≤3:=by decide
theorem au5:∀ s ∈ au6,s.size≤4:=by decide
def az3 (w:World) (B b K M:Nat) (sv n:Value) (wr:World):Prop :=
 ∃ (j k:Nat) (s:ByteArray),n=.int .i64 j∧j≤3∧sv=.string s∧s.size+31*j≤M∧k+20*j≤K∧Cur wr B b k∧w.grownBy wr (some b)
def aj7 (w:World) (B b K M:Nat) (sv n:Value) (wr:World):Prop :=
 ∃ (j k:Nat) (s:ByteArray),n=.int .i64 j∧j≤3∧sv=.string s∧s.size+9*j≤M∧k+4*j≤K∧Cur wr B b k∧w.grownBy wr (some b)
theorem Oq (w:World) (B b k:Nat) (h:Cur w B b k) (hk:k≤700000000) :
  Calls prog 66 #[.pointer (some ⟨b,0,none⟩)] w fun e w'=>∃ s:ByteArray,e=.returned (.string s)∧s.size≤300∧ed w w' B b k 64:=by
 have O6:=uh w B b k h (by omega) l6s 6 rfl (by omega) (by omega) _ rfl;clear h;go_enter func66,ntmps66;go_wp2_with fail;refine O6.mono ?_;rintro e w1 ⟨s1,rfl,m1,⟨⟨k1,aA,ab⟩,ag⟩⟩;have aq:=b14 s1 m1;have N:=ep w1 B b k1 ab (by omega) 4 (by omega) (by omega);clear O6 m1;go_wp2_with fail;refine N.mono ?_;rintro e w2 ⟨x,rfl,x0,x1,⟨⟨k2,ap,ac⟩,ah⟩⟩;obtain⟨j0,rfl⟩:=Int.eq_ofNat_of_zero_le x0;have an:j0≤3:=by omega
 have a0:=bu ag ah;clear N x0 x1 ab ag ah;go_wp2_with fail;go_loopw [3,4] (fun sv n wr=>az3 w B b (k+64) 114 sv n wr) (fun _ n _=>(intOf n).toNat)
 case atStart=>exact⟨j0,k2,s1,rfl,an,rfl,by omega,by omega,ac,a0⟩
 case round =>
  clear ac a0 aq ap;obtain⟨j,k3,s3,rfl,az,rfl,aH,aB,a4,a6⟩:=hrel;by_cases hj:0<j
  .have O7:=uh wr B b k3 a4 (by omega) l7s 7 rfl (by omega) (by omega) _ rfl
   go_wp2_with fail;refine O7.mono ?_;rintro e w4 ⟨s4,rfl,m4,⟨⟨k4,aC,ad⟩,ai⟩⟩;have ar:=b15 s4 m4;have av:((⟨#[38,32]⟩:ByteArray)++s4).size≤3:=by rw[ByteArray.size_append];show 2+s4.size≤3;omega
   have aw:((⟨#[38,32]⟩:ByteArray)++s4++⟨#[32]⟩).size≤4:=by rw[ByteArray.size_append];show _+1≤4;omega
   have N4:=ep w4 B b k4 ad (by omega) 3 (by omega) (by omega);have a1:=bu a6 ai;clear O7 m4 a4 a6 ai;have ax:(s3++((⟨#[38,32]⟩:ByteArray)++s4++⟨#[32]⟩)).size≤s3.size+4:=by rw[ByteArray.size_append];omega
   clear av;go_wp2_with fail;refine N4.mono ?_;rintro e w5 ⟨y,rfl,y0,y1,⟨⟨k5,aD,ae⟩,aj⟩⟩;obtain⟨i0,rfl⟩:=Int.eq_ofNat_of_zero_le y0;have hi0:i0≤2:=by omega
   have a2:=bu a1 aj;have a9:Hid (aj7 w B b (k+64-20*(j-1)) (114-31*(j-1)) (.string (s3++((⟨#[38,32]⟩:ByteArray)++s4++⟨#[32]⟩))) (.int .i64 (1+(i0:Int))) w5):=⟨i0+1,k5,_,by go_num,by omega,rfl,by omega,by omega,ae,a2⟩;clear N4 y0 y1 ad a1 aj ae a2;go_wp2_with fail;go_loopw [3,5] (fun sv n wr=>aj7 w B b (k+64-20*(j-1)) (114-31*(j-1)) sv n wr) (fun _ n _=>(intOf n).toNat)
   case atStart=>exact a9.out
   case round =>
    clear a9 aw ax ar;obtain⟨i,k6,s6,rfl,ay,rfl,aI,aE,a5,a7⟩:=hrel;by_cases hi:0<i
    .have O4:=uh wr B b k6 a5 (by omega) l4s 4 rfl (by omega) (by omega) _ rfl
     go_wp2_with fail;refine O4.mono ?_;rintro e w7 ⟨s7,rfl,m7,⟨⟨k7,aF,af⟩,ak⟩⟩;have aJ:=b13 s7 m7;have a3:=bu a7 ak;have aa:=uh w7 B b k7 af (by omega) au6 11 rfl (by omega) (by omega) _ rfl;have aL:(s7++(⟨#[32]⟩:ByteArray)).size≤4:=by rw[ByteArray.size_append];show s7.size+1≤4;omega
     clear O4 m7 a5 a7 ak af;go_wp2_with fail;refine aa.mono ?_;rintro e w8 ⟨s8,rfl,m8,⟨⟨k8,aG,am⟩,al⟩⟩;have aK:=au5 s8 m8;have a8:=bu a3 al;have aM:(s7++(⟨#[32]⟩:ByteArray)++s8).size≤8:=by rw[ByteArray.size_append];omega
     have aN:(s7++(⟨#[32]⟩:ByteArray)++s8++⟨#[32]⟩).size≤9:=by rw[ByteArray.size_append];show _+1≤9;omega
     have au:(s6++(s7++(⟨#[32]⟩:ByteArray)++s8++⟨#[32]⟩)).size≤s6.size+9:=by rw[ByteArray.size_append];omega
     clear aa m8 a3 al;go_wp2;exact⟨⟨i-1,k8,_,by go_num,by omega,rfl,by omega,by omega,am,a8⟩,by simp[intOf];omega⟩
    .have hi1:i=0:=by omega
     subst hi1;go_wp2;exact⟨⟨j-1,k6,s6,by go_num,by omega,rfl,by omega,by omega,a5,a7⟩,by simp[intOf];omega⟩
  .have ao:j=0:=by omega
   subst ao;go_wp2;go_ret;exact⟨s3,rfl,by omega,⟨k3,by omega,a4⟩,a6⟩
theorem Hd:∀ (xs:List Int) (r:ByteArray),xs.foldl (fun r n=>r.push (UInt8.ofNat n.toNat)) r=⟨r.data++(xs.map fun x=>x.toNat.toUInt8).toArray⟩
 | [],r=>by simp
 | x::xs,r=>by
  simp only[List.map_cons,List.foldl_cons];rw[Hd xs];simp[ByteArray.push]
theorem L1 (b j:Nat):(⟨b,0,none⟩:Addr).add j=⟨b,j,none⟩:=by
 unfold Addr.add;split
 .rename_i h;subst h;rfl
 .simp
theorem xd (w:World) (xs:List Int) (n:Nat) (hn:xs.length=n) (cs:Array Value) (a0:cs=(xs.map (Value.int .u8)).toArray) :
  (convert 22 9 (.slice (some ⟨w.heap.size,0,none⟩) n n)).run prog (w.alloc (.cells cs 5))=.ok (.string ⟨(xs.map fun x=>x.toNat.toUInt8).toArray⟩) (w.alloc (.cells cs 5)):=by
 subst a0;rw[run_convert_bytes_string _ _ _ _ _ _ _ underlying22 underlying5 underlying9];have hl:=run_loadCells_list (P:=prog) (w.alloc (.cells (xs.map (Value.int .u8)).toArray 5)) ⟨w.heap.size,0,none⟩ (xs.map (Value.int .u8)) (fun j v hj=>by
  rw[L1,World.cell?_alloc_new];simpa using hj)
 simp only[List.length_map,hn]at hl;rw[run_bytesToString _ _ n n xs hl,Hd];have a1:ByteArray.empty.data=#[]:=rfl;rw[a1];simp
theorem sz (u:ByteArray) (i:Nat) (x:UInt8) (h:i<u.size):(u.extract 0 i++⟨#[x]⟩++u.extract i u.size).size=u.size+1∧(u.extract 0 i++⟨#[x]⟩++u.extract (i+1) u.size).size=u.size∧(u.extract 0 i++u.extract (i+1) u.size).size=u.size-1:=by
 have e1:(⟨#[x]⟩:ByteArray).size=1:=rfl;simp only[ByteArray.size_append,ByteArray.size_extract,e1];omega
def az9 (w:World) (B b K M:Nat) (tv n:Value) (wr:World):Prop :=
 ∃ (j k:Nat) (t:ByteArray),n=.int .i64 j∧tv=.string t∧t.size+j≤M∧k+6*j≤K∧Cur wr B b k∧w.grownBy wr (some b)
theorem Ie (w:World) (B b k:Nat) (h:Cur w B b k) (hk:k≤800000000) (t ws:ByteArray) (ht:t.size≤1000000) (ah:0<ws.size) (ai:ws.size≤1000) :
  Calls prog 68 #[.pointer (some ⟨b,0,none⟩),.string t,.string ws] w fun e w'=>∃ t':ByteArray,e=.returned (.string t')∧t'.size≤t.size+2∧ed w w' B b k 14:=by
 have hB:=h.lt;have N:=ep w B b k h (by omega) 3 (by omega) (by omega);clear h;go_enter func68,ntmps68;go_wp2_with fail;refine N.mono ?_;rintro e w1 ⟨x,rfl,x0,x1,⟨⟨k1,aa,hC⟩,hg⟩⟩;obtain⟨j0,rfl⟩:=Int.eq_ofNat_of_zero_le x0;have ac:j0≤2:=by omega
 clear N x0 x1;go_wp2_with fail;go_loopw [1,7] (fun tv n wr=>az9 w B b (k+14) (t.size+2) tv n wr) (fun _ n _=>(intOf n).toNat)
 case atStart=>exact⟨j0,k1,t,rfl,rfl,by omega,by omega,hC,hg⟩
 case round =>
  clear hC hg aa;obtain⟨j,k2,u,rfl,rfl,hl,ad,a0,a1⟩:=hrel;by_cases hj:0<j
  .by_cases hu:0<u.size
   .have P:=ep wr B b k2 a0 (by omega) (u.size:Int) (by omega) (by omega)
    go_wp2_with fail;refine P.mono ?_;rintro e w3 ⟨i,rfl,i0,i1,⟨⟨k3,ae,a4⟩,a7⟩⟩;obtain⟨i,rfl⟩:=Int.eq_ofNat_of_zero_le i0;have hi:i<u.size:=by omega
    have P3:=ep w3 B b k3 a4 (by omega) (ws.size:Int) (by omega) (by omega);clear P i0 i1 a0;go_wp2_with fail;refine P3.mono ?_;rintro e w4 ⟨c,rfl,c0,c1,⟨⟨k4,af,a5⟩,a8⟩⟩;obtain⟨c,rfl⟩:=Int.eq_ofNat_of_zero_le c0;have hc:c<ws.size:=by omega
    have ab:(ws[c]'hc).toNat<256:=(ws[c]'hc).toNat_lt;have V:=fun a:Int=>xd w4 [a] 1 rfl #[.int .u8 a] rfl
    have a6:=a5.kept (World.grownBy_alloc w4 (.cells #[.int .u8 ((ws[c]'hc).toNat:Int)] 5) none) (fun k hk=>by cases hk);have P5:=ep _ B b k4 a6 (by omega) 3 (by omega) (by omega);clear P3 c0 c1 a4 a5 a6;go_wp2_with fail;refine P5.mono ?_;rintro e w5 ⟨y,rfl,y0,y1,⟨⟨k6,ag,a2⟩,a9⟩⟩;have a3:=bu a1 (bu a7 (bu a8 (bu (World.grownBy_alloc w4 _ (some b)) a9)));clear P5 V a1 a7 a8 a9;have hy:y=0∨y=1∨2≤y:=by omega
    rcases hy with rfl|rfl|hy
    .go_wp2_with fail
     go_quiet (fail)
     go_wp2;exact⟨⟨j-1,k6,_,by go_num,rfl,by have:=sz u i (ws[c]'hc) hi;omega,by omega,a2.drewN _,bu a3 (yy _ _ _)⟩,by simp[intOf];omega⟩
    .go_wp2_with fail
     go_quiet (fail)
     go_wp2;exact⟨⟨j-1,k6,_,by go_num,rfl,by have:=sz u i (ws[c]'hc) hi;omega,by omega,a2.drewN _,bu a3 (yy _ _ _)⟩,by simp[intOf];omega⟩
    .go_wp2_with fail
     go_quiet (fail)
     go_wp2;exact⟨⟨j-1,k6,_,by go_num,rfl,by have:=sz u i 0 hi;omega,by omega,a2.drewN _,bu a3 (yy _ _ _)⟩,by simp[intOf];omega⟩
   .go_wp2
    go_ret;exact⟨u,rfl,by omega,⟨k2,by omega,a0⟩,a1⟩
  .go_wp2
   go_ret;exact⟨u,rfl,by omega,⟨k2,by omega,a0⟩,a1⟩
theorem Lr {a b:ByteArray}(h:a=b):Ending.returned (.string a)=.returned (.string b):=by rw[h]
theorem am6 {r:Int}(h:[r]=Lib.encodeRuneZ r):(⟨#[r.toNat.toUInt8]⟩:ByteArray)=⟨(Lib.encodeRune r).toArray⟩:=by
 unfold Lib.encodeRune;rw[<- h];rfl
theorem am7 {r a b:Int}(h:[a,b]=Lib.encodeRuneZ r):(⟨#[a.toNat.toUInt8,b.toNat.toUInt8]⟩:ByteArray)=⟨(Lib.encodeRune r).toArray⟩:=by
 unfold Lib.encodeRune;rw[<- h];rfl
theorem Yv {r a b c:Int}(h:[a,b,c]=Lib.encodeRuneZ r):(⟨#[a.toNat.toUInt8,b.toNat.toUInt8,c.toNat.toUInt8]⟩:ByteArray)=⟨(Lib.encodeRune r).toArray⟩:=by
 unfold Lib.encodeRune;rw[<- h];rfl
theorem a95 {r a b c d:Int}(h:[a,b,c,d]=Lib.encodeRuneZ r):(⟨#[a.toNat.toUInt8,b.toNat.toUInt8,c.toNat.toUInt8,d.toNat.toUInt8]⟩:ByteArray)=⟨(Lib.encodeRune r).toArray⟩:=by
 unfold Lib.encodeRune;rw[<- h];rfl
theorem ap5 (r:Int) (h:bp r=true) (w:World) :
  Calls prog 93 #[.int .i64 r] w fun e w'=>e=.returned (.string ⟨(Lib.encodeRune r).toArray⟩)∧Below w.heap.size w w':=by
 obtain⟨h1,h2,h3⟩:=l7 h;clear h;by_cases c1:r<128
 .have V:=fun a:Int=>xd w [a] 1 rfl #[.int .u8 a] rfl
  go_enter func93,ntmps93;go_wp2;go_ret;exact⟨Lr (am6 (Lib.encodeRuneZ_one h1 (by omega)).symm),bY _⟩
 by_cases c2:r<2048
 .have V:=fun a b:Int=>xd w [a,b] 2 rfl #[.int .u8 a,.int .u8 b] rfl
  go_enter func93,ntmps93;go_wp2;go_ret;exact⟨Lr (am7 (Lib.encodeRuneZ_two (by omega) (by omega)).symm),bY _⟩
 by_cases c3:r<65536
 .have V:=fun a b c:Int=>xd w [a,b,c] 3 rfl #[.int .u8 a,.int .u8 b,.int .u8 c] rfl
  go_enter func93,ntmps93;go_wp2;go_ret;exact⟨Lr (Yv (Lib.encodeRuneZ_three (by omega)).symm),bY _⟩
 .have V:=fun a b c d:Int=>xd w [a,b,c,d] 4 rfl #[.int .u8 a,.int .u8 b,.int .u8 c,.int .u8 d] rfl
  go_enter func93,ntmps93;go_wp2;go_ret;exact⟨Lr (a95 (Lib.encodeRuneZ_four (by omega) (by omega)).symm),bY _⟩
def jw (zs:List Int):List UInt8:=zs.flatMap Lib.encodeRune
theorem Eg (zs:List Int) (k:Nat) (x:Int) (h:zs[k]? = some x):jw (zs.take (k+1))=jw (zs.take k)++Lib.encodeRune x:=by
 have hk:k<zs.length:=(List.getElem?_eq_some_iff.1 h).1;rw[List.take_succ_eq_append_getElem hk];have e:zs[k]=x:=by
  have:=List.getElem?_eq_getElem hk;rw[h]at this;exact (Option.some.inj this).symm
 rw[e];simp[jw]
theorem Bm (r:Int):(Lib.encodeRune r).length≤4:=by
 unfold Lib.encodeRune;simpa using (Lib.encodeRuneZ_length r).2
theorem C9 (zs:List Int) (k:Nat):(jw (zs.take k)).length≤4*k:=by
 induction k with
 | zero=>simp[jw]
 | succ k ih =>
  by_cases h:k<zs.length
  .rw[Eg zs k zs[k] (List.getElem?_eq_getElem h)]
   have:=Bm zs[k];simp only[List.length_append];omega
  .have e1:zs.take (k+1)=zs:=List.take_of_length_le (by omega)
   have e2:zs.take k=zs:=List.take_of_length_le (by omega);rw[e1];rw[e2]at ih;omega
def ar3 (w:World) (zs:List Int) (s i:Value) (wr:World):Prop :=
 ∃ k:Nat,k≤zs.length∧i=.int .i64 k∧s=.string ⟨(jw (zs.take k)).toArray⟩∧Below w.heap.size w wr
theorem Xy (a b:List UInt8):(⟨a.toArray⟩++⟨b.toArray⟩:ByteArray)=⟨(a++b).toArray⟩:=by
 apply ByteArray.ext
 simp
theorem Nr (w:World) (g cap:Nat) (zs:List Int) (hz:zs.length≤1048576) (hg:g<w.heap.size)
  (hc:∀ j,j<zs.length→w.cell? ⟨g,j,none⟩=some (.int .i64 (zs[j]?.getD 0))) (a1:∀ x ∈ zs,bp x=true) :
  Calls prog 43 #[.slice (some ⟨g,0,none⟩) zs.length cap] w fun e w'=>e=.returned (.string ⟨(jw zs).toArray⟩)∧Below w.heap.size w w':=by
 go_enter func43,ntmps43;go_wp2;go_loopw [3,8] (fun s i wr=>ar3 w zs s i wr) (fun _ i _=>zs.length-(intOf i).toNat)
 case atStart=>exact⟨0,Nat.zero_le _,rfl,rfl,bX⟩
 case round =>
  obtain⟨k,hk,rfl,rfl,a0⟩:=hrel;have a5:=C9 zs k;by_cases a3:k<zs.length
  .obtain⟨x,hx⟩:∃ x,zs[k]? = some x:=⟨_,List.getElem?_eq_getElem a3⟩
   have c0:=(a0.cell (p:=⟨g,k,none⟩) hg).trans (hc k a3);rw[hx]at c0;have c1:wr.cell? ⟨g,k,none⟩=some (.int .i64 x):=c0;have a2:=a1 x (List.mem_of_getElem? hx);have HE:Hid _:=Eg zs k x hx;have P:=fun w=>ap5 x a2 w
   have a7:=Bm x;have HC:Hid _:=hc;have HX:Hid _:=hx;clear hc c0 hx a1 a2;go_wp2_with (go_at_call 93;refine (P _).mono ?_;rintro e w1 ⟨rfl,a4⟩)
   exact⟨⟨k+1,by omega,by go_num,by rw[Xy,HE.out],a0.trans (a4.mono a0.size)⟩,by simp[intOf];omega⟩
  .have a6:k=zs.length:=by omega
   have e2:zs.take k=zs:=List.take_of_length_le (by omega);rw[e2];clear hc e2 a5;go_wp2;go_ret;exact⟨rfl,a0⟩
theorem La (w:World) (a:Option Addr) (c:Nat) :
  Calls prog 43 #[.slice a 0 c] w fun e w'=>e=.returned (.string ⟨#[]⟩)∧w'=w:=by
 go_enter func43,ntmps43;go_wp2;go_loop [3,8] (fun s i=>s=.string ⟨#[]⟩∧i=.int .i64 0) (fun _ _=>0)
 case atStart=>exact⟨rfl,rfl⟩
 case round =>
  obtain⟨rfl,rfl⟩:=hrel;go_wp2;go_ret;exact⟨rfl,rfl⟩
theorem xm {w:World} {B:Nat} {v:Value} {zs:List Int}(hz:zs.length≤1048576) (hI:ab w B v zs) (a0:∀ x ∈ zs,bp x=true) :
  Calls prog 43 #[v] w fun e w'=>e=.returned (.string ⟨(jw zs).toArray⟩)∧Below w.heap.size w w':=by
 have hl:=World.ownsRow.lt hI;rcases hI.form with ⟨rfl,rfl⟩|⟨g,cap,rfl,h1,h2⟩
 .refine (La w _ _).mono ?_
  rintro e w' ⟨rfl,rfl⟩;exact⟨rfl,bX⟩
 .exact Nr w g cap zs hz (hl g rfl).2 (fun j hj=>hI.cell j hj) a0
theorem Ge (w:World) (B b k:Nat) (h:Cur w B b k) (hk:k≤700000000) :
  Calls prog 72 #[.pointer (some ⟨b,0,none⟩)] w fun e w'=>∃ t:ByteArray,e=.returned (.string t)∧t.size≤30∧ed w w' B b k 60:=by
 have R:=D0 w B b k 7 h (by omega) (by omega);clear h;go_enter func72,ntmps72;go_wp2_with fail;refine R.mono ?_;rintro e w1 ⟨v1,zs,rfl,hI,hl,a8,⟨⟨k1,ab,a2⟩,a5⟩⟩;have E:=xm (by omega) hI a8;clear R;go_wp2_with fail;refine E.mono ?_;rintro e w2 ⟨rfl,a1⟩;have a3:=a2.kept (Ea a1 none) (fun k hk=>by cases hk);have a6:=bu a5 (Ea a1 (some b));have ae:(⟨(jw zs).toArray⟩:ByteArray).size≤28:=by
  have:=C9 zs 7;rw[List.take_of_length_le (by omega)]at this;show (jw zs).toArray.size≤28
  simpa using this
 generalize (⟨(jw zs).toArray⟩:ByteArray)=u at *;have O:=uj w2 B b k1 a3 (by omega) 6 (by omega) (by omega);clear E a5 a2 a1 a3 hI a8;go_wp2_with fail;refine O.mono ?_;rintro e w3 ⟨bo,rfl,⟨⟨k3,ac,a4⟩,a7⟩⟩;have a0:=bu a6 a7;clear O a6 a7
 cases bo
 .go_wp2
  go_ret;exact⟨u,rfl,by omega,⟨k3,by omega,a4⟩,a0⟩
 .go_wp2_with fail
  refine (Ie w3 B b k3 a4 (by omega) u _ (by omega) (by decide) (by decide)).mono ?_;rintro e w4 ⟨t,rfl,ht,⟨⟨k4,ad,a9⟩,aa⟩⟩;go_wp2;go_ret;exact⟨t,rfl,by omega,⟨k4,by omega,a9⟩,bu a0 aa⟩
structure El where
 first:Int
 second:Int
 third:Int
 varies:Bool
def elC (e:El):List Value:=[.int .i64 e.first,.int .i64 e.second,.int .i64 e.third,.bool e.varies]
def elV (e:El):Value:=.agg #[.int .i64 e.first,.int .i64 e.second,.int .i64 e.third,.bool e.varies]
def kt (es:List El):List Value:=es.flatMap elC
theorem ts (es:List El):(kt es).length=es.length*4:=by
 induction es with
 | nil=>rfl
 | cons e es ih=>show (elC e++kt es).length=_;rw[List.length_append,ih,List.length_cons];show 4+_=_;omega
theorem a88 (es:List El) (k i:Nat) (e:El) (h:es[k]? = some e) (hi:i<4):(kt es)[k*4+i]? = (elC e)[i]?:=by
 induction es generalizing k with
 | nil=>simp at h
 | cons x es ih =>
  show (elC x++kt es)[k*4+i]? = _
  cases k with
  | zero =>
   simp at h;subst h;rw[Nat.zero_mul,Nat.zero_add,List.getElem?_append_left (by show i<4;exact hi)]
  | succ k =>
   have h':es[k]? = some e:=by simpa using h
   rw[List.getElem?_append_right (by show 4≤_;omega)];have e4:(k+1)*4+i-(elC x).length=k*4+i:=by show (k+1)*4+i-4=_;omega
   rw[e4];exact ih k h'
def ah (w:World) (B:Nat) (v:Value) (es:List El):Prop:=w.ownsRow B 111 4 v es.length (kt es)
theorem ah.form {w:World} {B:Nat} {v:Value} {es:List El}(h:ah w B v es):(v=.slice none 0 0∧es=[])∨∃ g cap,v=.slice (some ⟨g,0,none⟩) es.length cap∧es.length≤cap∧cap≤maxLen:=by
 rcases h.2 with ⟨a,b⟩|⟨g,cap,cur,a,b,c,d,e,_⟩
 .exact .inl ⟨a,List.eq_nil_of_length_eq_zero b⟩
 .exact .inr ⟨g,cap,a,d,e⟩
theorem ah.cells {w:World} {B g cap:Nat} {es:List El}(h:ah w B (.slice (some ⟨g,0,none⟩) es.length cap) es) (k:Nat) (e:El) (hk:es[k]? = some e) :
  w.cell? ⟨g,k*4,none⟩=some (.int .i64 e.first)∧w.cell? ⟨g,k*4+1,none⟩=some (.int .i64 e.second)∧w.cell? ⟨g,k*4+2,none⟩=some (.int .i64 e.third)∧w.cell? ⟨g,k*4+3,none⟩=some (.bool e.varies):=by
 have a1:=(List.getElem?_eq_some_iff.1 hk).1;have a0:∀ i,i<4→w.cell? ⟨g,k*4+i,none⟩=(elC e)[i]?:=fun i hi=>by
  rw[World.ownsRow.cellAt h (k*4+i) (by omega),a88 es k i e hk hi]
 exact⟨a0 0 (by omega),a0 1 (by omega),a0 2 (by omega),a0 3 (by omega)⟩
theorem ah.below {w w':World} {B:Nat} {v:Value} {es:List El}(h:ah w B v es) (hb:Below w.heap.size w w'):ah w' B v es :=
 World.ownsRow.kept h (row:=none) ⟨hb.os,hb.tape,hb.output,hb.size,fun k hk _=>hb.block k hk⟩ (by cases h:v.ownBlock <;> simp)
structure Ent where
 runes:List Int
 el:El
def gm (x:Value) (e:El):List Value:=[x,.int .i64 e.first,.int .i64 e.second,.int .i64 e.third,.bool e.varies]
def eu:List Value→List Ent→List Value
 | x::xs,e::es=>gm x e.el++eu xs es
 | _,_=>[]
theorem Ue (xs:List Value) (es:List Ent) (h:xs.length=es.length):(eu xs es).length=es.length*5:=by
 induction es generalizing xs with
 | nil=>cases xs with
  | nil=>rfl
  | cons x xs=>simp at h
 | cons e es ih=>cases xs with
  | nil=>simp at h
  | cons x xs =>
   show (gm x e.el++eu xs es).length=_
   rw[List.length_append,ih xs (by simpa using h),List.length_cons];show 5+_=_
   omega
theorem Yw (xs:List Value) (es:List Ent) (k i:Nat) (x:Value) (e:Ent) (hx:xs[k]? = some x) (he:es[k]? = some e) (hi:i<5):(eu xs es)[k*5+i]? = (gm x e.el)[i]?:=by
 induction es generalizing xs k with
 | nil=>simp at he
 | cons e' es ih=>cases xs with
  | nil=>simp at hx
  | cons x' xs =>
   show (gm x' e'.el++eu xs es)[k*5+i]? = _
   cases k with
   | zero =>
    simp at hx he;subst hx;subst he;rw[Nat.zero_mul,Nat.zero_add,List.getElem?_append_left (by show i<5;exact hi)]
   | succ k =>
    rw[List.getElem?_append_right (by show 5≤_;omega)];have e5:(k+1)*5+i-(gm x' e'.el).length=k*5+i:=by show (k+1)*5+i-5=_;omega
    rw[e5];exact ih xs k (by simpa using hx) (by simpa using he)
def ac (w:World) (B:Nat) (v:Value) (es:List Ent):Prop :=
 ∃ xs:List Value,xs.length=es.length∧w.ownsRow B 117 5 v es.length (eu xs es)∧∀ (k:Nat) (e:Ent),es[k]? = some e→∃ x,xs[k]? = some x∧ab w B x e.runes
theorem ac.form {w:World} {B:Nat} {v:Value} {es:List Ent}(h:ac w B v es):(v=.slice none 0 0∧es=[])∨∃ g cap,v=.slice (some ⟨g,0,none⟩) es.length cap∧es.length≤cap∧cap≤maxLen∧g<w.heap.size∧B≤g:=by
 obtain⟨xs,_,h1,_⟩:=h;have hl:=World.ownsRow.lt h1;rcases h1.2 with ⟨a,b⟩|⟨g,cap,cur,rfl,b,c,d,e,_⟩
 .exact .inl ⟨a,List.eq_nil_of_length_eq_zero b⟩
 .exact .inr ⟨g,cap,rfl,d,e,(hl g rfl).2,(hl g rfl).1⟩
theorem ac.cells {w:World} {B g cap:Nat} {es:List Ent}(h:ac w B (.slice (some ⟨g,0,none⟩) es.length cap) es) (k:Nat) (e:Ent) (hk:es[k]? = some e) :
  ∃ x,ab w B x e.runes∧w.cell? ⟨g,k*5,none⟩=some x∧w.cell? ⟨g,k*5+1,none⟩=some (.int .i64 e.el.first)∧w.cell? ⟨g,k*5+2,none⟩=some (.int .i64 e.el.second)∧w.cell? ⟨g,k*5+3,none⟩=some (.int .i64 e.el.third)∧w.cell? ⟨g,k*5+4,none⟩=some (.bool e.el.varies):=by
 obtain⟨xs,hl,h1,h2⟩:=h;obtain⟨x,hx,hI⟩:=h2 k e hk;have a1:=(List.getElem?_eq_some_iff.1 hk).1;have a0:∀ i,i<5→w.cell? ⟨g,k*5+i,none⟩=(gm x e.el)[i]?:=fun i hi=>by
  rw[World.ownsRow.cellAt h1 (k*5+i) (by omega),Yw xs es k i x e hx hk hi]
 exact⟨x,hI,a0 0 (by omega),a0 1 (by omega),a0 2 (by omega),a0 3 (by omega),a0 4 (by omega)⟩
theorem ac.below {w w':World} {B:Nat} {v:Value} {es:List Ent}(h:ac w B v es) (hb:Below w.heap.size w w'):ac w' B v es:=by
 obtain⟨xs,hl,h1,h2⟩:=h;refine⟨xs,hl,World.ownsRow.kept h1 (row:=none) ⟨hb.os,hb.tape,hb.output,hb.size,fun k hk _=>hb.block k hk⟩ (by cases h:v.ownBlock <;> simp),fun k e he=>?_⟩;obtain⟨x,hx,hI⟩:=h2 k e he;exact⟨x,hx,hI.below hb⟩
theorem ac.nil (w:World) (B:Nat):ac w B (.slice none 0 0) []:=⟨[],rfl,⟨rfl,.inl ⟨rfl,rfl⟩⟩,fun k e h=>by simp at h⟩
theorem Wo {a b:Int}(h:a=b):Ending.returned (.int .i64 a)=.returned (.int .i64 b):=by rw[h]
theorem Bt (r:Int) (w:World):Calls prog 127 #[.int .i64 r] w fun e w'=>e=.returned (.int .i64 (cls r))∧w'=w:=by
 go_enter func127,ntmps127;go_wp2;all_goals
  go_ret;refine⟨Wo ?_,rfl⟩;simp only[beq_iff_eq,beq_eq_false_iff_ne,ne_eq]at *;simp[cls, *]
def okR (zs:List Int):Bool:=decide (zs.length≤200∧∀ x ∈ zs,bp x=true)
theorem qi {zs:List Int}(h:okR zs=true):zs.length≤200∧∀ x ∈ zs,bp x=true:=of_decide_eq_true h
def A5 (zs:List Int) (k:Nat):Prop:=∀ j x,j<k→zs[j]? = some x→bp x=true
theorem A5.succ {zs:List Int} {k:Nat} {x:Int}(h:A5 zs k) (hx:zs[k]? = some x) (hg:bp x=true):A5 zs (k+1):=by
 intro j y hj hy;by_cases e:j=k
 .subst e;rw[hx]at hy;cases hy;exact hg
 .exact h j y (by omega) hy
theorem A5.all {zs:List Int} {k:Nat}(h:A5 zs k) (hk:¬ k<zs.length):∀ x ∈ zs,bp x=true:=by
 intro x hx;obtain⟨j,hj⟩:=List.mem_iff_getElem?.1 hx;have:=(List.getElem?_eq_some_iff.1 hj).1;exact h j x (by omega) hj
theorem Zd (w:World) (a:Option Addr) (c:Nat):Calls prog 40 #[.slice a 0 c] w fun e w'=>e=.returned (.bool true)∧w'=w:=by
 go_enter func40,ntmps40;go_wp2;go_loop [7] (fun i=>i=.int .i64 0) (fun _=>0)
 case atStart=>rfl
 case round =>
  subst hrel;go_wp2;go_ret;exact⟨rfl,rfl⟩
theorem aa5 (w:World) (g cap:Nat) (zs:List Int) (hz:zs.length≤1048576)
  (hc:∀ j,j<zs.length→w.cell? ⟨g,j,none⟩=some (.int .i64 (zs[j]?.getD 0))) :
  Calls prog 40 #[.slice (some ⟨g,0,none⟩) zs.length cap] w fun e w'=>e=.returned (.bool (okR zs))∧w'=w:=by
 go_enter func40,ntmps40;go_wp2;go_loop [7] (fun i=>∃ k:Nat,k≤zs.length∧i=.int .i64 k∧Hid (A5 zs k)) (fun i=>zs.length-(intOf i).toNat)
 case atStart=>exact⟨0,Nat.zero_le _,rfl,fun j x hj=>by omega⟩
 case round =>
  obtain⟨k,hk,rfl,HG⟩:=hrel;by_cases a0:k<zs.length
  .obtain⟨x,hx⟩:∃ x,zs[k]? = some x:=⟨_,List.getElem?_eq_getElem a0⟩
   have c0:=hc k a0;rw[hx]at c0;have c1:w.cell? ⟨g,k,none⟩=some (.int .i64 x):=c0
   cases hgx:bp x
   .have P:=fun w=>Rt x hgx w
    have HN:Hid (false=okR zs):=by
     refine (decide_eq_false fun h=>?_).symm;have:=h.2 x (List.mem_of_getElem? hx);rw[hgx]at this;cases this
    clear hc c0 hx hgx;go_wp2_with (go_at_call 42;refine (P _).mono ?_;rintro e w1 ⟨rfl,rfl⟩)
    go_ret;exact⟨jj HN.out,rfl⟩
   .have P:=fun w=>Pf x hgx w
    have a1:Hid (A5 zs (k+1)):=HG.out.succ hx hgx;clear hc c0 hx hgx;go_wp2_with (go_at_call 42;refine (P _).mono ?_;rintro e w1 ⟨rfl,rfl⟩)
    exact⟨⟨k+1,by omega,by go_num,a1⟩,by simp[intOf];omega⟩
  .have HA:=HG.out.all a0
   have HY:Hid (decide ((zs.length:Int)≤200)=okR zs):=by
    show _=_
    unfold okR;by_cases c:zs.length≤200
    .rw[show decide (zs.length≤200∧∀ x ∈ zs,bp x=true)=true from decide_eq_true ⟨c,HA⟩];simp;omega
    .rw[show decide (zs.length≤200∧∀ x ∈ zs,bp x=true)=false from decide_eq_false (fun h=>c h.1)];simp;omega
   clear hc HA;go_wp2;go_ret;exact⟨jj HY.out,rfl⟩
theorem aa4 {w:World} {B:Nat} {v:Value} {zs:List Int}(hz:zs.length≤1048576) (hI:ab w B v zs) :
  Calls prog 40 #[v] w fun e w'=>e=.returned (.bool (okR zs))∧w'=w:=by
 rcases hI.form with ⟨rfl,rfl⟩|⟨g,cap,rfl,h1,h2⟩
 .have:okR []=true:=decide_eq_true ⟨by simp,by simp⟩
  rw[this];exact Zd w _ _
 .exact aa5 w g cap zs hz (fun j hj=>hI.cell j hj)
def ni:List (List Int):=[[255,121,776],[7844,194,769],[7845,226,769],[7779,115,803],[7785,7779,775]]
def jv:List (List Int):=[[192,65,768,769,770,771,776,778],[199,67,807],[200,69,768,769,770,776],[204,73,768,769,770,776],[209,78,771],[210,79,768,769,770,771,776],[217,85,768,769,770,776],[221,89,769]]
def gu (r:List Int):List (List Int):=match r with
 | r0::r1::ms=>(ms.zipIdx).flatMap fun p=>[[r0+(p.2:Int),r1,p.1],[r0+(p.2:Int)+32,r1+32,p.1]]
 | _=>[]
def tab:List (List Int):=ni++jv.flatMap gu
theorem J8:tab.length=57:=by decide
theorem a56:∀ t ∈ tab,t.length=3:=by decide
def apart (r:Int):List Int :=
 if r=8491 then [197]
 else if 44032≤r∧r≤55203 then
  [4352+(r-44032) / 588,4449+(r-44032) % 588 / 28]++(if 0<(r-44032) % 28 then [4519+(r-44032) % 28] else [])
 else match tab.find? (fun t=>at0 t 0 == r) with
  | some t=>[at0 t 1,at0 t 2]
  | none=>[r]
def o5:List (List Int):=jv.flatMap gu++ni
theorem Qm {α:Type}(p:α→Bool) (E F:List α) (h:∀ e ∈ E,∀ f ∈ F,p e=true→p f=true→False):(E++F).find? p=(F++E).find? p:=by
 rw[List.find?_append,List.find?_append]
 cases he:E.find? p with
 | none=>cases F.find? p <;> rfl
 | some e =>
  cases hf:F.find? p with
  | none=>rfl
  | some f=>exact (h e (List.mem_of_find?_eq_some he) f (List.mem_of_find?_eq_some hf) (List.find?_some he) (List.find?_some hf)).elim
theorem Vl:∀ e ∈ jv.flatMap gu,∀ f ∈ ni,at0 e 0≠at0 f 0∧¬ (at0 e 1=at0 f 1∧at0 e 2=at0 f 2):=by decide +kernel
theorem Xg (r:Int):o5.find? (fun t=>at0 t 0 == r)=tab.find? (fun t=>at0 t 0 == r):=by
 refine Qm _ _ _ fun e he f hf h1 h2=>?_
 simp at h1 h2;exact (Vl e he f hf).1 (by rw[h1,h2])
theorem tm (r:Int):1≤(apart r).length∧(apart r).length≤3:=by
 unfold apart;split
 .simp
 .split
  .split <;> simp
  .split <;> simp
def full:Nat→Int→List Int
 | 0,r=>[r]
 | n+1,r=>if apart r=[r] then [r] else (apart r).flatMap (full n)
def qg:Nat→Int→Bool
 | 0,r=>apart r == [r]
 | n+1,r=>apart r == [r] || (apart r).all (qg n)
theorem Kh {r:Int}(h:qg 0 r=true):apart r=[r]:=by simpa [qg] using h
theorem Kg {n:Nat} {r:Int}(h:qg (n+1) r=true):apart r=[r]∨∀ x ∈ apart r,qg n x=true:=by
 simpa [qg] using h
theorem ac0 {n:Nat} {r:Int}(h:apart r=[r]):qg n r=true:=by
 cases n <;> simp[qg,h]
theorem og {n:Nat} {r:Int}(h:apart r=[r]):full n r=[r]:=by
 cases n <;> simp[full,h]
theorem wi {n:Nat} {r:Int}(h:apart r≠[r]):full (n+1) r=(apart r).flatMap (full n):=by simp[full,h]
theorem aq6:∀ t ∈ tab,at0 t 0<4352∨4600<at0 t 0:=by decide +kernel
theorem Mv {p:List Int→Bool}(h:∀ t ∈ tab,p t=false):tab.find? p=none:=by
 rw[List.find?_eq_none];intro t ht;simp[h t ht]
theorem Ke {x:Int}(h1:4352≤x) (h2:x≤4600):apart x=[x]:=by
 unfold apart;rw[if_neg (by omega),if_neg (by omega),Mv];intro t ht;have:=aq6 t ht;simp;omega
theorem ai2:∀ t ∈ tab,qg 1 (at0 t 1)=true∧qg 1 (at0 t 2)=true:=by decide +kernel
theorem Da {r:Int}(h1:44032≤r) (h2:r≤55203):apart r=[4352+(r-44032) / 588,4449+(r-44032) % 588 / 28]++(if 0<(r-44032) % 28 then [4519+(r-44032) % 28] else []):=by
 unfold apart;rw[if_neg (by omega),if_pos ⟨h1,h2⟩]
theorem Db {r:Int}(h1:44032≤r) (h2:r≤55203):∀ x ∈ apart r,4352≤x∧x≤4600:=by
 rw[Da h1 h2];intro x hx;simp only[List.cons_append,List.nil_append,List.mem_cons]at hx;rcases hx with rfl|rfl|hx
 .omega
 .omega
 .split at hx
  .simp at hx;subst hx;omega
  .simp at hx
theorem au9 (r:Int):qg 2 r=true:=by
 by_cases h1:r=8491
 .subst h1;decide +kernel
 by_cases h2:44032≤r∧r≤55203
 .have:=Db h2.1 h2.2
  simp only[qg,Bool.or_eq_true,List.all_eq_true];right
  intro x hx;have hl:=Ke (this x hx).1 (this x hx).2;exact .inl (by simpa using hl)
 .cases hf:tab.find? (fun t=>at0 t 0 == r) with
  | none =>
   refine ac0 ?_;unfold apart;rw[if_neg h1,if_neg h2,hf]
  | some t =>
   have ha:apart r=[at0 t 1,at0 t 2]:=by unfold apart;rw[if_neg h1,if_neg h2,hf]
   have:=ai2 t (List.mem_of_find?_eq_some hf);show (apart r == [r] || (apart r).all (qg 1))=true
   rw[ha];simp[this.1,this.2]
def kw (r:Int):List Int:=full 2 r
theorem pr {α β:Type}(f:α→List β) (n:Nat) (l:List α) (h:∀ x,(f x).length≤n):(l.flatMap f).length≤l.length*n:=by
 induction l with
 | nil=>simp
 | cons a l ih=>simp only[List.flatMap_cons,List.length_append,List.length_cons];have:=h a;rw[Nat.succ_mul];omega
theorem Fp (n:Nat) (r:Int):(full n r).length≤3 ^ n:=by
 induction n generalizing r with
 | zero=>simp[full]
 | succ n ih =>
  by_cases h:apart r=[r]
  .rw[og h];exact Nat.one_le_pow _ _ (by omega)
  .rw[wi h]
   have:=pr (full n) (3 ^ n) (apart r) ih;have h3:=(tm r).2;calc _≤(apart r).length*3 ^ n:=this
    _≤3*3 ^ n:=Nat.mul_le_mul_right _ h3
    _=3 ^ (n+1):=by rw[Nat.pow_succ];omega
theorem wv (r:Int):(kw r).length≤9:=Fp 2 r
theorem W3:∀ t ∈ tab,bp (at0 t 0)=true∧bp (at0 t 1)=true∧bp (at0 t 2)=true:=by decide +kernel
theorem Gm {r:Int}(h:bp r=true):∀ x ∈ apart r,bp x=true:=by
 by_cases h1:r=8491
 .subst h1;decide +kernel
 by_cases h2:44032≤r∧r≤55203
 .intro x hx
  have:=Db h2.1 h2.2 x hx;exact decide_eq_true (by omega)
 .cases hf:tab.find? (fun t=>at0 t 0 == r) with
  | none =>
   have ha:apart r=[r]:=by unfold apart;rw[if_neg h1,if_neg h2,hf]
   rw[ha];simpa using h
  | some t =>
   have ha:apart r=[at0 t 1,at0 t 2]:=by unfold apart;rw[if_neg h1,if_neg h2,hf]
   have:=W3 t (List.mem_of_find?_eq_some hf);rw[ha];simp[this.2.1,this.2.2]
theorem Z8 (n:Nat){r:Int}(h:bp r=true):∀ x ∈ full n r,bp x=true:=by
 induction n generalizing r with
 | zero=>simpa [full] using h
 | succ n ih =>
  by_cases e:apart r=[r]
  .rw[og e];simpa using h
  .rw[wi e]
   intro x hx;obtain⟨y,hy,hx⟩:=List.mem_flatMap.1 hx;exact ih (Gm h y hy) x hx
def apD (zs:List Int):List Int:=zs.flatMap kw
def nD (zs:List Int):List Int:=mc (apD zs)
theorem zj (zs:List Int):(apD zs).length≤zs.length*9:=pr kw 9 zs wv
theorem zw (zs:List Int):(nD zs).length=(apD zs).length:=xz _
theorem M0 {zs:List Int}(h:∀ x ∈ zs,bp x=true):∀ x ∈ apD zs,bp x=true:=by
 intro x hx;obtain⟨y,hy,hx⟩:=List.mem_flatMap.1 hx;exact Z8 2 (h y hy) x hx
theorem au (u:World) (b o:Nat) (x:Value):u.grownBy (u.setCell ⟨b,o,none⟩ x) (some b):=by
 refine⟨rfl,rfl,rfl,by simp,fun k hk hne=>?_⟩;have h:b≠k:=fun e=>hne (by rw[e])
 simp[World.setCell,Array.getElem?_modify,h]
end Go.Proofs.YtjbmgghehdemdaaGreatDoor
