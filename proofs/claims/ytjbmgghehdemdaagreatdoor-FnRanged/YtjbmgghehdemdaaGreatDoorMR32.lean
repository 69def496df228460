/- IHas -/
import Derived.Test.YtjbmgghehdemdaaGreatDoorMR31
import Derived.Test.YtjbmgghehdemdaaGreatDoorMR13
namespace Go.Proofs.YtjbmgghehdemdaaGreatDoor
set_option maxRecDepth 100000
set_option maxHeartbeats 16000000
open _root_.Go.Proofs.Tryz
open Go.RowKit
def q1 (n:Int) (x:El):Bool:=x.first == n
def Lv (w:World) (es:List Ent) (q:El->Bool) (i:Value) (wr:World):Prop:=∃ k:Nat,k<=es.length/\i=.int .i64 k/\kh es q k/\Below w.heap.size w wr
def q2' (a n:Int) (x:El):Bool:=x.first == a && x.second == n
def q3' (a b n:Int) (x:El):Bool:=(x.first == a && x.second == b) && x.third == n
theorem ab0 (w:World) (B g cap:Nat) (es:List Ent) (n:Int) (h:ac w B (.slice (some ⟨g,0,none⟩) es.length cap) es) (hn:es.length<=1048576) :
  Calls prog 192 #[.slice (some ⟨g,0,none⟩) es.length cap,.int .i64 n] w fun e w'=>e=.returned (.bool (d6 es (q1 n)))/\Below w.heap.size w w':=by
 go_enter func192,ntmps192;go_wp2;go_loopw [9] (fun i wr=>Lv w es (q1 n) i wr) (fun i _=>es.length-(intOf i).toNat)
 case atStart=>exact⟨0,Nat.zero_le _,rfl,fun j e hj=>by omega,bX⟩
 case round =>
  obtain⟨k,E,rfl,p,d⟩:=hrel;have b:=hZ p;clear p;by_cases t:k<es.length
  .obtain⟨e,l⟩:∃ e,es[k]? = some e:=⟨_,List.getElem?_eq_getElem t⟩
   obtain⟨x,r,y,z,A,C,D⟩:=(h.below d).cells k e l;obtain⟨m,o,xc,rfl⟩:∃ m o xc,x=.slice m o xc:=by
    rcases r.form with ⟨rfl,_⟩|⟨_,_,rfl,_,_⟩
    .exact⟨_,_,_,rfl⟩
    .exact⟨_,_,_,rfl⟩
   have v:(k:Int)<(es.length:Int):=by omega
   have q:=d.alloc d.size (.cells #[.slice m o xc,.int .i64 e.el.first,.int .i64 e.el.second,.int .i64 e.el.third,.bool e.el.varies] 117);have c:Hid _:=l;clear l r h;by_cases a:e.el.first=n
   .have u:(e.el.first == n)=true:=by simpa using a
    have f:Hid (d6 es (q1 n)=true):=sf c.out (by show (q1 n e.el)=true;unfold q1;simp[a]);clear b c a;go_wp2;go_ret;rw[f.out];exact⟨rfl,q⟩
   .have u:(e.el.first == n)=false:=by simpa using a
    have s:Hid (kh es (q1 n) (k+1)):=b.out.succ c.out (by show (q1 n e.el)=false;unfold q1;simp[a]);clear b c a;go_wp2;exact⟨⟨k+1,by omega,by go_num,s.out,q⟩,by simp[intOf];omega⟩
  .have f:Hid (d6 es (q1 n)=false):=qp b.out (by omega)
   clear b h;go_wp2;go_ret;rw[f.out];exact⟨rfl,d⟩
theorem aa9 (w:World) (n:Int):Calls prog 192 #[.slice none 0 0,.int .i64 n] w fun e w'=>e=.returned (.bool (d6 [] (q1 n)))/\Below w.heap.size w w':=by
 have a:Hid (d6 [] (q1 n)=false):=rfl;go_enter func192,ntmps192;go_wp2;go_loop [9] (fun i=>i=.int .i64 0) (fun _=>0)
 case atStart=>rfl
 case round =>
  subst hrel;go_wp2;go_ret;rw[a.out];exact⟨rfl,bX⟩
theorem aa8 {w:World} {B:Nat} {v:Value} {es:List Ent}(n:Int) (a:ac w B v es) (hn:es.length<=1048576) :
  Calls prog 192 #[v,.int .i64 n] w fun e w'=>e=.returned (.bool (d6 es (q1 n)))/\Below w.heap.size w w':=by
 rcases a.form with ⟨rfl,rfl⟩|⟨g,b,rfl,_,_,_,_⟩
 .exact aa9 w n
 .exact ab0 w B g b es n a hn
theorem ab3 (w:World) (B g cap:Nat) (es:List Ent) (a n:Int) (p:ac w B (.slice (some ⟨g,0,none⟩) es.length cap) es) (hn:es.length<=1048576) :
  Calls prog 194 #[.slice (some ⟨g,0,none⟩) es.length cap,.int .i64 a,.int .i64 n] w fun e w'=>e=.returned (.bool (d6 es (q2' a n)))/\Below w.heap.size w w':=by
 go_enter func194,ntmps194;go_wp2;go_loopw [11] (fun i wr=>Lv w es (q2' a n) i wr) (fun i _=>es.length-(intOf i).toNat)
 case atStart=>exact⟨0,Nat.zero_le _,rfl,fun j e hj=>by omega,bX⟩
 case round =>
  obtain⟨k,H,rfl,t,h⟩:=hrel;have b:=hZ t;clear t;by_cases v:k<es.length
  .obtain⟨e,q⟩:∃ e,es[k]? = some e:=⟨_,List.getElem?_eq_getElem v⟩
   obtain⟨x,u,C,D,E,F,G⟩:=(p.below h).cells k e q;obtain⟨r,s,xc,rfl⟩:∃ r s xc,x=.slice r s xc:=by
    rcases u.form with ⟨rfl,_⟩|⟨_,_,rfl,_,_⟩
    .exact⟨_,_,_,rfl⟩
    .exact⟨_,_,_,rfl⟩
   have A:(k:Int)<(es.length:Int):=by omega
   have m:=h.alloc h.size (.cells #[.slice r s xc,.int .i64 e.el.first,.int .i64 e.el.second,.int .i64 e.el.third,.bool e.el.varies] 117);have d:Hid _:=q;clear q u p;by_cases c:e.el.first=a
   .have y:(e.el.first == a)=true:=by simpa using c
    by_cases f:e.el.second=n
    .have z:(e.el.second == n)=true:=by simpa using f
     have o:Hid (d6 es (q2' a n)=true):=sf d.out (by show (q2' a n e.el)=true;unfold q2';simp[c,f]);clear b d c f;go_wp2;go_ret;rw[o.out];exact⟨rfl,m⟩
    .have z:(e.el.second == n)=false:=by simpa using f
     have l:Hid (kh es (q2' a n) (k+1)):=b.out.succ d.out (by show (q2' a n e.el)=false;unfold q2';simp[f]);clear b d c f;go_wp2;exact⟨⟨k+1,by omega,by go_num,l.out,m⟩,by simp[intOf];omega⟩
   .have y:(e.el.first == a)=false:=by simpa using c
    have l:Hid (kh es (q2' a n) (k+1)):=b.out.succ d.out (by show (q2' a n e.el)=false;unfold q2';simp[c]);clear b d c;go_wp2;exact⟨⟨k+1,by omega,by go_num,l.out,m⟩,by simp[intOf];omega⟩
  .have o:Hid (d6 es (q2' a n)=false):=qp b.out (by omega)
   clear b p;go_wp2;go_ret;rw[o.out];exact⟨rfl,h⟩
theorem ab2 (w:World) (a n:Int):Calls prog 194 #[.slice none 0 0,.int .i64 a,.int .i64 n] w fun e w'=>e=.returned (.bool (d6 [] (q2' a n)))/\Below w.heap.size w w':=by
 have b:Hid (d6 [] (q2' a n)=false):=rfl;go_enter func194,ntmps194;go_wp2;go_loop [11] (fun i=>i=.int .i64 0) (fun _=>0)
 case atStart=>rfl
 case round =>
  subst hrel;go_wp2;go_ret;rw[b.out];exact⟨rfl,bX⟩
theorem ab1 {w:World} {B:Nat} {v:Value} {es:List Ent}(a n:Int) (b:ac w B v es) (hn:es.length<=1048576) :
  Calls prog 194 #[v,.int .i64 a,.int .i64 n] w fun e w'=>e=.returned (.bool (d6 es (q2' a n)))/\Below w.heap.size w w':=by
 rcases b.form with ⟨rfl,rfl⟩|⟨g,c,rfl,_,_,_,_⟩
 .exact ab2 w a n
 .exact ab3 w B g c es a n b hn
theorem ab6 (w:World) (B g cap:Nat) (es:List Ent) (a b n:Int) (r:ac w B (.slice (some ⟨g,0,none⟩) es.length cap) es) (hn:es.length<=1048576) :
  Calls prog 195 #[.slice (some ⟨g,0,none⟩) es.length cap,.int .i64 a,.int .i64 b,.int .i64 n] w fun e w'=>e=.returned (.bool (d6 es (q3' a b n)))/\Below w.heap.size w w':=by
 go_enter func195,ntmps195;go_wp2;go_loopw [13] (fun i wr=>Lv w es (q3' a b n) i wr) (fun i _=>es.length-(intOf i).toNat)
 case atStart=>exact⟨0,Nat.zero_le _,rfl,fun j e hj=>by omega,bX⟩
 case round =>
  obtain⟨k,K,rfl,v,p⟩:=hrel;have c:=hZ v;clear v;by_cases z:k<es.length
  .obtain⟨e,s⟩:∃ e,es[k]? = some e:=⟨_,List.getElem?_eq_getElem z⟩
   obtain⟨x,y,F,G,H,I,J⟩:=(r.below p).cells k e s;obtain⟨t,u,xc,rfl⟩:∃ t u xc,x=.slice t u xc:=by
    rcases y.form with ⟨rfl,_⟩|⟨_,_,rfl,_,_⟩
    .exact⟨_,_,_,rfl⟩
    .exact⟨_,_,_,rfl⟩
   have E:(k:Int)<(es.length:Int):=by omega
   have o:=p.alloc p.size (.cells #[.slice t u xc,.int .i64 e.el.first,.int .i64 e.el.second,.int .i64 e.el.third,.bool e.el.varies] 117);have d:Hid _:=s;clear s y r;by_cases f:e.el.first=a
   .have A:(e.el.first == a)=true:=by simpa using f
    by_cases h:e.el.second=b
    .have C:(e.el.second == b)=true:=by simpa using h
     by_cases l:e.el.third=n
     .have D:(e.el.third == n)=true:=by simpa using l
      have q:Hid (d6 es (q3' a b n)=true):=sf d.out (by show (q3' a b n e.el)=true;unfold q3';simp[f,h,l]);clear c d f h l;go_wp2;go_ret;rw[q.out];exact⟨rfl,o⟩
     .have D:(e.el.third == n)=false:=by simpa using l
      have m:Hid (kh es (q3' a b n) (k+1)):=c.out.succ d.out (by show (q3' a b n e.el)=false;unfold q3';simp[l]);clear c d f h l;go_wp2;exact⟨⟨k+1,by omega,by go_num,m.out,o⟩,by simp[intOf];omega⟩
    .have C:(e.el.second == b)=false:=by simpa using h
     have m:Hid (kh es (q3' a b n) (k+1)):=c.out.succ d.out (by show (q3' a b n e.el)=false;unfold q3';simp[h]);clear c d f h;go_wp2;exact⟨⟨k+1,by omega,by go_num,m.out,o⟩,by simp[intOf];omega⟩
   .have A:(e.el.first == a)=false:=by simpa using f
    have m:Hid (kh es (q3' a b n) (k+1)):=c.out.succ d.out (by show (q3' a b n e.el)=false;unfold q3';simp[f]);clear c d f;go_wp2;exact⟨⟨k+1,by omega,by go_num,m.out,o⟩,by simp[intOf];omega⟩
  .have q:Hid (d6 es (q3' a b n)=false):=qp c.out (by omega)
   clear c r;go_wp2;go_ret;rw[q.out];exact⟨rfl,p⟩
theorem ab5 (w:World) (a b n:Int):Calls prog 195 #[.slice none 0 0,.int .i64 a,.int .i64 b,.int .i64 n] w fun e w'=>e=.returned (.bool (d6 [] (q3' a b n)))/\Below w.heap.size w w':=by
 have c:Hid (d6 [] (q3' a b n)=false):=rfl;go_enter func195,ntmps195;go_wp2;go_loop [13] (fun i=>i=.int .i64 0) (fun _=>0)
 case atStart=>rfl
 case round =>
  subst hrel;go_wp2;go_ret;rw[c.out];exact⟨rfl,bX⟩
theorem ab4 {w:World} {B:Nat} {v:Value} {es:List Ent}(a b n:Int) (c:ac w B v es) (hn:es.length<=1048576) :
  Calls prog 195 #[v,.int .i64 a,.int .i64 b,.int .i64 n] w fun e w'=>e=.returned (.bool (d6 es (q3' a b n)))/\Below w.heap.size w w':=by
 rcases c.form with ⟨rfl,rfl⟩|⟨g,d,rfl,_,_,_,_⟩
 .exact ab5 w a b n
 .exact ab6 w B g d es a b n c hn
def ax6 (w:World) (n:Int) (i:Value) (wr:World):Prop:=∃ k:Nat,k<=127/\i=.int .i64 k/\qv n k/\Below w.heap.size w wr
theorem Vk (n:Int) (w:World) (m:db w 7 ij):Calls prog 191 #[.int .i64 n] w fun e w'=>e=.returned (.bool (ff n))/\Below w.heap.size w w':=by
 go_enter func191,ntmps191;go_wp2;go_loopw [6] (fun i wr=>ax6 w n i wr) (fun i _=>127-(intOf i).toNat)
 case atStart=>exact⟨0,Nat.zero_le _,rfl,fun j e hj=>by omega,bX⟩
 case round =>
  obtain⟨k,v,rfl,q,f⟩:=hrel;have g:=hZ q;clear q;by_cases t:k<127
  .have u:(k:Int)<127:=by omega
   have a:=By (k:Int) (by omega) (by omega) (by omega) wr (m.below f m.lt);clear m
   cases ho:mk (base (k:Int)) with
   | none =>
    rw[ho]at a;have o:Hid (qv n (k+1)):=g.out.succ (fun e h=>by rw[ho]at h;cases h);unfold fo ph elV at a;simp only[Option.getD_none,Option.isSome_none]at a;clear g ho;go_wp2_with fail;refine a.mono ?_;rintro r s ⟨rfl,l⟩;have b:=f.trans (l.mono f.size);clear a;go_wp2;exact⟨⟨k+1,by omega,by go_num,o.out,b.alloc b.size _⟩,by simp[intOf];omega⟩
   | some x =>
    rw[ho]at a;unfold fo ph elV at a;simp only[Option.getD_some,Option.isSome_some]at a;by_cases c:x.first=n
    .have p:Hid (ff n=true):=c ▸ ai7 t ho
     have d:(x.first == n)=true:=by simpa using c
     clear g ho c;go_wp2_with fail;refine a.mono ?_;rintro r s ⟨rfl,l⟩;have b:=f.trans (l.mono f.size);clear a;go_wp2;go_ret;rw[p.out];exact⟨rfl,b.alloc b.size _⟩
    .have o:Hid (qv n (k+1)):=g.out.succ (fun e h=>by rw[ho]at h;cases h;exact c)
     have d:(x.first == n)=false:=by simpa using c
     clear g ho c;go_wp2_with fail;refine a.mono ?_;rintro r s ⟨rfl,l⟩;have b:=f.trans (l.mono f.size);clear a;go_wp2;exact⟨⟨k+1,by omega,by go_num,o.out,b.alloc b.size _⟩,by simp[intOf];omega⟩
  .have p:Hid (ff n=false):=g.out.all (by omega)
   clear g m;go_wp2;go_ret;rw[p.out];exact⟨rfl,f⟩
end Go.Proofs.YtjbmgghehdemdaaGreatDoor
