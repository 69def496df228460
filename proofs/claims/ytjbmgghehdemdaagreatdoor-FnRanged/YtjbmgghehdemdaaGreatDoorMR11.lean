/- ICount -/
import Derived.Test.YtjbmgghehdemdaaGreatDoorMR9
import Derived.Test.YtjbmgghehdemdaaGreatDoorMR10
namespace Go.Proofs.YtjbmgghehdemdaaGreatDoor
set_option maxRecDepth 100000
set_option maxHeartbeats 16000000
open _root_.Go.Proofs.Tryz
open Go.RowKit
theorem tu {w:World} {B:Nat} {v:Value} {es:List El}(h:ah w B v es) :
  ∃ a c,v=.slice a es.length c/\∀ k e,es[k]? = some e->∃ g,a=some ⟨g,0,none⟩/\g<w.heap.size/\w.cell? ⟨g,k*4,none⟩=some (.int .i64 e.first)/\w.cell? ⟨g,k*4+1,none⟩=some (.int .i64 e.second)/\w.cell? ⟨g,k*4+2,none⟩=some (.int .i64 e.third)/\w.cell? ⟨g,k*4+3,none⟩=some (.bool e.varies):=by
 rcases h.form with ⟨rfl,rfl⟩|⟨g,b,rfl,_,_⟩
 .exact⟨_,_,rfl,fun k e he=>by simp at he⟩
 .exact⟨_,_,rfl,fun k e he=>⟨g,rfl,(World.ownsRow.lt h g rfl).2,h.cells k e he⟩⟩
theorem rj {w:World} {B:Nat} {v:Value} {l:List Int}(h:ab w B v l) :
  ∃ a c,v=.slice a l.length c/\∀ k,k<l.length->∃ g,a=some ⟨g,0,none⟩/\g<w.heap.size/\w.cell? ⟨g,k,none⟩=some (.int .i64 (at0 l k)):=by
 rcases h.form with ⟨rfl,rfl⟩|⟨g,b,rfl,_,_⟩
 .exact⟨_,_,rfl,fun k hk=>by simp at hk⟩
 .exact⟨_,_,rfl,fun k hk=>⟨g,rfl,(World.ownsRow.lt h g rfl).2,h.cell k hk⟩⟩
theorem sj {w:World} {B a:Nat} {v:Value} {l:List Int}(h:ab w a v l) (i:B<=a):ab w B v l:=by
 refine⟨h.1,?_⟩;rcases h.2 with h|⟨g,b,c,d,e,f⟩
 .exact .inl h
 .exact .inr ⟨g,b,c,d,Nat.le_trans i e,f⟩
def Lo (w1:World) (lv:Nat) (xs:List El) (fs:List Int) (v i:Value) (wr:World):Prop :=
 ∃ k:Nat,k<=xs.length/\i=.int .i64 k/\ab wr w1.heap.size v (er lv xs fs k)/\Below w1.heap.size w1 wr
theorem yq {lv:Nat} {xs:List El} {fs:List Int} {k:Nat}(h:wtL lv (n8 xs k) (at0 fs k)=0):er lv xs fs (k+1)=er lv xs fs k:=by
 rw[er,Hm h,List.append_nil]
theorem yp {lv:Nat} {xs:List El} {fs:List Int} {k:Nat}(h:wtL lv (n8 xs k) (at0 fs k)≠0):er lv xs fs (k+1)=er lv xs fs k++[wtL lv (n8 xs k) (at0 fs k)]:=by
 rw[er,Hl h]
theorem Ir {xs:List El} {k:Nat} {e:El}(h:xs[k]? = some e):n8 xs k=e:=by unfold n8;rw[h];rfl
theorem Vo (a:Option Addr) (c b:Nat) (d:Option Addr) (g f:Nat) (w:World) :
  Calls prog 138 #[.agg #[.slice a c b,.slice d g f],.int .i64 1] w fun e w'=>e=.returned (.func (.func 156) #[] #[.pointer (some ⟨w.heap.size,0,none⟩)])/\w'=w.alloc (.cells #[.slice a c b,.slice d g f] 170):=by
 go_enter func138,ntmps138;go_wp2;go_ret;exact⟨rfl,rfl⟩
theorem Vp (a:Option Addr) (c b:Nat) (d:Option Addr) (g f:Nat) (w:World) :
  Calls prog 138 #[.agg #[.slice a c b,.slice d g f],.int .i64 2] w fun e w'=>e=.returned (.func (.func 157) #[] #[.pointer (some ⟨w.heap.size,0,none⟩)])/\w'=w.alloc (.cells #[.slice a c b,.slice d g f] 170):=by
 go_enter func138,ntmps138;go_wp2;go_ret;exact⟨rfl,rfl⟩
theorem Vq (a:Option Addr) (c b:Nat) (d:Option Addr) (g f:Nat) (w:World) :
  Calls prog 138 #[.agg #[.slice a c b,.slice d g f],.int .i64 3] w fun e w'=>e=.returned (.func (.func 158) #[] #[.pointer (some ⟨w.heap.size,0,none⟩)])/\w'=w.alloc (.cells #[.slice a c b,.slice d g f] 170):=by
 go_enter func138,ntmps138;go_wp2;go_ret;exact⟨rfl,rfl⟩
theorem Vr (a:Option Addr) (c b:Nat) (d:Option Addr) (g f:Nat) (w:World) :
  Calls prog 138 #[.agg #[.slice a c b,.slice d g f],.int .i64 4] w fun e w'=>e=.returned (.func (.func 159) #[] #[.pointer (some ⟨w.heap.size,0,none⟩)])/\w'=w.alloc (.cells #[.slice a c b,.slice d g f] 170):=by
 go_enter func138,ntmps138;go_wp2;go_ret;exact⟨rfl,rfl⟩
theorem Yc (u:World) (b g n c k:Nat) (a:Value) (x:Int) (f:u.cell? ⟨b,0,none⟩=some (.slice (some ⟨g,0,none⟩) n c)) (_hb2:u.cell? ⟨b,1,none⟩=some a) (h:k<n) (i:u.cell? ⟨g,k*4,none⟩=some (.int .i64 x)) :
  Calls prog 156 #[.int .i64 k,.pointer (some ⟨b,0,none⟩)] u fun e w'=>e=.returned (.int .i64 x)/\w'=u:=by
 have d:(k:Int)<(n:Int):=by omega
 go_enter func156,ntmps156;go_wp2;go_ret;exact⟨rfl,rfl⟩
theorem Dg {w:World} {B B':Nat} {M N:Value} {xs:List El} {fs:List Int}(G:ah w B M xs) (H:ab w B' N fs) (J:fs.length=xs.length) (hn:xs.length<=1048576) :
  Calls prog 108 #[.agg #[M,N],.int .i64 1] w fun e w'=>∃ v,e=.returned v/\ab w' w.heap.size v (wts 1 xs fs)/\Below w.heap.size w w':=by
 obtain⟨i0,hi0,Z,V,Y⟩:=info_parts dv;obtain⟨d,a,rfl,x⟩:=tu G;obtain⟨b,c,rfl,R⟩:=rj H;have F:=fun u=>Vo d xs.length a b fs.length c u
 have n:Below w.heap.size w ((w.alloc (.cells #[.slice d xs.length a,.slice b fs.length c] 170)).alloc (.cells #[.slice d xs.length a,.slice b fs.length c] 170)):=(bY _).alloc (by simp) _;have s:((w.alloc (.cells #[.slice d xs.length a,.slice b fs.length c] 170)).alloc (.cells #[.slice d xs.length a,.slice b fs.length c] 170)).cell? ⟨w.heap.size+1,0,none⟩=some (.slice d xs.length a):=by simp
 have q1:((w.alloc (.cells #[.slice d xs.length a,.slice b fs.length c] 170)).alloc (.cells #[.slice d xs.length a,.slice b fs.length c] 170)).cell? ⟨w.heap.size+1,1,none⟩=some (.slice b fs.length c):=by simp
 have HL:=hZ J;clear G H J;obtain⟨W,m⟩:∃ W,Hid (W=(w.alloc (.cells #[.slice d xs.length a,.slice b fs.length c] 170)).alloc (.cells #[.slice d xs.length a,.slice b fs.length c] 170)):=⟨_,rfl⟩
 have a1:w.heap.size+2<=W.heap.size:=by rw[m.out];simp
 rw[<- m.out]at n s q1;have E:Hid (W.cell? ⟨w.heap.size+1,0,none⟩=some (.slice d xs.length a)/\W.cell? ⟨w.heap.size+1,1,none⟩=some (.slice b fs.length c)):=⟨s,q1⟩;clear s q1;go_enter func108,ntmps108;go_wp2_with fail;refine (F _).mono ?_;rintro e w1 ⟨rfl,C⟩;obtain rfl:W=w1:=m.out.trans C.symm;have z0:W.cell? ⟨w.heap.size,0,none⟩=some (.slice d xs.length a):=by rw[m.out];simp
 clear F C m;go_wp2_with fail;go_loopw [6,15] (fun v i wr=>Lo W 1 xs fs v i wr) (fun _ i _=>xs.length-(intOf i).toNat)
 case atStart=>exact⟨0,Nat.zero_le _,rfl,World.ownsRow_nil _ _ _ _,bX⟩
 case round =>
  clear z0;obtain⟨k,hk,rfl,h,f⟩:=hrel;have a3:=ox 1 xs fs k;by_cases z:k<xs.length
  .have a2:(k:Int)<(xs.length:Int):=by omega
   have K:wr.cell? ⟨w.heap.size+1,0,none⟩=some (.slice d xs.length a):=(f.cell (p:=⟨w.heap.size+1,0,none⟩) (by show w.heap.size+1<W.heap.size;omega)).trans E.out.1;have L:wr.cell? ⟨w.heap.size+1,1,none⟩=some (.slice b fs.length c):=(f.cell (p:=⟨w.heap.size+1,1,none⟩) (by show w.heap.size+1<W.heap.size;omega)).trans E.out.2;obtain⟨e,I⟩:∃ e,xs[k]? = some e:=⟨_,List.getElem?_eq_getElem z⟩
   obtain⟨g,S,T,O,y2,y3,_⟩:=x k e I;subst S;have l:Hid (wtL 1 (n8 xs k) (at0 fs k)=e.first):=by show _=_;rw[Ir I];rfl
   have D:=Yc wr (w.heap.size+1) g xs.length a k (.slice b fs.length c) e.first K L z ((f.cell (p:=⟨g,k*4,none⟩) (by show g<W.heap.size;omega)).trans (by simpa using (n.cell (p:=⟨g,k*4,none⟩) T).trans O))
   clear O x R K L;go_wp2_with fail;refine D.mono ?_;rintro e' w3 ⟨rfl,X⟩;obtain rfl:wr=w3:=X.symm;clear D;have a4:=f.size;by_cases r:e.first=0
   .have q:Hid (er 1 xs fs (k+1)=er 1 xs fs k):=yq (l.out.trans r)
    have o:Hid (ab _ _ _ _):=h;clear h l;go_wp2;exact⟨⟨k+1,by omega,by go_num,by rw[q.out];exact o.out,f⟩,by simp[intOf];omega⟩
   .have a0:(e.first == 0)=false:=by simpa using r
    have q:Hid (er 1 xs fs (k+1)=er 1 xs fs k++[e.first]):=by
     have:=yp (lv:=1) (xs:=xs) (fs:=fs) (k:=k) (by rw[l.out];exact r);rw[l.out]at this;exact this
    clear l;unfold ab at h;go_wp2_with (at_builtin;refine wpList_append_own _ rfl _ _ 39 rfl W.heap.size 3 i0 (.int .i64 0) 1 8 underlying39 hi0 Z V Y rfl (by decide) _ _ _ rfl (h.alloc _) ⟨wr.heap.size,0,none⟩ 1 1 [.int .i64 (e.first)] rfl rfl (ic _ _ _ _ (by simp)) (fun u hu=>by simp at hu;subst hu;rfl) (by unfold maxLen;omega) (by omega) (by simp;omega) ?_)
    intro v6 w4 A y _;have t:ab w4 W.heap.size v6 (er 1 xs fs k++[e.first]):=ab.snoc A;have Q:Below W.heap.size W w4:=Below.grown (f.alloc f.size _) y (f.alloc f.size _).size (fun j hj=>(World.ownsRow.lt h j hj).1);have P:Hid (ab _ _ _ _):=t;clear A y h t;go_wp2;exact⟨⟨k+1,by omega,by go_num,by rw[q.out];exact P.out,Q⟩,by simp[intOf];omega⟩
  .have U:k=xs.length:=by omega
   subst U;have o:Hid (ab _ _ _ _):=h;clear h;go_wp2;go_ret;exact⟨_,rfl,sj o.out (by omega),n.trans (f.mono (by omega))⟩
theorem Yd (u:World) (b g n c k:Nat) (a:Value) (x:Int) (f:u.cell? ⟨b,0,none⟩=some (.slice (some ⟨g,0,none⟩) n c)) (_hb2:u.cell? ⟨b,1,none⟩=some a) (h:k<n) (i:u.cell? ⟨g,k*4+1,none⟩=some (.int .i64 x)) :
  Calls prog 157 #[.int .i64 k,.pointer (some ⟨b,0,none⟩)] u fun e w'=>e=.returned (.int .i64 x)/\w'=u:=by
 have d:(k:Int)<(n:Int):=by omega
 go_enter func157,ntmps157;go_wp2;go_ret;exact⟨rfl,rfl⟩
theorem Ps {w:World} {B Z:Nat} {M N:Value} {xs:List El} {fs:List Int}(G:ah w B M xs) (H:ab w Z N fs) (J:fs.length=xs.length) (hn:xs.length<=1048576) :
  Calls prog 108 #[.agg #[M,N],.int .i64 2] w fun e w'=>∃ v,e=.returned v/\ab w' w.heap.size v (wts 2 xs fs)/\Below w.heap.size w w':=by
 obtain⟨i0,hi0,Y,U,X⟩:=info_parts dv;obtain⟨d,a,rfl,x⟩:=tu G;obtain⟨b,c,rfl,Q⟩:=rj H;have F:=fun u=>Vp d xs.length a b fs.length c u
 have n:Below w.heap.size w ((w.alloc (.cells #[.slice d xs.length a,.slice b fs.length c] 170)).alloc (.cells #[.slice d xs.length a,.slice b fs.length c] 170)):=(bY _).alloc (by simp) _;have s:((w.alloc (.cells #[.slice d xs.length a,.slice b fs.length c] 170)).alloc (.cells #[.slice d xs.length a,.slice b fs.length c] 170)).cell? ⟨w.heap.size+1,0,none⟩=some (.slice d xs.length a):=by simp
 have q1:((w.alloc (.cells #[.slice d xs.length a,.slice b fs.length c] 170)).alloc (.cells #[.slice d xs.length a,.slice b fs.length c] 170)).cell? ⟨w.heap.size+1,1,none⟩=some (.slice b fs.length c):=by simp
 have HL:=hZ J;clear G H J;obtain⟨W,m⟩:∃ W,Hid (W=(w.alloc (.cells #[.slice d xs.length a,.slice b fs.length c] 170)).alloc (.cells #[.slice d xs.length a,.slice b fs.length c] 170)):=⟨_,rfl⟩
 have a1:w.heap.size+2<=W.heap.size:=by rw[m.out];simp
 rw[<- m.out]at n s q1;have E:Hid (W.cell? ⟨w.heap.size+1,0,none⟩=some (.slice d xs.length a)/\W.cell? ⟨w.heap.size+1,1,none⟩=some (.slice b fs.length c)):=⟨s,q1⟩;clear s q1;go_enter func108,ntmps108;go_wp2_with fail;refine (F _).mono ?_;rintro e w1 ⟨rfl,C⟩;obtain rfl:W=w1:=m.out.trans C.symm;have z0:W.cell? ⟨w.heap.size,0,none⟩=some (.slice d xs.length a):=by rw[m.out];simp
 clear F C m;go_wp2_with fail;go_loopw [6,15] (fun v i wr=>Lo W 2 xs fs v i wr) (fun _ i _=>xs.length-(intOf i).toNat)
 case atStart=>exact⟨0,Nat.zero_le _,rfl,World.ownsRow_nil _ _ _ _,bX⟩
 case round =>
  clear z0;obtain⟨k,hk,rfl,h,f⟩:=hrel;have a3:=ox 2 xs fs k;by_cases z:k<xs.length
  .have a2:(k:Int)<(xs.length:Int):=by omega
   have K:wr.cell? ⟨w.heap.size+1,0,none⟩=some (.slice d xs.length a):=(f.cell (p:=⟨w.heap.size+1,0,none⟩) (by show w.heap.size+1<W.heap.size;omega)).trans E.out.1;have L:wr.cell? ⟨w.heap.size+1,1,none⟩=some (.slice b fs.length c):=(f.cell (p:=⟨w.heap.size+1,1,none⟩) (by show w.heap.size+1<W.heap.size;omega)).trans E.out.2;obtain⟨e,I⟩:∃ e,xs[k]? = some e:=⟨_,List.getElem?_eq_getElem z⟩
   obtain⟨g,R,S,y1,y2,y3,_⟩:=x k e I;subst R;have l:Hid (wtL 2 (n8 xs k) (at0 fs k)=e.second):=by show _=_;rw[Ir I];rfl
   have D:=Yd wr (w.heap.size+1) g xs.length a k (.slice b fs.length c) e.second K L z ((f.cell (p:=⟨g,k*4+1,none⟩) (by show g<W.heap.size;omega)).trans (by simpa using (n.cell (p:=⟨g,k*4+1,none⟩) S).trans y2));clear y1 x Q K L;go_wp2_with fail;refine D.mono ?_;rintro e' w3 ⟨rfl,V⟩;obtain rfl:wr=w3:=V.symm;clear D;have a4:=f.size;by_cases r:e.second=0
   .have q:Hid (er 2 xs fs (k+1)=er 2 xs fs k):=yq (l.out.trans r)
    have o:Hid (ab _ _ _ _):=h;clear h l;go_wp2;exact⟨⟨k+1,by omega,by go_num,by rw[q.out];exact o.out,f⟩,by simp[intOf];omega⟩
   .have a0:(e.second == 0)=false:=by simpa using r
    have q:Hid (er 2 xs fs (k+1)=er 2 xs fs k++[e.second]):=by
     have:=yp (lv:=2) (xs:=xs) (fs:=fs) (k:=k) (by rw[l.out];exact r);rw[l.out]at this;exact this
    clear l;unfold ab at h;go_wp2_with (at_builtin;refine wpList_append_own _ rfl _ _ 39 rfl W.heap.size 3 i0 (.int .i64 0) 1 8 underlying39 hi0 Y U X rfl (by decide) _ _ _ rfl (h.alloc _) ⟨wr.heap.size,0,none⟩ 1 1 [.int .i64 (e.second)] rfl rfl (ic _ _ _ _ (by simp)) (fun u hu=>by simp at hu;subst hu;rfl) (by unfold maxLen;omega) (by omega) (by simp;omega) ?_)
    intro v6 w4 A y _;have t:ab w4 W.heap.size v6 (er 2 xs fs k++[e.second]):=ab.snoc A;have P:Below W.heap.size W w4:=Below.grown (f.alloc f.size _) y (f.alloc f.size _).size (fun j hj=>(World.ownsRow.lt h j hj).1);have O:Hid (ab _ _ _ _):=t;clear A y h t;go_wp2;exact⟨⟨k+1,by omega,by go_num,by rw[q.out];exact O.out,P⟩,by simp[intOf];omega⟩
  .have T:k=xs.length:=by omega
   subst T;have o:Hid (ab _ _ _ _):=h;clear h;go_wp2;go_ret;exact⟨_,rfl,sj o.out (by omega),n.trans (f.mono (by omega))⟩
theorem Ye (u:World) (b g n c k:Nat) (a:Value) (x:Int) (f:u.cell? ⟨b,0,none⟩=some (.slice (some ⟨g,0,none⟩) n c)) (_hb2:u.cell? ⟨b,1,none⟩=some a) (h:k<n) (i:u.cell? ⟨g,k*4+2,none⟩=some (.int .i64 x)) :
  Calls prog 158 #[.int .i64 k,.pointer (some ⟨b,0,none⟩)] u fun e w'=>e=.returned (.int .i64 x)/\w'=u:=by
 have d:(k:Int)<(n:Int):=by omega
 go_enter func158,ntmps158;go_wp2;go_ret;exact⟨rfl,rfl⟩
theorem Pt {w:World} {B Z:Nat} {M N:Value} {xs:List El} {fs:List Int}(G:ah w B M xs) (H:ab w Z N fs) (J:fs.length=xs.length) (hn:xs.length<=1048576) :
  Calls prog 108 #[.agg #[M,N],.int .i64 3] w fun e w'=>∃ v,e=.returned v/\ab w' w.heap.size v (wts 3 xs fs)/\Below w.heap.size w w':=by
 obtain⟨i0,hi0,Y,U,X⟩:=info_parts dv;obtain⟨d,a,rfl,x⟩:=tu G;obtain⟨b,c,rfl,Q⟩:=rj H;have F:=fun u=>Vq d xs.length a b fs.length c u
 have n:Below w.heap.size w ((w.alloc (.cells #[.slice d xs.length a,.slice b fs.length c] 170)).alloc (.cells #[.slice d xs.length a,.slice b fs.length c] 170)):=(bY _).alloc (by simp) _;have s:((w.alloc (.cells #[.slice d xs.length a,.slice b fs.length c] 170)).alloc (.cells #[.slice d xs.length a,.slice b fs.length c] 170)).cell? ⟨w.heap.size+1,0,none⟩=some (.slice d xs.length a):=by simp
 have q1:((w.alloc (.cells #[.slice d xs.length a,.slice b fs.length c] 170)).alloc (.cells #[.slice d xs.length a,.slice b fs.length c] 170)).cell? ⟨w.heap.size+1,1,none⟩=some (.slice b fs.length c):=by simp
 have HL:=hZ J;clear G H J;obtain⟨W,m⟩:∃ W,Hid (W=(w.alloc (.cells #[.slice d xs.length a,.slice b fs.length c] 170)).alloc (.cells #[.slice d xs.length a,.slice b fs.length c] 170)):=⟨_,rfl⟩
 have a1:w.heap.size+2<=W.heap.size:=by rw[m.out];simp
 rw[<- m.out]at n s q1;have E:Hid (W.cell? ⟨w.heap.size+1,0,none⟩=some (.slice d xs.length a)/\W.cell? ⟨w.heap.size+1,1,none⟩=some (.slice b fs.length c)):=⟨s,q1⟩;clear s q1;go_enter func108,ntmps108;go_wp2_with fail;refine (F _).mono ?_;rintro e w1 ⟨rfl,C⟩;obtain rfl:W=w1:=m.out.trans C.symm;have z0:W.cell? ⟨w.heap.size,0,none⟩=some (.slice d xs.length a):=by rw[m.out];simp
 clear F C m;go_wp2_with fail;go_loopw [6,15] (fun v i wr=>Lo W 3 xs fs v i wr) (fun _ i _=>xs.length-(intOf i).toNat)
 case atStart=>exact⟨0,Nat.zero_le _,rfl,World.ownsRow_nil _ _ _ _,bX⟩
 case round =>
  clear z0;obtain⟨k,hk,rfl,h,f⟩:=hrel;have a3:=ox 3 xs fs k;by_cases z:k<xs.length
  .have a2:(k:Int)<(xs.length:Int):=by omega
   have K:wr.cell? ⟨w.heap.size+1,0,none⟩=some (.slice d xs.length a):=(f.cell (p:=⟨w.heap.size+1,0,none⟩) (by show w.heap.size+1<W.heap.size;omega)).trans E.out.1;have L:wr.cell? ⟨w.heap.size+1,1,none⟩=some (.slice b fs.length c):=(f.cell (p:=⟨w.heap.size+1,1,none⟩) (by show w.heap.size+1<W.heap.size;omega)).trans E.out.2;obtain⟨e,I⟩:∃ e,xs[k]? = some e:=⟨_,List.getElem?_eq_getElem z⟩
   obtain⟨g,R,S,y1,y2,y3,_⟩:=x k e I;subst R;have l:Hid (wtL 3 (n8 xs k) (at0 fs k)=e.third):=by show _=_;rw[Ir I];rfl
   have D:=Ye wr (w.heap.size+1) g xs.length a k (.slice b fs.length c) e.third K L z ((f.cell (p:=⟨g,k*4+2,none⟩) (by show g<W.heap.size;omega)).trans (by simpa using (n.cell (p:=⟨g,k*4+2,none⟩) S).trans y3));clear y1 x Q K L;go_wp2_with fail;refine D.mono ?_;rintro e' w3 ⟨rfl,V⟩;obtain rfl:wr=w3:=V.symm;clear D;have a4:=f.size;by_cases r:e.third=0
   .have q:Hid (er 3 xs fs (k+1)=er 3 xs fs k):=yq (l.out.trans r)
    have o:Hid (ab _ _ _ _):=h;clear h l;go_wp2;exact⟨⟨k+1,by omega,by go_num,by rw[q.out];exact o.out,f⟩,by simp[intOf];omega⟩
   .have a0:(e.third == 0)=false:=by simpa using r
    have q:Hid (er 3 xs fs (k+1)=er 3 xs fs k++[e.third]):=by
     have:=yp (lv:=3) (xs:=xs) (fs:=fs) (k:=k) (by rw[l.out];exact r);rw[l.out]at this;exact this
    clear l;unfold ab at h;go_wp2_with (at_builtin;refine wpList_append_own _ rfl _ _ 39 rfl W.heap.size 3 i0 (.int .i64 0) 1 8 underlying39 hi0 Y U X rfl (by decide) _ _ _ rfl (h.alloc _) ⟨wr.heap.size,0,none⟩ 1 1 [.int .i64 (e.third)] rfl rfl (ic _ _ _ _ (by simp)) (fun u hu=>by simp at hu;subst hu;rfl) (by unfold maxLen;omega) (by omega) (by simp;omega) ?_)
    intro v6 w4 A y _;have t:ab w4 W.heap.size v6 (er 3 xs fs k++[e.third]):=ab.snoc A;have P:Below W.heap.size W w4:=Below.grown (f.alloc f.size _) y (f.alloc f.size _).size (fun j hj=>(World.ownsRow.lt h j hj).1);have O:Hid (ab _ _ _ _):=t;clear A y h t;go_wp2;exact⟨⟨k+1,by omega,by go_num,by rw[q.out];exact O.out,P⟩,by simp[intOf];omega⟩
  .have T:k=xs.length:=by omega
   subst T;have o:Hid (ab _ _ _ _):=h;clear h;go_wp2;go_ret;exact⟨_,rfl,sj o.out (by omega),n.trans (f.mono (by omega))⟩
theorem Yf (u:World) (b g n c k:Nat) (a:Value) (x:Int) (_hb2:u.cell? ⟨b,0,none⟩=some a) (f:u.cell? ⟨b,1,none⟩=some (.slice (some ⟨g,0,none⟩) n c)) (h:k<n) (i:u.cell? ⟨g,k,none⟩=some (.int .i64 x)) :
  Calls prog 159 #[.int .i64 k,.pointer (some ⟨b,0,none⟩)] u fun e w'=>e=.returned (.int .i64 x)/\w'=u:=by
 have d:(k:Int)<(n:Int):=by omega
 go_enter func159,ntmps159;go_wp2;go_ret;exact⟨rfl,rfl⟩
theorem Pu {w:World} {B Z:Nat} {L M:Value} {xs:List El} {fs:List Int}(G:ah w B L xs) (H:ab w Z M fs) (I:fs.length=xs.length) (hn:xs.length<=1048576) :
  Calls prog 108 #[.agg #[L,M],.int .i64 4] w fun e w'=>∃ v,e=.returned v/\ab w' w.heap.size v (wts 4 xs fs)/\Below w.heap.size w w':=by
 obtain⟨i0,hi0,Y,U,X⟩:=info_parts dv;obtain⟨b,a,rfl,Q⟩:=tu G;obtain⟨d,c,rfl,x⟩:=rj H;have F:=fun u=>Vr b xs.length a d fs.length c u
 have n:Below w.heap.size w ((w.alloc (.cells #[.slice b xs.length a,.slice d fs.length c] 170)).alloc (.cells #[.slice b xs.length a,.slice d fs.length c] 170)):=(bY _).alloc (by simp) _;have s:((w.alloc (.cells #[.slice b xs.length a,.slice d fs.length c] 170)).alloc (.cells #[.slice b xs.length a,.slice d fs.length c] 170)).cell? ⟨w.heap.size+1,0,none⟩=some (.slice b xs.length a):=by simp
 have q1:((w.alloc (.cells #[.slice b xs.length a,.slice d fs.length c] 170)).alloc (.cells #[.slice b xs.length a,.slice d fs.length c] 170)).cell? ⟨w.heap.size+1,1,none⟩=some (.slice d fs.length c):=by simp
 have HL:=hZ I;clear G H I;obtain⟨W,m⟩:∃ W,Hid (W=(w.alloc (.cells #[.slice b xs.length a,.slice d fs.length c] 170)).alloc (.cells #[.slice b xs.length a,.slice d fs.length c] 170)):=⟨_,rfl⟩
 have a1:w.heap.size+2<=W.heap.size:=by rw[m.out];simp
 rw[<- m.out]at n s q1;have E:Hid (W.cell? ⟨w.heap.size+1,0,none⟩=some (.slice b xs.length a)/\W.cell? ⟨w.heap.size+1,1,none⟩=some (.slice d fs.length c)):=⟨s,q1⟩;clear s q1;go_enter func108,ntmps108;go_wp2_with fail;refine (F _).mono ?_;rintro e w1 ⟨rfl,C⟩;obtain rfl:W=w1:=m.out.trans C.symm;have z0:W.cell? ⟨w.heap.size,0,none⟩=some (.slice b xs.length a):=by rw[m.out];simp
 clear F C m;go_wp2_with fail;go_loopw [6,15] (fun v i wr=>Lo W 4 xs fs v i wr) (fun _ i _=>xs.length-(intOf i).toNat)
 case atStart=>exact⟨0,Nat.zero_le _,rfl,World.ownsRow_nil _ _ _ _,bX⟩
 case round =>
  clear z0;obtain⟨k,hk,rfl,h,f⟩:=hrel;have a4:=ox 4 xs fs k;by_cases a3:k<xs.length
  .have a2:(k:Int)<(xs.length:Int):=by omega
   have J:wr.cell? ⟨w.heap.size+1,0,none⟩=some (.slice b xs.length a):=(f.cell (p:=⟨w.heap.size+1,0,none⟩) (by show w.heap.size+1<W.heap.size;omega)).trans E.out.1;have K:wr.cell? ⟨w.heap.size+1,1,none⟩=some (.slice d fs.length c):=(f.cell (p:=⟨w.heap.size+1,1,none⟩) (by show w.heap.size+1<W.heap.size;omega)).trans E.out.2;have z:k<fs.length:=by have:=HL.out;omega
   obtain⟨g,R,S,N⟩:=x k z;subst R;have l:Hid (wtL 4 (n8 xs k) (at0 fs k)=at0 fs k):=by show _=_;rfl
   have D:=Yf wr (w.heap.size+1) g fs.length c k (.slice b xs.length a) (at0 fs k) J K z ((f.cell (p:=⟨g,k,none⟩) (by show g<W.heap.size;omega)).trans (by simpa using (n.cell (p:=⟨g,k,none⟩) S).trans N));clear N Q x J K;go_wp2_with fail;refine D.mono ?_;rintro e' w3 ⟨rfl,V⟩;obtain rfl:wr=w3:=V.symm;clear D;have a5:=f.size;by_cases r:at0 fs k=0
   .have q:Hid (er 4 xs fs (k+1)=er 4 xs fs k):=yq (l.out.trans r)
    have o:Hid (ab _ _ _ _):=h;clear h l;go_wp2;exact⟨⟨k+1,by omega,by go_num,by rw[q.out];exact o.out,f⟩,by simp[intOf];omega⟩
   .have a0:(at0 fs k == 0)=false:=by simpa using r
    have q:Hid (er 4 xs fs (k+1)=er 4 xs fs k++[at0 fs k]):=by
     have:=yp (lv:=4) (xs:=xs) (fs:=fs) (k:=k) (by rw[l.out];exact r);rw[l.out]at this;exact this
    clear l;unfold ab at h;go_wp2_with (at_builtin;refine wpList_append_own _ rfl _ _ 39 rfl W.heap.size 3 i0 (.int .i64 0) 1 8 underlying39 hi0 Y U X rfl (by decide) _ _ _ rfl (h.alloc _) ⟨wr.heap.size,0,none⟩ 1 1 [.int .i64 (at0 fs k)] rfl rfl (ic _ _ _ _ (by simp)) (fun u hu=>by simp at hu;subst hu;rfl) (by unfold maxLen;omega) (by omega) (by simp;omega) ?_)
    intro v6 w4 A y _;have t:ab w4 W.heap.size v6 (er 4 xs fs k++[at0 fs k]):=ab.snoc A;have P:Below W.heap.size W w4:=Below.grown (f.alloc f.size _) y (f.alloc f.size _).size (fun j hj=>(World.ownsRow.lt h j hj).1);have O:Hid (ab _ _ _ _):=t;clear A y h t;go_wp2;exact⟨⟨k+1,by omega,by go_num,by rw[q.out];exact O.out,P⟩,by simp[intOf];omega⟩
  .have T:k=xs.length:=by omega
   subst T;have o:Hid (ab _ _ _ _):=h;clear h;go_wp2;go_ret;exact⟨_,rfl,sj o.out (by omega),n.trans (f.mono (by omega))⟩
end Go.Proofs.YtjbmgghehdemdaaGreatDoor
