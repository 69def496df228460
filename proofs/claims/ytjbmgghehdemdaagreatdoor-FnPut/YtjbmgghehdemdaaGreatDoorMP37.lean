/- IRo7 -/
import Derived.Test.YtjbmgghehdemdaaGreatDoorMP33
import Derived.Test.YtjbmgghehdemdaaGreatDoorMP34
import Derived.Test.YtjbmgghehdemdaaGreatDoorMP36
namespace Go.Proofs.YtjbmgghehdemdaaGreatDoor
set_option maxRecDepth 100000
set_option maxHeartbeats 16000000
open _root_.Go.Proofs.Tryz
open Go.RowKit
theorem Fd (a b:List Int):byT (a++b)=byT a++byT b:=by
 unfold byT;apply ByteArray.ext
 simp
theorem ao5 {x v:ByteArray}:cu ⟨true,x,v⟩=byT ([112,(x.size:Int),(v.size:Int)]++bI (x++v)++[46]):=by
 rw[Fd,Fd,Np];show ⟨#[112]⟩++⟨#[UInt8.ofNat x.size,UInt8.ofNat v.size]⟩++x++v++⟨#[46]⟩=_
 rw[show byT [112,(x.size:Int),(v.size:Int)]=⟨#[112]⟩++⟨#[UInt8.ofNat x.size,UInt8.ofNat v.size]⟩ from rfl,show byT [46]=⟨#[46]⟩ from rfl];simp only[ByteArray.append_assoc]
theorem a97 {x:ByteArray}:cu ⟨false,x,⟨#[]⟩⟩=byT ([100,(x.size:Int)]++bI (x++⟨#[]⟩)++[46]):=by
 rw[Fd,Fd,Np];show ⟨#[100]⟩++⟨#[UInt8.ofNat x.size]⟩++x++⟨#[46]⟩=_
 rw[show byT [100,(x.size:Int)]=⟨#[100]⟩++⟨#[UInt8.ofNat x.size]⟩ from rfl,show byT [46]=⟨#[46]⟩ from rfl];have h:x++⟨#[]⟩=x:=by apply ByteArray.ext;simp
 rw[h]
theorem ak2:(prog.info? 5).map (fun i=>(i.zero,i.size,i.bytes))=some (some (.int .u8 0),1,1):=by kernel_rfl
theorem Q6 (w:World) (o:Dn) (hx:o.text.size<=60) (hv:o.val.size<=60) (hd:o.put=false->o.val=⟨#[]⟩) :
  Calls prog 112 #[.agg #[.int .i64 (kn7 o),.string o.text,.string o.val]] w fun e w'=>e=.returned (.string (cu o))/\Below w.heap.size w w':=by
 obtain⟨A,hi0,y,s,t⟩:=info_parts ak2;obtain⟨p,x,v⟩:=o;have a6:x.size<=60:=hx;have a5:v.size<=60:=hv;have w1:IntKind.u8.wrap (x.size:Int)=(x.size:Int):=by rw[IntKind.wrap_u8];omega
 have w2:IntKind.u8.wrap (v.size:Int)=(v.size:Int):=by rw[IntKind.wrap_u8];omega
 clear hx hv
 cases p
 .obtain rfl:v=⟨#[]⟩:=hd rfl
  show Calls prog 112 #[.agg #[.int .i64 2,.string x,.string ⟨#[]⟩]] w fun e w'=>_
  rw[a97];have J:Below w.heap.size w ((w.alloc (.cells #[.int .i64 2,.string x,.string ⟨#[]⟩] 27)).alloc (.cells #[.int .u8 100,.int .u8 (x.size:Int)] 5)):=(bY _).alloc (by simp) _;have h:=hZ J;have M:((w.alloc (.cells #[.int .i64 2,.string x,.string ⟨#[]⟩] 27)).alloc (.cells #[.int .u8 100,.int .u8 (x.size:Int)] 5)).heap[w.heap.size+1]? = some (.cells #[.int .u8 100,.int .u8 (x.size:Int)] 5):=by
   have q:=heap_alloc_new (w.alloc (.cells #[.int .i64 2,.string x,.string ⟨#[]⟩] 27)) (.cells #[.int .u8 100,.int .u8 (x.size:Int)] 5);rw[World.size_alloc]at q;exact q
  have i:Hid (dw ((w.alloc (.cells #[.int .i64 2,.string x,.string ⟨#[]⟩] 27)).alloc (.cells #[.int .u8 100,.int .u8 (x.size:Int)] 5)) w.heap.size 2 x ⟨#[]⟩):=by
   show _=_
   rw[Below.heap_alloc _ _ _ (by simp)];exact heap_alloc_new w _
  have C:Hid (∀ j u,[.int .u8 100,.int .u8 (x.size:Int)][j]? = some u->((w.alloc (.cells #[.int .i64 2,.string x,.string ⟨#[]⟩] 27)).alloc (.cells #[.int .u8 100,.int .u8 (x.size:Int)] 5)).cell? ((⟨w.heap.size+1,0,none⟩:Addr).add j)=some u):=fun j u hj=>by
   have T:j<2:=by have:=(List.getElem?_eq_some_iff.1 hj).1;simpa using this
   rcases (show j=0\/j=1 by omega) with rfl|rfl <;> (simp at hj;subst hj;exact cell_of_row _ _ _ _ _ _ M)
  clear J M;go_enter func112,ntmps112;go_wp2_with (at_builtin;refine wpList_append_own _ rfl _ _ 22 rfl w.heap.size 5 A (.int .u8 0) 1 1 underlying22 hi0 y s t rfl (by decide) (.slice none 0 0) 0 [] rfl (World.ownsRow_nil _ _ _ _) ⟨w.heap.size+1,0,none⟩ 2 2 [.int .u8 100,.int .u8 (x.size:Int)] rfl rfl C.out (fun z hz=>by simp at hz;rcases hz with rfl|rfl <;> rfl) (by unfold maxLen;omega) (by omega) (by simp;omega) ?_)
  intro v3 w3 N m _;have b:By6 w3 w.heap.size v3 ([]++[100,(x.size:Int)]):=By6.app (bs:=[]) (xs:=[100,(x.size:Int)]) rfl N;obtain⟨a,f⟩:∃ a,a=[]++[100,(x.size:Int)]:=⟨_,rfl⟩
  have U:a.length=2:=by rw[f];rfl
  rw[<- f]at b;have F:dw w3 w.heap.size 2 x ⟨#[]⟩:=(m.block w.heap.size i.out.facts.1 (by simp[Value.ownBlock])).trans i.out;have k:Below w.heap.size w w3:=Below.grown h.out m h.out.size (fun j hj=>by cases hj);have Q:Hid (a=[100,(x.size:Int)]):=f;have D:=hZ k;obtain⟨V,W,X,Y⟩:=F.facts;have a0:=k.size;obtain⟨r,G⟩:∃ r,r=x++⟨#[]⟩:=⟨_,rfl⟩
  have a3:Hid (r=x++⟨#[]⟩):=G;have a2:(x++⟨#[]⟩).size<=120:=by rw[ByteArray.size_append];show x.size+0<=120;omega
  unfold By6 at b;clear k f G m N i h C F;go_wp2_with (at_builtin;refine Lib.wpList_append_own_string _ rfl _ _ 22 9 rfl w.heap.size 5 A underlying22 underlying9 hi0 y s t _ _ _ rfl b (x++⟨#[]⟩) rfl (by unfold maxLen;omega) (by omega) (by omega) ?_)
  intro v4 w4 O K _;have l:Below w.heap.size w w4:=ko D.out b K (by omega);have c:By6 w4 w.heap.size v4 (a++bI (x++⟨#[]⟩)):=By6.str (n:=(x++⟨#[]⟩).size) rfl (by rw[U,ByteArray.size_append];exact O);clear O K b V W X Y D;obtain⟨d,g⟩:∃ d,d=a++bI (x++⟨#[]⟩):=⟨_,rfl⟩
  have a4:d.length<=200:=by rw[g];simp only[List.length_append,Au];omega
  rw[<- g]at c;have R:Hid (d=a++bI (x++⟨#[]⟩)):=g;have E:=hZ l;have a1:=l.size;unfold By6 at c;clear g l;have B:Hid (∀ j u,[Value.int .u8 46][j]? = some u->(w4.alloc (.cells #[.int .u8 46] 5)).cell? ((⟨w4.heap.size,0,none⟩:Addr).add j)=some u):=fun j u hj=>by
   have T:j<1:=by have:=(List.getElem?_eq_some_iff.1 hj).1;simpa using this
   obtain rfl:j=0:=by omega
   simp at hj;subst hj;exact cell_of_row _ _ _ _ _ _ (heap_alloc_new w4 _)
  go_wp2_with (at_builtin;refine wpList_append_own _ rfl _ _ 22 rfl w.heap.size 5 A (.int .u8 0) 1 1 underlying22 hi0 y s t rfl (by decide) _ _ _ rfl (c.alloc _) ⟨w4.heap.size,0,none⟩ 1 1 [.int .u8 46] rfl rfl B.out (fun u hu=>by simp at hu;subst hu;rfl) (by unfold maxLen;omega) (by omega) (by simp;omega) ?_)
  intro v5 w5 P L _;have H:Below w.heap.size w w5:=ko (E.out.alloc E.out.size _) (c.alloc _) L (by simp;omega);have I:By6 w5 w.heap.size v5 (d++[46]):=By6.app (n:=1) rfl P;clear P L c B;have Z:=Bw I;rw[R.out,Q.out]at Z;have S:=hZ H;clear H I;go_wp2;go_ret;exact⟨rfl,S.out⟩
 .show Calls prog 112 #[.agg #[.int .i64 1,.string x,.string v]] w fun e w'=>_
  rw[ao5];have J:Below w.heap.size w ((w.alloc (.cells #[.int .i64 1,.string x,.string v] 27)).alloc (.cells #[.int .u8 112,.int .u8 (x.size:Int),.int .u8 (v.size:Int)] 5)):=(bY _).alloc (by simp) _;have h:=hZ J;have M:((w.alloc (.cells #[.int .i64 1,.string x,.string v] 27)).alloc (.cells #[.int .u8 112,.int .u8 (x.size:Int),.int .u8 (v.size:Int)] 5)).heap[w.heap.size+1]? = some (.cells #[.int .u8 112,.int .u8 (x.size:Int),.int .u8 (v.size:Int)] 5):=by
   have q:=heap_alloc_new (w.alloc (.cells #[.int .i64 1,.string x,.string v] 27)) (.cells #[.int .u8 112,.int .u8 (x.size:Int),.int .u8 (v.size:Int)] 5);rw[World.size_alloc]at q;exact q
  have i:Hid (dw ((w.alloc (.cells #[.int .i64 1,.string x,.string v] 27)).alloc (.cells #[.int .u8 112,.int .u8 (x.size:Int),.int .u8 (v.size:Int)] 5)) w.heap.size 1 x v):=by
   show _=_
   rw[Below.heap_alloc _ _ _ (by simp)];exact heap_alloc_new w _
  have C:Hid (∀ j u,[.int .u8 112,.int .u8 (x.size:Int),.int .u8 (v.size:Int)][j]? = some u->((w.alloc (.cells #[.int .i64 1,.string x,.string v] 27)).alloc (.cells #[.int .u8 112,.int .u8 (x.size:Int),.int .u8 (v.size:Int)] 5)).cell? ((⟨w.heap.size+1,0,none⟩:Addr).add j)=some u):=fun j u hj=>by
   have T:j<3:=by have:=(List.getElem?_eq_some_iff.1 hj).1;simpa using this
   rcases (show j=0\/j=1\/j=2 by omega) with rfl|rfl|rfl <;> (simp at hj;subst hj;exact cell_of_row _ _ _ _ _ _ M)
  clear J M;go_enter func112,ntmps112;go_wp2_with (at_builtin;refine wpList_append_own _ rfl _ _ 22 rfl w.heap.size 5 A (.int .u8 0) 1 1 underlying22 hi0 y s t rfl (by decide) (.slice none 0 0) 0 [] rfl (World.ownsRow_nil _ _ _ _) ⟨w.heap.size+1,0,none⟩ 3 3 [.int .u8 112,.int .u8 (x.size:Int),.int .u8 (v.size:Int)] rfl rfl C.out (fun z hz=>by simp at hz;rcases hz with rfl|rfl|rfl <;> rfl) (by unfold maxLen;omega) (by omega) (by simp;omega) ?_)
  intro v3 w3 N m _;have b:By6 w3 w.heap.size v3 ([]++[112,(x.size:Int),(v.size:Int)]):=By6.app (bs:=[]) (xs:=[112,(x.size:Int),(v.size:Int)]) rfl N;obtain⟨a,f⟩:∃ a,a=[]++[112,(x.size:Int),(v.size:Int)]:=⟨_,rfl⟩
  have U:a.length=3:=by rw[f];rfl
  rw[<- f]at b;have F:dw w3 w.heap.size 1 x v:=(m.block w.heap.size i.out.facts.1 (by simp[Value.ownBlock])).trans i.out;have k:Below w.heap.size w w3:=Below.grown h.out m h.out.size (fun j hj=>by cases hj);have Q:Hid (a=[112,(x.size:Int),(v.size:Int)]):=f;have D:=hZ k;obtain⟨V,W,X,Y⟩:=F.facts;have a0:=k.size;obtain⟨r,G⟩:∃ r,r=x++v:=⟨_,rfl⟩
  have a3:Hid (r=x++v):=G;have a2:(x++v).size<=120:=by rw[ByteArray.size_append];omega
  unfold By6 at b;clear k f G m N i h C F;go_wp2_with (at_builtin;refine Lib.wpList_append_own_string _ rfl _ _ 22 9 rfl w.heap.size 5 A underlying22 underlying9 hi0 y s t _ _ _ rfl b (x++v) rfl (by unfold maxLen;omega) (by omega) (by omega) ?_)
  intro v4 w4 O K _;have l:Below w.heap.size w w4:=ko D.out b K (by omega);have c:By6 w4 w.heap.size v4 (a++bI (x++v)):=By6.str (n:=(x++v).size) rfl (by rw[U,ByteArray.size_append];exact O);clear O K b V W X Y D;obtain⟨d,g⟩:∃ d,d=a++bI (x++v):=⟨_,rfl⟩
  have a4:d.length<=200:=by rw[g];simp only[List.length_append,Au];omega
  rw[<- g]at c;have R:Hid (d=a++bI (x++v)):=g;have E:=hZ l;have a1:=l.size;unfold By6 at c;clear g l;have B:Hid (∀ j u,[Value.int .u8 46][j]? = some u->(w4.alloc (.cells #[.int .u8 46] 5)).cell? ((⟨w4.heap.size,0,none⟩:Addr).add j)=some u):=fun j u hj=>by
   have T:j<1:=by have:=(List.getElem?_eq_some_iff.1 hj).1;simpa using this
   obtain rfl:j=0:=by omega
   simp at hj;subst hj;exact cell_of_row _ _ _ _ _ _ (heap_alloc_new w4 _)
  go_wp2_with (at_builtin;refine wpList_append_own _ rfl _ _ 22 rfl w.heap.size 5 A (.int .u8 0) 1 1 underlying22 hi0 y s t rfl (by decide) _ _ _ rfl (c.alloc _) ⟨w4.heap.size,0,none⟩ 1 1 [.int .u8 46] rfl rfl B.out (fun u hu=>by simp at hu;subst hu;rfl) (by unfold maxLen;omega) (by omega) (by simp;omega) ?_)
  intro v5 w5 P L _;have H:Below w.heap.size w w5:=ko (E.out.alloc E.out.size _) (c.alloc _) L (by simp;omega);have I:By6 w5 w.heap.size v5 (d++[46]):=By6.app (n:=1) rfl P;clear P L c B;have Z:=Bw I;rw[R.out,Q.out]at Z;have S:=hZ H;clear H I;go_wp2;go_ret;exact⟨rfl,S.out⟩
theorem Uc (w:World) (g i j k:Nat) (a b c:Value):w.grownBy (((w.setCell ⟨g,i,none⟩ a).setCell ⟨g,j,none⟩ b).setCell ⟨g,k,none⟩ c) (some g) :=
 ⟨rfl,rfl,rfl,by simp,fun q hq hn=>by
  have n:¬ q=g:=fun e=>hn (by rw[e])
  rw[heap_setCell_other _ ⟨g,k,none⟩ q _ n,heap_setCell_other _ ⟨g,j,none⟩ q _ n,heap_setCell_other _ ⟨g,i,none⟩ q _ n]⟩
theorem Ix7.grow {w w':World} {a b:Nat} {d:Value} {R:RA} {r:ByteArray} {m c:Value} {ss f:List ByteArray} {log e:ByteArray} {syn syn':Int} {vr vr':Value} {l l':List Rw}(h:Ix7 w a b d R r m ss log syn vr l) (g:w.grownBy w' (some b)) (k:ke w' b d R.sh R.lv r c e syn' vr') (i:aj w a c f) (j:Rws w a vr' l'):Ix7 w' a b d R r c f e syn' vr' l' :=
 ⟨k,h.ents.boxT h.box (by decide) (by decide) g,World.ownsRow.kept i g (ie i h.box (by decide)),World.ownsRow.kept j g (ie j h.box (by decide)),h.low⟩
theorem ke.disk {u:World} {b:Nat} {c:Value} {sh:Bool} {lv:Int} {r:ByteArray} {g:Value} {log:ByteArray} {syn:Int} {vr:Value}(h:ke u b c sh lv r g log syn vr) (a:Value):ke (((u.setCell ⟨b,4,none⟩ a).setCell ⟨b,5,none⟩ (.string ⟨#[]⟩)).setCell ⟨b,6,none⟩ (.int .i64 0)) b c sh lv r a ⟨#[]⟩ 0 vr:=by
 have d:=heap_setCell_same u b 4 _ _ a h;have e:=heap_setCell_same _ b 5 _ _ (.string ⟨#[]⟩) d;have f:=heap_setCell_same _ b 6 _ _ (.int .i64 0) e;show _=_
 rw[f];simp
theorem Kd {w:World} {i b:Nat} {n:Value} {R:RA} {r:ByteArray} {x:Value} {ss:List ByteArray} {log:ByteArray} {syn:Int} {vr:Value} {l:List Rw} {pb pl pf pn:Addr}(h:Ix7 w i b n R r x ss log syn vr l) (s:Ev7 w pb pl pf pn) (hl:l.length<=60) :
  Calls prog 74 #[.pointer (some ⟨b,0,none⟩)] w fun e w' =>
   Below i w w'/\((l8 l=none/\e=.returned (.iface 298 (.pointer (some pf)))/\Ix7 w' i b n R r x ss log syn vr l)\/∃ ps vp',l8 l=some ps/\e=.returned .nilIface/\Ix7 w' i b n R r vp' ps ⟨#[]⟩ 0 vr l):=by
 obtain⟨a,c,rfl,q,z,E⟩:∃ a c,vr=.slice a l.length c/\d8 w a l/\l.length<=c/\c<=9223372036854775807:=by
  rcases h.rows.form with ⟨rfl,rfl⟩|⟨g,p,rfl,d,D⟩
  .exact⟨none,0,rfl,.inl rfl,bR,by omega⟩
  .exact⟨_,p,rfl,Rws.sl h.rows,d,by unfold maxLen at D;omega⟩
 have C:=Xa q z E (by omega);have A:=hZ h;obtain⟨G,I,J,K,L,M,N,O,P,Q⟩:=h.box.facts;have m:i<=b:=h.low;have B:=hZ s;clear h s q;go_enter func74,ntmps74;go_wp2_with fail;refine C.mono ?_;rintro e w1 ⟨v,rfl,f,d⟩;have k:=A.out.below d;have j:=hZ k;have F:=(B.out.below d).full;have o:=hZ d;obtain⟨H,S,T,U,V,W,X,Y,Z,cf⟩:=k.box.facts
 cases hp:l8 l with
 | none =>
  rw[hp]at f;clear f d k;go_wp2;go_ret;exact⟨o.out.mono (by omega),.inl ⟨hp,rfl,j.out⟩⟩
 | some ps =>
  rw[hp]at f;obtain⟨t,u,vc,rfl⟩:∃ t u vc,v=.slice t u vc:=by
   rcases aj.form f with ⟨rfl,_⟩|⟨g,p,rfl,_,_⟩
   .exact⟨_,_,_,rfl⟩
   .exact⟨_,_,_,rfl⟩
  have y:=hZ f;clear f d k;go_wp2;go_ret;refine⟨?_,.inr ⟨ps,_,hp,rfl,j.out.grow (Uc _ _ _ _ _ _ _ _) (j.out.box.disk _) (y.out.mono (by omega)) j.out.rows⟩⟩;exact ((o.out.mono (by omega)).setCell m _).setCell m _ |>.setCell m _
theorem ax1 (w:World) (g i j:Nat) (a b:Value):w.grownBy ((w.setCell ⟨g,i,none⟩ a).setCell ⟨g,j,none⟩ b) (some g) :=
 ⟨rfl,rfl,rfl,by simp,fun q hq hn=>by
  have n:¬ q=g:=fun e=>hn (by rw[e])
  rw[heap_setCell_other _ ⟨g,j,none⟩ q _ n,heap_setCell_other _ ⟨g,i,none⟩ q _ n]⟩
theorem ke.rowlog {u:World} {b:Nat} {c:Value} {sh:Bool} {lv:Int} {r:ByteArray} {d:Value} {log:ByteArray} {syn:Int} {vr:Value}(h:ke u b c sh lv r d log syn vr) (vr':Value) (a:ByteArray):ke ((u.setCell ⟨b,7,none⟩ vr').setCell ⟨b,5,none⟩ (.string a)) b c sh lv r d a syn vr':=by
 have e:=heap_setCell_same u b 7 _ _ vr' h;have f:=heap_setCell_same _ b 5 _ _ (.string a) e;show _=_
 rw[f];simp
def Dr (p:Addr):Value:=.iface 298 (.pointer (some p))
def Zc (w:World) (lo b:Nat) (ve:Value) (R:RA) (r:ByteArray) (vp:Value) (ss:List ByteArray) (log:ByteArray) (syn:Int) (vr:Value) (l:List Rw) (o:Dn) (pl pf pn:Addr) (e:Ending) (w':World):Prop :=
 Below lo w w'/\((apC R l o=0/\log.size+(cu o).size<=6000/\e=.returned .nilIface/\∃ vr',Ix7 w' lo b ve R r vp ss (log++cu o) syn vr' (apR R l o)) \/
  (Ix7 w' lo b ve R r vp ss log syn vr l/\((apC R l o=2/\e=.returned (Dr pl))\/((apC R l o=3\/apC R l o=0/\¬ log.size+(cu o).size<=6000)/\e=.returned (Dr pf))\/(apC R l o=4/\e=.returned (Dr pn)))))
theorem ad4 {w:World} {x b B:Nat} {K:Value} {R:RA} {r:ByteArray} {X:Value} {ss:List ByteArray} {log:ByteArray} {syn:Int} {vr:Value} {l:List Rw} {pb pl pf pn:Addr}(o:Dn) (hd:o.put=false->o.val=⟨#[]⟩) (ab:o.text.size<=1048576) (ac:o.val.size<=1048576)
  (A:Ix7 w x b K R r X ss log syn vr l) (T:Ru7 w B K R) (H:Ev7 w pb pl pf pn) (a0:jr l) (a2:l.length<=60) (a8:log.size<=6000) :
  Calls prog 75 #[.pointer (some ⟨b,0,none⟩),.agg #[.int .i64 (kn7 o),.string o.text,.string o.val]] w fun e w'=>Zc w x b K R r X ss log syn vr l o pl pf pn e w':=by
 obtain⟨W,C⟩:∃ W,W=w.alloc (.cells #[.int .i64 (kn7 o),.string o.text,.string o.val] 27):=⟨_,rfl⟩
 have m:Below w.heap.size w W:=by rw[C];exact bY _
 have E:Hid (dw W w.heap.size (kn7 o) o.text o.val):=by show _=_;rw[C];exact heap_alloc_new w _
 have S:Hid (W=w.alloc (.cells #[.int .i64 (kn7 o),.string o.text,.string o.val] 27)):=C;have y:=hZ m;have t:=A.below m;have s:=Bf o ab ac t.box (T.below m) (H.below m) t.rows a0 a2;have O:=hZ t;have Q:=hZ (H.below m);have N:x<=b:=A.low;have ae:b<w.heap.size:=A.box.lt;obtain⟨a5,b0,b1,b2,b3,b4,a,b6,b7,bf⟩:=t.box.facts;obtain⟨a9,o0,o1,o2⟩:=E.out.facts;clear A T H m C t;generalize hkn:kn7 o=kk at *;go_enter func75,ntmps75;go_upto_region 1 with fail
 rw[<- S.out];go_wp2_with fail;refine s.mono ?_;rintro e n ⟨h,d⟩;have j:=O.out.below d;have k:=E.out.below d;have i:=hZ j;have Z:=hZ k;have D:=(Q.out.below d).full;have L:=hZ (y.out.trans (d.mono y.out.size));have q:Hid (Below x w n):=L.out.mono (by omega);obtain⟨a6,c0,c1,c2,c3,c4,c5,c6,c7,cf⟩:=j.box.facts;obtain⟨aa,p0,p1,p2⟩:=k.facts;rcases h with ⟨c,v,rfl,I⟩|⟨c,rfl⟩|⟨c,rfl⟩|⟨c,rfl⟩
 .obtain⟨q1,q2,_,_⟩:=qt c
  have q3:=(lu q1).1;have f:Hid (apC R l o=0):=c;have P:=hZ I;obtain⟨U,V,vc,rfl⟩:∃ U V vc,v=.slice U V vc:=by
   rcases I.form with ⟨rfl,_⟩|⟨g,ad,rfl,_,_⟩
   .exact⟨_,_,_,rfl⟩
   .exact⟨_,_,_,rfl⟩
  have G:=fun u=>Q6 u o q3 q2 hd
  rw[hkn]at G;have af:(cu o).size<=124:=by rw[zv];split <;> omega
  have ah:W.heap.size<=n.heap.size:=d.size;have ai:w.heap.size<=W.heap.size:=y.out.size;clear s d j k c I q1 E O Q y S b0 b1 b2 b3 b4 a b6 b7 bf o0 o1 o2 a9 a5;generalize hrb:cu o=rb at *;go_upto_region 4 with fail
  go_cut [7] from 17 to 25 (fun v7 wx=>v7=.string (log++rb)/\Below n.heap.size n wx)
  case first =>
   go_region_with (go_at_call 112;refine (G _).mono ?_;rintro e w5 ⟨rfl,a⟩;have Y:Below n.heap.size n w5:=⟨a.os,a.tape,a.output,a.size,a.block⟩;have x5:=(i.out.below Y).box.facts.2.2.2.2.2.2.1;have x6:=ag x5;clear a)
   all_goals
    go_simp;go_wp2_with fail;go_meet
    case rel=>exact⟨rfl,Y⟩
  case rest =>
   obtain⟨h7,a⟩:=hcut;subst h7;have F:=i.out.below a;have z:=hZ F;have a1:=hZ (P.out.below a);have M:Hid (Below x w wc):=q.out.trans (a.mono (by omega));have a3:wc.cell? ⟨2,0,none⟩=some (.iface 298 (.pointer (some pf))):=(a.cell (p:=⟨2,0,none⟩) (ag D)).trans D;have a4:=ag a3;obtain⟨a7,d0,d,d2,d3,d4,d5,d6,d7,df⟩:=F.box.facts;clear F a G P i q Z L D c0 c1 c2 c3 c4 c5 c6 c7 cf p0 p1 p2;by_cases J:log.size+rb.size<=6000
   .have z1:decide ((6000:Int)<(log.size:Int)+(rb.size:Int))=false:=decide_eq_false (by omega)
    go_wp2;go_ret;rw[<- hrb]at *;refine⟨?_,.inl ⟨f.out,J,rfl,_,z.out.grow (ax1 _ _ _ _ _ _) (z.out.box.rowlog _ _) z.out.pages (a1.out.mono (by omega))⟩⟩;exact (M.out.setCell N _).setCell N _
   .have z1:decide ((6000:Int)<(log.size:Int)+(rb.size:Int))=true:=decide_eq_true (by omega)
    go_wp2;go_ret;rw[<- hrb]at J;exact⟨M.out,.inr ⟨z.out,.inr (.inl ⟨.inr ⟨f.out,J⟩,rfl⟩)⟩⟩
 .clear s d j k
  have f:Hid (apC R l o=2):=c;clear c;go_wp2;go_ret;exact⟨q.out,.inr ⟨i.out,.inl ⟨f.out,rfl⟩⟩⟩
 .clear s d j k
  have f:Hid (apC R l o=3):=c;clear c;go_wp2;go_ret;exact⟨q.out,.inr ⟨i.out,.inr (.inl ⟨.inl f.out,rfl⟩)⟩⟩
 .clear s d j k
  have f:Hid (apC R l o=4):=c;clear c;go_wp2;go_ret;exact⟨q.out,.inr ⟨i.out,.inr (.inr ⟨f.out,rfl⟩)⟩⟩
theorem ke.syn {u:World} {b:Nat} {a:Value} {sh:Bool} {lv:Int} {r:ByteArray} {c:Value} {log:ByteArray} {syn:Int} {vr:Value}(h:ke u b a sh lv r c log syn vr) (syn':Int):ke (u.setCell ⟨b,6,none⟩ (.int .i64 syn')) b a sh lv r c log syn' vr:=by
 have d:=heap_setCell_same u b 6 _ _ (.int .i64 syn') h;show _=_
 rw[d];simp
def doG (d:Ds7) (l:List Rw) (k:Int) (x v:ByteArray):Int × Ds7:=if dq k x v=true then doL d l k x v else (1,d)
theorem Sp {k:Int} {x v:ByteArray}(h:dq k x v=true):k=3\/k=4\/(k≠3/\k≠4/\kn7 (dn7 k x v)=k/\((dn7 k x v).put=false->v=⟨#[]⟩)):=by
 unfold dq at h;obtain⟨b,c,d,a⟩:=of_decide_eq_true h;rcases (show k=1\/k=2\/k=3\/k=4 by omega) with rfl|rfl|rfl|rfl
 .exact .inr (.inr ⟨by decide,by decide,rfl,fun e=>by cases e⟩)
 .refine .inr (.inr ⟨by decide,by decide,rfl,fun _=>?_⟩)
  have:=a (by decide);apply ByteArray.ext
  exact Array.eq_empty_of_size_eq_zero this
 .exact .inl rfl
 .exact .inr (.inl rfl)
theorem a03 {d:Ds7} {l:List Rw} {x v:ByteArray}:doL d l 3 x v=(0,{ d with syn:=(d.log.size:Int) }):=rfl
theorem ag3 {d:Ds7} {l:List Rw} {x v:ByteArray}:doL d l 4 x v=(match l8 l with|some pp=>(0,{ d with ss:=pp,log:=⟨#[]⟩,syn:=0 })|none=>(3,d)):=rfl
theorem ag2 {d:Ds7} {l:List Rw} {k:Int} {x v:ByteArray}(a:k≠3) (b:k≠4):doL d l k x v=if apC (ab d.r) l (dn7 k x v)=0 then (if d.log.size+(cu (dn7 k x v)).size<=6000 then (0,{ d with log:=d.log++cu (dn7 k x v) }) else (3,d)) else (apC (ab d.r) l (dn7 k x v),d):=by
 unfold doL;rw[if_neg a,if_neg b]
theorem b42 {w:World} {s b B:Nat} {C:Value} {d:Ds7} {i:Value} {vr:Value} {l:List Rw} {pb pl pf pn:Addr}(k:Int) (x v:ByteArray) (hx:x.size<=1048576) (hv:v.size<=1048576)
  (y:Ix7 w s b C (ab d.r) d.r i d.ss d.log d.syn vr l) (V:Ru7 w B C (ab d.r)) (X:Ev7 w pb pl pf pn) (a0:jr l) (M:l.length<=60) (a1:d.log.size<=6000) :
  Calls prog 30 #[.pointer (some ⟨b,0,none⟩),.agg #[.int .i64 k,.string x,.string v]] w fun e w'=>Below s w w'/\∃ ev,e=.returned ev/\V2 pb pl pf pn ev (doG d l k x v).1/\∃ G vr' l',Ix7 w' s b C (ab d.r) d.r G (doG d l k x v).2.ss (doG d l k x v).2.log (doG d l k x v).2.syn vr' l':=by
 obtain⟨W,z⟩:∃ W,W=w.alloc (.cells #[.int .i64 k,.string x,.string v] 27):=⟨_,rfl⟩
 have t:Below w.heap.size w W:=by rw[z];exact bY _
 have I:Hid (dw W w.heap.size k x v):=by show _=_;rw[z];exact heap_alloc_new w _
 have R:Hid (W=w.alloc (.cells #[.int .i64 k,.string x,.string v] 27)):=z;have D:=hZ t;have N:=Wr W k x v;have O:=hZ (y.below t);have Q:=hZ (X.below t);have P:=hZ (V.below t);have a6:s<=b:=y.low;have a9:b<w.heap.size:=y.box.lt;obtain⟨a7,o0,o1,o2⟩:=I.out.facts;clear y V X t z;go_enter func30,ntmps30;go_upto_region 1 with fail
 rw[<- R.out];go_wp2_with fail;refine N.mono ?_;rintro e L ⟨rfl,q⟩;have J:=O.out.below q;have S:=I.out.below q;have n:=hZ J;have E:=hZ (Q.out.below q);have a2:=hZ (P.out.below q);have Z:=hZ (D.out.trans (q.mono D.out.size));have j:Hid (Below s w L):=Z.out.mono (by omega);obtain⟨a3,c0,c1,c2,c3,c4,c5,c6,c7,cf⟩:=J.box.facts;obtain⟨a8,p0,p1,p2⟩:=S.facts;clear N q J S I O Q P D R o0 o1 o2 a7
 cases hg:dq k x v
 .have hd:doG d l k x v=(1,d):=by unfold doG;rw[hg];rfl
  have c:Hid (doG d l k x v=(1,d)):=hd;have e0:=E.out.bad;have e1:=ag e0;clear hg hd;go_wp2;go_ret;rw[c.out];exact⟨j.out,_,rfl,.inr (.inl ⟨.inl rfl,rfl⟩),i,vr,l,n.out⟩
 .have hd:doG d l k x v=doL d l k x v:=by unfold doG;rw[hg];rfl
  have hs:=Sp hg;clear hg;rcases hs with rfl|rfl|⟨T,U,a5,a4⟩
  .rw[a03]at hd
   have c:Hid (doG d l 3 x v=(0,{ d with syn:=(d.log.size:Int) })):=hd;clear hd;have w0:IntKind.i64.wrap (d.log.size:Int)=(d.log.size:Int):=by rw[IntKind.wrap_i64];omega
   go_wp2;go_ret;rw[c.out];exact⟨j.out.setCell a6 _,_,rfl,.inl ⟨rfl,rfl⟩,i,vr,l,n.out.grow (dj _ _ _ _) (n.out.box.syn _) n.out.pages n.out.rows⟩
  .have H:=Kd n.out E.out M
   go_wp2_with fail;refine H.mono ?_;rintro e w2 ⟨p,h⟩;have m:=hZ p;rw[ag3]at hd;rcases h with ⟨u,rfl,f⟩|⟨ps,G,u,rfl,f⟩
   .rw[u]at hd
    have c:Hid (doG d l 4 x v=(3,d)):=hd;clear hd;have g:=hZ f;clear f p H u;go_wp2;go_ret;rw[c.out];exact⟨j.out.trans m.out,_,rfl,.inr (.inr (.inr (.inl ⟨rfl,rfl⟩))),i,vr,l,g.out⟩
   .rw[u]at hd
    have c:Hid (doG d l 4 x v=(0,{ d with ss:=ps,log:=⟨#[]⟩,syn:=0 })):=hd;clear hd;have g:=hZ f;clear f p H u;go_wp2;go_ret;rw[c.out];exact⟨j.out.trans m.out,_,rfl,.inl ⟨rfl,rfl⟩,G,vr,l,g.out⟩
  .rw[ag2 T U]at hd
   have K:=ad4 (dn7 k x v) a4 hx hv n.out a2.out E.out a0 M a1;rw[a5]at K;have t3:decide (k=3)=false:=decide_eq_false T;have t4:decide (k=4)=false:=decide_eq_false U;have F:Calls prog 75 #[.pointer (some ⟨b,0,none⟩),.agg #[.int .i64 k,.string x,.string v]] L fun e w'=>Zc L s b C (ab d.r) d.r i d.ss d.log d.syn vr l (dn7 k x v) pl pf pn e w':=K
   clear K;generalize dn7 k x v=o at *;go_wp2_with fail;refine F.mono ?_;rintro e w2 ⟨p,h⟩;have m:=hZ p;rcases h with ⟨a,A,rfl,vr',f⟩|⟨f,h⟩
   .rw[if_pos a,if_pos A]at hd
    have c:Hid (doG d l k x v=(0,{ d with log:=d.log++cu o })):=hd;clear hd;have g:=hZ f;clear f p F a A;go_wp2;go_ret;rw[c.out];exact⟨j.out.trans m.out,_,rfl,.inl ⟨rfl,rfl⟩,i,vr',_,g.out⟩
   .have g:=hZ f
    clear f p F;rcases h with ⟨a,rfl⟩|⟨a,rfl⟩|⟨a,rfl⟩
    .rw[if_neg (by rw[a];decide),a]at hd
     have c:Hid (doG d l k x v=(2,d)):=hd;unfold Dr;clear a hd;go_wp2;go_ret;rw[c.out];exact⟨j.out.trans m.out,_,rfl,.inr (.inr (.inl ⟨rfl,rfl⟩)),i,vr,l,g.out⟩
    .have Y:(if apC (ab d.r) l o=0 then (if d.log.size+(cu o).size<=6000 then (0,{ d with log:=d.log++cu o }) else (3,d)) else (apC (ab d.r) l o,d))=((3,d):Int × Ds7):=by
      rcases a with a|⟨a,A⟩
      .rw[if_neg (by rw[a];decide),a]
      .rw[if_pos a,if_neg A]
     rw[Y]at hd;have c:Hid (doG d l k x v=(3,d)):=hd;unfold Dr;clear a Y hd;go_wp2;go_ret;rw[c.out];exact⟨j.out.trans m.out,_,rfl,.inr (.inr (.inr (.inl ⟨rfl,rfl⟩))),i,vr,l,g.out⟩
    .rw[if_neg (by rw[a];decide),a]at hd
     have c:Hid (doG d l k x v=(4,d)):=hd;unfold Dr;clear a hd;go_wp2;go_ret;rw[c.out];exact⟨j.out.trans m.out,_,rfl,.inr (.inr (.inr (.inr ⟨rfl,rfl⟩))),i,vr,l,g.out⟩
theorem a80 {d:Ds7} {l:List Rw}(h:du d=some l):d.log.size<=6000:=by
 by_cases a:d.log.size<=6000
 .exact a
 .unfold du at h
  rw[Am a]at h
  cases h
theorem ad9 (R:RA) (l:List Rw) (o:Dn):apC R l o≠1:=by
 unfold apC;split
 .decide
 .split
  .split <;> decide
  .split <;> decide
theorem Hc (d:Ds7) (l:List Rw) (k:Int) (x v:ByteArray):(doL d l k x v).1≠1/\(doL d l k x v).2.r=d.r:=by
 have a:(0:Int)≠1:=by decide
 have b:(3:Int)≠1:=by decide
 unfold doL;split
 .exact⟨a,rfl⟩
 .split
  .split
   .exact⟨a,rfl⟩
   .exact⟨b,rfl⟩
  .split
   .split
    .exact⟨a,rfl⟩
    .exact⟨b,rfl⟩
   .exact⟨ad9 _ _ _,rfl⟩
theorem ax2 (w:World) (g:Nat) (a b c d:Value):w.grownBy ((((w.setCell ⟨g,0,none⟩ a).setCell ⟨g,1,none⟩ b).setCell ⟨g,2,none⟩ c).setCell ⟨g,3,none⟩ d) (some g) :=
 ⟨rfl,rfl,rfl,by simp,fun q hq hn=>by
  have n:¬ q=g:=fun e=>hn (by rw[e])
  rw[heap_setCell_other _ ⟨g,3,none⟩ q _ n,heap_setCell_other _ ⟨g,2,none⟩ q _ n,heap_setCell_other _ ⟨g,1,none⟩ q _ n,heap_setCell_other _ ⟨g,0,none⟩ q _ n]⟩
def DoQ (w:World) (p:Int × Ds7) (e:Ending) (w':World):Prop :=
 ∃ vp,e=.returned (.tuple #[.agg #[.string p.2.r,vp,.string p.2.log,.int .i64 p.2.syn],.int .i64 p.1])/\aj w' w.heap.size vp p.2.ss/\Below w.heap.size w w'
theorem ag1 (hO:xx){w:World} {B:Nat} {vd:Value} {d:Ds7} {ty:TypeId} {pv:Value} {pb pl pf pn:Addr}(k:Int) (x v:ByteArray) (hx:x.size<=1048576) (hv:v.size<=1048576) (V:Dk7 w B vd d) (hE:qd w ty pv pb pl pf pn) (hS:Es7 w pb pl pf pn) :
  Calls prog 7 #[.agg #[.string d.r,vd,.string d.log,.int .i64 d.syn],.agg #[.int .i64 k,.string x,.string v]] w fun e w'=>DoQ w (do7 d k x v) e w':=by
 obtain⟨p,s,au⟩:=V.form;subst au;obtain⟨W0,t⟩:∃ W0,W0=((w.alloc (.cells #[.string d.r,.slice p d.ss.length s,.string d.log,.int .i64 d.syn] 25)).alloc (.cells #[.int .i64 k,.string x,.string v] 27)).alloc (.cells #[.string ⟨#[]⟩,.slice none 0 0,.string ⟨#[]⟩,.int .i64 0] 25):=⟨_,rfl⟩
 have A:Below w.heap.size w W0:=by rw[t];exact ((bY _).alloc (by simp) _).alloc (by simp;omega) _
 have h0:W0.heap.size=w.heap.size+3:=by rw[t];simp
 have u:Hid (W0.heap[w.heap.size]? = some (.cells #[.string d.r,.slice p d.ss.length s,.string d.log,.int .i64 d.syn] 25)):=by
  show _=_
  rw[t,Below.heap_alloc _ _ _ (by simp;omega),Below.heap_alloc _ _ _ (by simp)];exact heap_alloc_new w _
 have a1:Hid (W0.heap[w.heap.size+1]? = some (.cells #[.int .i64 k,.string x,.string v] 27)):=by
  show _=_
  have q:=heap_alloc_new (w.alloc (.cells #[.string d.r,.slice p d.ss.length s,.string d.log,.int .i64 d.syn] 25)) (.cells #[.int .i64 k,.string x,.string v] 27);rw[World.size_alloc]at q;rw[t,Below.heap_alloc _ _ _ (by simp)];exact q
 have a2:Hid (W0.heap[w.heap.size+2]? = some (.cells #[.string ⟨#[]⟩,.slice none 0 0,.string ⟨#[]⟩,.int .i64 0] 25)):=by
  show _=_
  have q:=heap_alloc_new ((w.alloc (.cells #[.string d.r,.slice p d.ss.length s,.string d.log,.int .i64 d.syn] 25)).alloc (.cells #[.int .i64 k,.string x,.string v] 27)) (.cells #[.string ⟨#[]⟩,.slice none 0 0,.string ⟨#[]⟩,.int .i64 0] 25);rw[World.size_alloc,World.size_alloc]at q;rw[t];exact q
 have S:Hid (W0=((w.alloc (.cells #[.string d.r,.slice p d.ss.length s,.string d.log,.int .i64 d.syn] 25)).alloc (.cells #[.int .i64 k,.string x,.string v] 27)).alloc (.cells #[.string ⟨#[]⟩,.slice none 0 0,.string ⟨#[]⟩,.int .i64 0] 25)):=t;have I:=yx hO (V.below A) (hE.below A);have C:=hZ A;have Q:=hZ (hE.below A);have R:=hZ (hS.below A);have a8:Hid (Ok7 d):=V.ok;have g0:=cell_of_row _ _ 0 _ _ _ u.out;have g1:=cell_of_row _ _ 1 _ _ _ u.out;have g2:=cell_of_row _ _ 2 _ _ _ u.out;have g3:=cell_of_row _ _ 3 _ _ _ u.out;obtain⟨o,ho⟩:∃ o,o=dz d:=⟨_,rfl⟩
 have L:Hid (o=dz d):=ho;rw[<- ho]at I;clear V hE hS A t ho
 cases o with
 | none =>
  have F:do7 d k x v=(1,zD7):=by
   unfold do7
   cases hq:du d with
   | none=>rfl
   | some l =>
    have g:ki d=false:=by
     cases hs:ki d
     .rfl
     .have:=L.out
      unfold dz at this;rw[hs,hq]at this
      cases this
    show (if (ki d && dq k x v)=true then _ else _)=_
    rw[g];rfl
  have y:Hid (do7 d k x v=(1,zD7)):=F;have E:Calls prog 29 #[.agg #[.string d.r,.slice p d.ss.length s,.string d.log,.int .i64 d.syn]] W0 fun e w'=>(∃ b,e=.returned (.tuple #[zIx,b])/\Bk pb b)/\Below W0.heap.size W0 w':=I
  clear I F;go_enter func7,ntmps7;go_upto_region 1 with fail
  rw[<- S.out];go_wp2_with fail;refine E.mono ?_;rintro e f ⟨⟨b,rfl,i⟩,a⟩;have H:Hid (∀ o,Calls prog 31 #[b] (f.alloc o) fun e w'=>e=.returned (.int .i64 1)/\Below (f.alloc o).heap.size (f.alloc o) w'):=fun o=>xh (R.out.below (a.alloc a.size o)) (.inr (.inl ⟨i,rfl⟩))
  have X:=hZ a;have an:=a.size;unfold zIx;clear E a Q R u a1 S a8 L g0 g1 g2 g3;have hn:b≠.nilIface:=by rcases i with rfl|⟨kk,rfl⟩ <;> (intro c;cases c)
  obtain⟨J,ex,rfl⟩:∃ J ex,b=.iface J ex:=by rcases i with rfl|⟨kk,rfl⟩ <;> exact⟨_,_,rfl⟩
  clear i hn;go_wp2_with fail;refine (H.out _).mono ?_;rintro e w2 ⟨rfl,b2⟩;have U:Below W0.heap.size W0 w2:=X.out.trans ((((Below.refl f.heap.size f).alloc bR _).trans (b2.mono (by simp))).mono X.out.size);have m:=(U.block (w.heap.size+2) (by omega)).trans a2.out;have ax:Hid (w2.heap[w.heap.size+2]? = some (.cells #[.string ⟨#[]⟩,.slice none 0 0,.string ⟨#[]⟩,.int .i64 0] 25)):=m;have ah:=hZ (C.out.trans (U.mono C.out.size));have ao:=U.size;have q0:=cell_of_row _ _ 0 _ _ _ m;have q1:=cell_of_row _ _ 1 _ _ _ m;have q2:=cell_of_row _ _ 2 _ _ _ m;have q3:=cell_of_row _ _ 3 _ _ _ m;have qf:=fun j=>frozen_of_row _ _ j _ _ m
  clear H b2 U m X a2 C;go_wp2;refine bodyPost_ret (v:=.tuple #[.agg #[.string zD7.r,.slice none 0 0,.string zD7.log,.int .i64 zD7.syn],.int .i64 1]) ?_ rfl ?_
  .rw[results_cell_tmp rfl]
   unfold zD7;go_simp
  .show DoQ w (do7 d k x v) _ _
   rw[y.out];exact⟨_,rfl,World.ownsRow_nil _ _ _ _,(((ah.out.setCell (by show w.heap.size<=w.heap.size+1+1;omega) _).setCell (by show w.heap.size<=w.heap.size+1+1;omega) _).setCell (by show w.heap.size<=w.heap.size+1+1;omega) _).setCell (by show w.heap.size<=w.heap.size+1+1;omega) _⟩
 | some l =>
  obtain⟨ag,G⟩:=Cm L.out.symm;have F:do7 d k x v=if dq k x v=true then doL d l k x v else (1,zD7):=by
   unfold do7;rw[G];show (if (ki d && dq k x v)=true then _ else _)=_
   rw[ag,Bool.true_and]
  have y:Hid (do7 d k x v=if dq k x v=true then doL d l k x v else (1,zD7)):=F;have am:=qn G;have af:=m6 a8.out G;have al:=a80 G;have E:Calls prog 29 #[.agg #[.string d.r,.slice p d.ss.length s,.string d.log,.int .i64 d.syn]] W0 fun e w'=>(∃ ve vp vr,e=.returned (.tuple #[ixV ve (ab d.r) d.r vp d.log d.syn vr,.nilIface])/\ac w' W0.heap.size ve (ab d.r).es/\aj w' W0.heap.size vp d.ss/\Rws w' W0.heap.size vr l)/\Below W0.heap.size W0 w':=I
  clear I F ag G;go_enter func7,ntmps7;go_upto_region 1 with fail
  rw[<- S.out];go_wp2_with fail;refine E.mono ?_;rintro e f ⟨⟨ve,vp,vr,rfl,g,h2,h3⟩,a⟩;obtain⟨va,vc,aq⟩:=sd g;subst aq;obtain⟨ap,cp,av,_⟩:=iw h2;subst av;obtain⟨ar,cr,aw⟩:=cz h3;subst aw;obtain⟨w2,O⟩:∃ w2,w2=f.alloc (.cells #[.slice va (ab d.r).es.length vc,.bool (ab d.r).sh,.int .i64 (ab d.r).lv,.string d.r,.slice ap d.ss.length cp,.string d.log,.int .i64 d.syn,.slice ar l.length cr] 71):=⟨_,rfl⟩
  have a9:Hid (w2=f.alloc (.cells #[.slice va (ab d.r).es.length vc,.bool (ab d.r).sh,.int .i64 (ab d.r).lv,.string d.r,.slice ap d.ss.length cp,.string d.log,.int .i64 d.syn,.slice ar l.length cr] 71)):=O;have hI:Ix7 w2 W0.heap.size f.heap.size (.slice va (ab d.r).es.length vc) (ab d.r) d.r (.slice ap d.ss.length cp) d.ss d.log d.syn (.slice ar l.length cr) l:=by rw[O];exact P6 g h2 h3 a.size
  have z:Below W0.heap.size W0 w2:=by rw[O];exact a.alloc a.size _
  have a0:=hZ z;have DO:=b42 k x v hx hv hI ⟨hI.ents,am,(Q.out.below z).tabs⟩ (Q.out.below z).errs af.rise af.len al;have N:=(z.block (w.heap.size+1) (by omega)).trans a1.out;have r0:=cell_of_row _ _ 0 _ _ _ N;have r1:=cell_of_row _ _ 1 _ _ _ N;have r2:=cell_of_row _ _ 2 _ _ _ N;have an:=a.size;have ao:=z.size;unfold ixV;clear E g h2 h3 a hI O z N g0 g1 g2 g3 Q u S;go_upto_region 3 with fail
  rw[<- a9.out];go_wp2_with fail;refine DO.mono ?_;rintro e w3 ⟨b3,b,rfl,a4,aB,aC,l',I3⟩;have az:=b3.size;have a3:Below W0.heap.size W0 w3:=a0.out.trans b3;have H:=xh (R.out.below a3) a4;have a7:=hZ I3;have W:=hZ a3;obtain⟨J,ex,i⟩|i:(∃ J ex,b=.iface J ex)\/b=.nilIface:=by
   rcases a4 with ⟨rfl,_⟩|⟨h,_⟩|⟨rfl,_⟩|⟨rfl,_⟩|⟨rfl,_⟩
   .exact .inr rfl
   .rcases h with rfl|⟨kk,rfl⟩ <;> exact .inl ⟨_,_,rfl⟩
   .exact .inl ⟨_,_,rfl⟩
   .exact .inl ⟨_,_,rfl⟩
   .exact .inl ⟨_,_,rfl⟩
  all_goals
   subst i;clear DO b3 a3 I3 a4 R a0 a9 a1 L r0 r1 r2;go_wp2_with fail;refine H.mono ?_;rintro e w4 ⟨rfl,b4⟩;have M:Below W0.heap.size W0 w4:=W.out.trans (b4.mono W.out.size);have n:=(M.block (w.heap.size+2) (by omega)).trans a2.out;have ai:Hid (w4.heap[w.heap.size+2]? = some (.cells #[.string ⟨#[]⟩,.slice none 0 0,.string ⟨#[]⟩,.int .i64 0] 25)):=n;have a6:=hZ (C.out.trans (M.mono C.out.size));have aA:=M.size;have T:=a7.out.below b4;obtain⟨aa,ae,a5,_⟩:=iw T.pages;subst a5;have Z:=hZ T;obtain⟨ay,i0,i1,i2,i3,i4,i5,i6,i7,i8⟩:=T.box.facts;have q0:=cell_of_row _ _ 0 _ _ _ n
   have q1:=cell_of_row _ _ 1 _ _ _ n;have q2:=cell_of_row _ _ 2 _ _ _ n;have q3:=cell_of_row _ _ 3 _ _ _ n;have qf:=fun j=>frozen_of_row _ _ j _ _ n
   clear H b4 M n a7 W T
   cases hg:dq k x v
   .have hd:doG d l k x v=(1,d):=by unfold doG;rw[hg];rfl
    have K:do7 d k x v=(1,zD7):=by rw[y.out,hg];rfl
    have Y:Hid (do7 d k x v=(1,zD7)):=K;have g:(doG d l k x v).1=1:=by rw[hd]
    rw[g];clear hd K g hg y Z;generalize (doG d l k x v).2=D at *;go_wp2;refine bodyPost_ret (v:=.tuple #[.agg #[.string zD7.r,.slice none 0 0,.string zD7.log,.int .i64 zD7.syn],.int .i64 1]) ?_ rfl ?_
    .rw[results_cell_tmp rfl]
     unfold zD7;go_simp
    .show DoQ w (do7 d k x v) _ _
     rw[Y.out];exact⟨_,rfl,World.ownsRow_nil _ _ _ _,(((a6.out.setCell (by show w.heap.size<=w.heap.size+1+1;omega) _).setCell (by show w.heap.size<=w.heap.size+1+1;omega) _).setCell (by show w.heap.size<=w.heap.size+1+1;omega) _).setCell (by show w.heap.size<=w.heap.size+1+1;omega) _⟩
   .have hd:doG d l k x v=doL d l k x v:=by unfold doG;rw[hg];rfl
    have K:do7 d k x v=doL d l k x v:=by rw[y.out,hg];rfl
    have hn:=Hc d l k x v;rw[hd]at i4 i5 i6 Z;rw[hd];generalize doL d l k x v=P at *;obtain⟨c,D⟩:=P;clear hd;have Y:Hid (do7 d k x v=(c,D)):=K;have n1:¬ c=1:=hn.1;have ak:Hid (D.r=d.r):=hn.2;clear K hg y hn;go_wp2;refine bodyPost_ret (v:=.tuple #[.agg #[.string d.r,.slice aa D.ss.length ae,.string D.log,.int .i64 D.syn],.int .i64 c]) ?_ rfl ?_
    .rw[results_cell_tmp rfl]
     go_simp
    .show DoQ w (do7 d k x v) _ _
     rw[Y.out];refine⟨.slice aa D.ss.length ae,by rw[ak.out],?_,(((a6.out.setCell (by show w.heap.size<=w.heap.size+1+1;omega) _).setCell (by show w.heap.size<=w.heap.size+1+1;omega) _).setCell (by show w.heap.size<=w.heap.size+1+1;omega) _).setCell (by show w.heap.size<=w.heap.size+1+1;omega) _⟩;have hp:=Z.out.pages;exact (World.ownsRow.kept hp (ax2 _ _ _ _ _ _) (ie hp ai.out (by decide))).mono (by omega)
def rv7 (x:Rw):Value:=.agg #[.string x.key,.string x.text,.string x.val]
def zR7:Rw:=⟨⟨#[]⟩,⟨#[]⟩,⟨#[]⟩⟩
def m5 (R:RA) (l:List Rw) (x:ByteArray):Int × Rw :=
 if fe R x=true then (if bq l (bj R x)=true then (0,cg l (an l (bj R x))) else (4,zR7)) else (2,zR7)
def fdE (pl pn:Addr) (c:Int):Value:=if c=0 then .nilIface else if c=2 then Dr pl else Dr pn
theorem ah9 {w:World} {lo b B:Nat} {Z:Value} {R:RA} {r:ByteArray} {vp:Value} {ss:List ByteArray} {log:ByteArray} {syn:Int} {vr:Value} {l:List Rw} {pb pl pf pn:Addr}(x:ByteArray) (hx:x.size<=1048576)
  (M:Ix7 w lo b Z R r vp ss log syn vr l) (N:Ru7 w B Z R) (D:Ev7 w pb pl pf pn) (a5:l.length<=60) :
  Calls prog 44 #[.pointer (some ⟨b,0,none⟩),.string x] w fun e w'=>e=.returned (.tuple #[rv7 (m5 R l x).2,fdE pl pn (m5 R l x).1])/\Below w.heap.size w w':=by
 obtain⟨X,Y,rfl⟩:=N.form;obtain⟨ar,cr,rfl⟩:=cz M.rows;obtain⟨W,s⟩:∃ W,W=w.alloc (.cells #[.string ⟨#[]⟩,.string ⟨#[]⟩,.string ⟨#[]⟩] 37):=⟨_,rfl⟩
 have m:Below w.heap.size w W:=by rw[s];exact bY _
 have h0:W.heap.size=w.heap.size+1:=by rw[s];simp
 have P:Hid (W.heap[w.heap.size]? = some (.cells #[.string ⟨#[]⟩,.string ⟨#[]⟩,.string ⟨#[]⟩] 37)):=by show _=_;rw[s];exact heap_alloc_new w _
 have I:Hid (W=w.alloc (.cells #[.string ⟨#[]⟩,.string ⟨#[]⟩,.string ⟨#[]⟩] 37)):=s;have K:=M.below m;have T:=hZ K;have HV:=hZ (D.below m);have u:=hZ m;have k:=Jv x hx (N.below m) (D.below m);obtain⟨a7,b0,b1,b2,b3,b4,b5,b6,b7,bf⟩:=K.box.facts;have a8:3<w.heap.size:=ag D.none_;have a9:¬ w.heap.size=3:=by omega
 have aa:¬ 3=w.heap.size:=by omega
 clear M N D m s K;obtain⟨A,z⟩:∃ A,Hid (m5 R l x=A):=⟨_,rfl⟩
 cases hf:fe R x
 .rw[hf]at k
  have q:A=(2,zR7):=by rw[<- z.out];unfold m5;rw[hf];rfl
  have i:Calls prog 94 #[.agg #[.slice X R.es.length Y,.bool R.sh,.int .i64 R.lv],.string x] W fun e w'=>e=.returned (.tuple #[.string ⟨#[]⟩,.iface 298 (.pointer (some pl))])/\Below W.heap.size W w':=k
  clear k hf;have h:Hid (m5 R l x=(2,zR7)):=z.out.trans q;clear z q;go_enter func44,ntmps44;go_upto_region 1 with fail
  rw[<- I.out];go_wp2_with fail;refine i.mono ?_;rintro e w1 ⟨rfl,f⟩;have d:=(f.block w.heap.size (by omega)).trans P.out;have q0:=cell_of_row _ _ 0 _ _ _ d;have q1:=cell_of_row _ _ 1 _ _ _ d;have q2:=cell_of_row _ _ 2 _ _ _ d;have qf:=fun j=>frozen_of_row _ _ j _ _ d
  have a4:=f.size;have t:=hZ (u.out.trans (f.mono u.out.size));clear i f d;go_wp2;refine bodyPost_ret (v:=.tuple #[.agg #[.string ⟨#[]⟩,.string ⟨#[]⟩,.string ⟨#[]⟩],.iface 298 (.pointer (some pl))]) ?_ rfl ?_
  .rw[results_cell_tmp rfl]
   go_simp
  .show _/\_
   rw[h.out];exact⟨rfl,((t.out.setCell bR _).setCell bR _).setCell bR _⟩
 .rw[hf]at k
  have i:Calls prog 94 #[.agg #[.slice X R.es.length Y,.bool R.sh,.int .i64 R.lv],.string x] W fun e w'=>e=.returned (.tuple #[.string (bj R x),.nilIface])/\Below W.heap.size W w':=k
  obtain⟨a,G⟩:∃ a,Hid (bj R x=a):=⟨_,rfl⟩
  have q:m5 R l x=if bq l a=true then (0,cg l (an l a)) else (4,zR7):=by unfold m5;rw[if_pos hf,G.out]
  rw[G.out]at i;clear k hf z;have h:Hid (m5 R l x=if bq l a=true then (0,cg l (an l a)) else (4,zR7)):=q;clear q;go_enter func44,ntmps44;go_upto_region 1 with fail
  rw[<- I.out];go_wp2_with fail;refine i.mono ?_;rintro e w1 ⟨rfl,f⟩;have C:=T.out.below f;have U:=un (c:=cr) a (gu C.rows) (by omega);obtain⟨a1,c0,c1,c2,c3,c4,c5,c6,c7,cf⟩:=C.box.facts;have O:=hZ C;have F:=hZ f;have a4:=f.size;clear i f C b0 b1 b2 b3 b4 b5 b6 b7 bf I T G;go_wp2_with fail;refine U.mono ?_;rintro e w2 ⟨rfl,L⟩;have J:=O.out.below L;obtain⟨a2,e0,e1,e2,e3,e4,e5,e6,e7,ef⟩:=J.box.facts;have n:Below W.heap.size W w2:=F.out.trans (L.mono F.out.size);have d:=(n.block w.heap.size (by omega)).trans P.out;have q0:=cell_of_row _ _ 0 _ _ _ d;have q1:=cell_of_row _ _ 1 _ _ _ d;have q2:=cell_of_row _ _ 2 _ _ _ d;have qf:=fun j=>frozen_of_row _ _ j _ _ d
  have ab:=n.size;have t:=hZ (u.out.trans (n.mono u.out.size));have a0:=(HV.out.below n).none_;have a6:=ag a0;have Q:Hid (d8 w2 ar l):=gu J.rows;clear U L n d J c0 c1 c2 c3 c4 c5 c6 c7 cf O F
  cases ht:bq l a
  .have E:Hid (m5 R l x=(4,zR7)):=by show _=_;rw[h.out,ht];rfl
   clear h ht;go_upto_region 6 with fail
   go_region
   all_goals
    go_wp2;refine bodyPost_ret (v:=.tuple #[.agg #[.string ⟨#[]⟩,.string ⟨#[]⟩,.string ⟨#[]⟩],.iface 298 (.pointer (some pn))]) ?_ rfl ?_
    .rw[results_cell_tmp rfl]
     go_simp
    .show _/\_
     rw[E.out];refine⟨rfl,?_⟩;repeat (first|with_reducible exact t.out|with_reducible refine Below.drew ?_|with_reducible refine Below.setCell ?_ (by show w.heap.size<=w.heap.size;omega) _)
  .have H:an l a<l.length:=by
    unfold bq at ht;rw[Bool.and_eq_true]at ht;exact of_decide_eq_true ht.1
   have E:Hid (m5 R l x=(0,cg l (an l a))):=by show _=_;rw[h.out,ht];rfl
   have S:l[an l a]? = some (cg l (an l a)):=by
    unfold cg;rw[List.getElem?_eq_getElem H];rfl
   clear h ht;generalize an l a=p at *;generalize cg l p=y at *;rcases Q.out with a3|⟨g,o,rfl,V⟩
   .rw[a3]at H;cases H
   .obtain⟨y0,y1,y2⟩:=V p y S
    have yl:=ag y0;clear V S Q;go_wp2;refine bodyPost_ret (v:=.tuple #[.agg #[.string y.key,.string y.text,.string y.val],.nilIface]) ?_ rfl ?_
    .rw[results_cell_tmp rfl]
     go_simp
    .show _/\_
     rw[E.out];exact⟨rfl,((t.out.setCell bR _).setCell bR _).setCell bR _⟩
def wt (d:Ds7) (x:ByteArray):Int × Rw :=
 match dz d with
 | none=>(1,zR7)
 | some l=>m5 (ab d.r) l x
theorem ai1 {R:RA} {l:List Rw} {x:ByteArray}(pb pl pf pn:Addr):V2 pb pl pf pn (fdE pl pn (m5 R l x).1) (m5 R l x).1:=by
 unfold m5;split
 .split
  .exact .inl ⟨rfl,rfl⟩
  .exact .inr (.inr (.inr (.inr ⟨rfl,rfl⟩)))
 .exact .inr (.inr (.inl ⟨rfl,rfl⟩))
theorem ai7 (hO:xx){w:World} {B:Nat} {vd:Value} {d:Ds7} {ty:TypeId} {pv:Value} {pb pl pf pn:Addr}(x:ByteArray) (hx:x.size<=1048576) (U:Dk7 w B vd d) (hE:qd w ty pv pb pl pf pn) (hS:Es7 w pb pl pf pn) :
  Calls prog 16 #[.agg #[.string d.r,vd,.string d.log,.int .i64 d.syn],.string x] w fun e w'=>e=.returned (.tuple #[rv7 (wt d x).2,.int .i64 (wt d x).1])/\Below w.heap.size w w':=by
 obtain⟨k,n,ak⟩:=U.form;subst ak;obtain⟨W0,p⟩:∃ W0,W0=(w.alloc (.cells #[.string d.r,.slice k d.ss.length n,.string d.log,.int .i64 d.syn] 25)).alloc (.cells #[.string ⟨#[]⟩,.string ⟨#[]⟩,.string ⟨#[]⟩] 37):=⟨_,rfl⟩
 have h:Below w.heap.size w W0:=by rw[p];exact (bY _).alloc (by simp) _
 have h0:W0.heap.size=w.heap.size+2:=by rw[p];simp
 have g:Hid (W0.heap[w.heap.size]? = some (.cells #[.string d.r,.slice k d.ss.length n,.string d.log,.int .i64 d.syn] 25)):=by
  show _=_
  rw[p,Below.heap_alloc _ _ _ (by simp)];exact heap_alloc_new w _
 have I:Hid (W0.heap[w.heap.size+1]? = some (.cells #[.string ⟨#[]⟩,.string ⟨#[]⟩,.string ⟨#[]⟩] 37)):=by
  show _=_
  have q:=heap_alloc_new (w.alloc (.cells #[.string d.r,.slice k d.ss.length n,.string d.log,.int .i64 d.syn] 25)) (.cells #[.string ⟨#[]⟩,.string ⟨#[]⟩,.string ⟨#[]⟩] 37);rw[World.size_alloc]at q;rw[p];exact q
 have S:Hid (W0=(w.alloc (.cells #[.string d.r,.slice k d.ss.length n,.string d.log,.int .i64 d.syn] 25)).alloc (.cells #[.string ⟨#[]⟩,.string ⟨#[]⟩,.string ⟨#[]⟩] 37)):=p;have G:=yx hO (U.below h) (hE.below h);have s:=hZ h;have O:=hZ (hE.below h);have Q:=hZ (hS.below h);have a2:Hid (Ok7 d):=U.ok;have g0:=cell_of_row _ _ 0 _ _ _ g.out;have g1:=cell_of_row _ _ 1 _ _ _ g.out;have g2:=cell_of_row _ _ 2 _ _ _ g.out;have g3:=cell_of_row _ _ 3 _ _ _ g.out;obtain⟨o,ho⟩:∃ o,o=dz d:=⟨_,rfl⟩
 have t:Hid (o=dz d):=ho;rw[<- ho]at G;clear U hE hS h p ho
 cases o with
 | none =>
  have X:Hid (wt d x=(1,zR7)):=by show _=_;unfold wt;rw[<- t.out]
  have z:Calls prog 29 #[.agg #[.string d.r,.slice k d.ss.length n,.string d.log,.int .i64 d.syn]] W0 fun e w'=>(∃ f,e=.returned (.tuple #[zIx,f])/\Bk pb f)/\Below W0.heap.size W0 w':=G
  clear G;go_enter func16,ntmps16;go_upto_region 1 with fail
  rw[<- S.out];go_wp2_with fail;refine z.mono ?_;rintro e b ⟨⟨f,rfl,Y⟩,a⟩;have F:Hid (∀ o,Calls prog 31 #[f] (b.alloc o) fun e w'=>e=.returned (.int .i64 1)/\Below (b.alloc o).heap.size (b.alloc o) w'):=fun o=>xh (Q.out.below (a.alloc a.size o)) (.inr (.inl ⟨Y,rfl⟩))
  have W:=hZ a;have af:=a.size;unfold zIx;clear z a O Q g S a2 t g0 g1 g2 g3;obtain⟨et,ex,rfl⟩:∃ et ex,f=.iface et ex:=by rcases Y with rfl|⟨kk,rfl⟩ <;> exact⟨_,_,rfl⟩
  clear Y;go_wp2_with fail;refine (F.out _).mono ?_;rintro e w2 ⟨rfl,b2⟩;have T:Below W0.heap.size W0 w2:=W.out.trans ((((Below.refl b.heap.size b).alloc bR _).trans (b2.mono (by simp))).mono W.out.size);have C:=(T.block (w.heap.size+1) (by omega)).trans I.out;have a8:=hZ (s.out.trans (T.mono s.out.size));have ag:=T.size;have q0:=cell_of_row _ _ 0 _ _ _ C;have q1:=cell_of_row _ _ 1 _ _ _ C;have q2:=cell_of_row _ _ 2 _ _ _ C;have qf:=fun j=>frozen_of_row _ _ j _ _ C
  clear F b2 T C W I s;go_wp2;refine bodyPost_ret (v:=.tuple #[.agg #[.string ⟨#[]⟩,.string ⟨#[]⟩,.string ⟨#[]⟩],.int .i64 1]) ?_ rfl ?_
  .rw[results_cell_tmp rfl]
   go_simp
  .show _/\_
   rw[X.out];exact⟨rfl,((a8.out.setCell (by show w.heap.size<=w.heap.size+1;omega) _).setCell (by show w.heap.size<=w.heap.size+1;omega) _).setCell (by show w.heap.size<=w.heap.size+1;omega) _⟩
 | some l =>
  obtain⟨ah,Z⟩:=Cm t.out.symm;have X:Hid (wt d x=m5 (ab d.r) l x):=by show _=_;unfold wt;rw[<- t.out]
  have a5:=qn Z;have a6:=m6 a2.out Z;have z:Calls prog 29 #[.agg #[.string d.r,.slice k d.ss.length n,.string d.log,.int .i64 d.syn]] W0 fun e w'=>(∃ ve vp vr,e=.returned (.tuple #[ixV ve (ab d.r) d.r vp d.log d.syn vr,.nilIface])/\ac w' W0.heap.size ve (ab d.r).es/\aj w' W0.heap.size vp d.ss/\Rws w' W0.heap.size vr l)/\Below W0.heap.size W0 w':=G
  clear G ah Z;go_enter func16,ntmps16;go_upto_region 1 with fail
  rw[<- S.out];go_wp2_with fail;refine z.mono ?_;rintro e b ⟨⟨ve,vp,vr,rfl,h1,h2,h3⟩,a⟩;obtain⟨va,vc,ai⟩:=sd h1;subst ai;obtain⟨ap,cp,al,_⟩:=iw h2;subst al;obtain⟨ar,cr,am⟩:=cz h3;subst am;obtain⟨w2,M⟩:∃ w2,w2=b.alloc (.cells #[.slice va (ab d.r).es.length vc,.bool (ab d.r).sh,.int .i64 (ab d.r).lv,.string d.r,.slice ap d.ss.length cp,.string d.log,.int .i64 d.syn,.slice ar l.length cr] 71):=⟨_,rfl⟩
  have a3:Hid (w2=b.alloc (.cells #[.slice va (ab d.r).es.length vc,.bool (ab d.r).sh,.int .i64 (ab d.r).lv,.string d.r,.slice ap d.ss.length cp,.string d.log,.int .i64 d.syn,.slice ar l.length cr] 71)):=M;have hI:Ix7 w2 W0.heap.size b.heap.size (.slice va (ab d.r).es.length vc) (ab d.r) d.r (.slice ap d.ss.length cp) d.ss d.log d.syn (.slice ar l.length cr) l:=by rw[M];exact P6 h1 h2 h3 a.size
  have A:Below W0.heap.size W0 w2:=by rw[M];exact a.alloc a.size _
  have V:=hZ A;have FD:=ah9 x hx hI ⟨hI.ents,a5,(O.out.below A).tabs⟩ (O.out.below A).errs a6.len;have a4:=ai1 (R:=ab d.r) (l:=l) (x:=x) pb pl pf pn;have af:=a.size;have ag:=A.size;unfold ixV;clear z h1 h2 h3 a hI M A g0 g1 g2 g3 O g S a5 a6;generalize m5 (ab d.r) l x=P at *;obtain⟨c,y⟩:=P;go_upto_region 4 with fail
  rw[<- a3.out];go_wp2_with fail;refine FD.mono ?_;rintro e w3 ⟨rfl,b3⟩;have aq:=b3.size;have K:Below W0.heap.size W0 w3:=V.out.trans (b3.mono V.out.size);have a7:=hZ K;obtain⟨w4,E⟩:∃ w4,w4=w3.alloc (.cells #[.string y.key,.string y.text,.string y.val] 37):=⟨_,rfl⟩
  have ae:Hid (w4=w3.alloc (.cells #[.string y.key,.string y.text,.string y.val] 37)):=E;have L:Below W0.heap.size W0 w4:=by rw[E];exact K.alloc K.size _
  have J:Hid (w4.heap[w3.heap.size]? = some (.cells #[.string y.key,.string y.text,.string y.val] 37)):=by show _=_;rw[E];exact heap_alloc_new w3 _
  have i:=(L.block (w.heap.size+1) (by omega)).trans I.out;have aa:Hid (w4.heap[w.heap.size+1]? = some (.cells #[.string ⟨#[]⟩,.string ⟨#[]⟩,.string ⟨#[]⟩] 37)):=i;have q0:=cell_of_row _ _ 0 _ _ _ i;have q1:=cell_of_row _ _ 1 _ _ _ i;have q2:=cell_of_row _ _ 2 _ _ _ i;have qf:=fun j=>frozen_of_row _ _ j _ _ i
  have y0:=cell_of_row _ _ 0 _ _ _ J.out;have y1:=cell_of_row _ _ 1 _ _ _ J.out;have y2:=cell_of_row _ _ 2 _ _ _ J.out;have au:w4.heap.size=w3.heap.size+1:=by rw[E];simp
  have a0:=hZ (s.out.trans (L.mono s.out.size));have F:Hid (∀ u,Below w4.heap.size w4 u->Calls prog 31 #[fdE pl pn c] u fun e w'=>e=.returned (.int .i64 c)/\Below u.heap.size u w'):=fun u hu=>xh ((Q.out.below L).below hu) a4
  have an:¬ w.heap.size+1=w3.heap.size:=by omega
  have ao:¬ w3.heap.size=w.heap.size+1:=by omega
  unfold rv7;obtain⟨f,a1⟩:∃ f,Hid (fdE pl pn c=f):=⟨_,rfl⟩
  rw[a1.out]at F;rw[a1.out];clear FD b3 K L a4 Q V a3 t E i I;go_upto_region 5 with fail
  rw[<- ae.out];go_region_with (go_at_call 31;refine (F.out _ (by repeat (first|exact bX|refine Below.drew ?_))).mono ?_;rintro e w5 ⟨rfl,m⟩;have H:Below w4.heap.size w4 w5:=⟨m.os,m.tape,m.output,m.size,m.block⟩;have D:=(H.block (w.heap.size+1) (by omega)).trans aa.out;have N:=(H.block w3.heap.size (by omega)).trans J.out;have a9:=hZ (a0.out.trans (H.mono a0.out.size));have q0:=cell_of_row _ _ 0 _ _ _ D;have q1:=cell_of_row _ _ 1 _ _ _ D;have q2:=cell_of_row _ _ 2 _ _ _ D;have qf:=fun j=>frozen_of_row _ _ j _ _ D;have y0:=cell_of_row _ _ 0 _ _ _ N;have y1:=cell_of_row _ _ 1 _ _ _ N;have y2:=cell_of_row _ _ 2 _ _ _ N;have av:=H.size;clear m H D N)
  all_goals
   go_simp;go_wp2_with fail;refine bodyPost_ret (v:=.tuple #[.agg #[.string y.key,.string y.text,.string y.val],.int .i64 c]) ?_ rfl ?_
   .rw[results_cell_tmp rfl]
    go_simp
   .show _/\_
    rw[X.out];refine⟨rfl,?_⟩;repeat (first|with_reducible exact a9.out|with_reducible refine Below.drew ?_|with_reducible refine Below.setCell ?_ (by show w.heap.size<=w.heap.size+1;omega) _)
theorem a70 (l:List Rw) (x:Rw):x ∈ io l x:=by
 unfold io;simp
theorem aw8 {R:RA} {l:List Rw} {t:ByteArray} {y:Rw}(a:jr l) (d:fe R t=true) (e:bj R t=y.key) (c:y ∈ l):m5 R l t=(0,y):=by
 have b:bq l y.key=true:=by
  cases h:bq l y.key
  .exact absurd rfl (Ma a h y c)
  .rfl
 unfold m5;rw[if_pos d,e,if_pos b,<- (nd a b).1,a99 a c]
theorem ai3 {R:RA} {l:List Rw} {t:ByteArray}(c:fe R t=true) (hn:∀ y ∈ l,y.key≠bj R t):m5 R l t=(4,zR7):=by
 have d:bq l (bj R t)=false:=by
  cases h:bq l (bj R t)
  .rfl
  .have b:an l (bj R t)<l.length:=by
    have a:=h;unfold bq at a;rw[Bool.and_eq_true]at a;exact of_decide_eq_true a.1
   refine absurd (Qu h) (hn _ ?_);unfold cg;rw[List.getElem?_eq_getElem b];exact List.getElem_mem b
 unfold m5;rw[if_pos c,d];rfl
theorem aw7 {R:RA} {l:List Rw} {o:Dn} {t:ByteArray}(d:ik R l) (a:apC R l o=0) (e:o.put=true) (b:fe R t=true) (c:bj R t=bj R o.text):m5 R (apR R l o) t=(0,Cr R o):=by
 have f:=d.step a;refine aw8 f.rise b c ?_;unfold apR;rw[if_pos e];exact a70 _ _
theorem ai2 {R:RA} {l:List Rw} {o:Dn} {t:ByteArray}(f:ik R l) (c:apC R l o=0) (a:o.put=false) (d:fe R t=true) (e:bj R t=bj R o.text):m5 R (apR R l o) t=(4,zR7):=by
 obtain⟨_,_,_,b⟩:=qt c;have g:=b a;refine ai3 d fun y hy=>?_
 unfold apR at hy;rw[if_neg (by rw[a];decide),<- Oa f.rise g,List.mem_filter]at hy;rw[e];exact of_decide_eq_true hy.2
theorem ay7 {R:RA} {x t:ByteArray}(a:ay R.es R.lv=true) (c:x.size<=200) (ht:t=Af (nD (Dec.decT x.size x).1)) (g:t.size<=200):bj R t=bj R x:=by
 have b:∀ y ∈ nD (Dec.decT x.size x).1,bg y=true:=Hu x
 have e:(nD (Dec.decT x.size x).1).length<=200:=Nat.le_trans (Hv x) c;obtain⟨_,d⟩:=Fe e b;rw[d]at ht;have hd:=bb9 _ b t ht;have f:rn4 t=rn4 x:=by
  unfold rn4;rw[hd];exact bc8 _
 unfold bj Aj;rw[wh a c,wh a g,f]
theorem b66 {x:ByteArray}(d:x.size<=200):okD (Dec.decT x.size x).1=true/\Df (Dec.decT x.size x).1=nD (Dec.decT x.size x).1/\C6 (nD (Dec.decT x.size x).1)=true/\(Dec.decT x.size x).1.length<=200/\(nD (Dec.decT x.size x).1).length<=200:=by
 have e:∀ y ∈ nD (Dec.decT x.size x).1,bg y=true:=Hu x
 have c:(nD (Dec.decT x.size x).1).length<=200:=Nat.le_trans (Hv x) d;have a:(Dec.decT x.size x).1.length<=200:=Nat.le_trans (Dec.decT_len x.size x bR).1 d;have b:okD (Dec.decT x.size x).1=true:=Uk (decide_eq_true ⟨a,C4 x.size x⟩) (by omega);exact⟨b,by unfold Df;rw[if_pos b],(Fe c e).1,a,c⟩
theorem Hd {d:Ds7} {l:List Rw} {k:Int} {x v:ByteArray}(b:k=1\/k=2) (h:(doL d l k x v).1=0):apC (ab d.r) l (dn7 k x v)=0:=by
 unfold doL at h;rw[if_neg (by omega),if_neg (by omega)]at h;by_cases a:apC (ab d.r) l (dn7 k x v)=0
 .exact a
 .rw[if_neg a]at h
  exact absurd h a
structure ad7 (d:Ds7) (k:Int) (x v:ByteArray) (l L:List Rw):Prop where
 was:du d=some l
 now:dz (do7 d k x v).2=some L
 rows:ik (ab d.r) L
 same:¬ ((do7 d k x v).1=0/\(k=1\/k=2))->L=l
 short:(do7 d k x v).1=0->(k=1\/k=2)->x.size<=60
 put:(do7 d k x v).1=0->k=1->∀ t,t.size<=60->bj (ab d.r) t=bj (ab d.r) x->wt (do7 d k x v).2 t=(0,⟨bj (ab d.r) x,x,v⟩)
 drop:(do7 d k x v).1=0->k=2->∀ t,t.size<=60->bj (ab d.r) t=bj (ab d.r) x->wt (do7 d k x v).2 t=(4,zR7)
theorem av9 {d:Ds7} {k:Int} {x v:ByteArray}(h:(do7 d k x v).1=1):(do7 d k x v).2=zD7:=by
 unfold do7 at h ⊢
 cases ho:du d with
 | none=>rfl
 | some l =>
  rw[ho]at h;have a:(if (ki d && dq k x v)=true then doL d l k x v else (1,zD7)).1=1:=h;show (if (ki d && dq k x v)=true then doL d l k x v else (1,zD7)).2=zD7
  split at a
  .exact absurd a (Hc d l k x v).1
  .rename_i hc
   rw[if_neg hc]
theorem a90 {d:Ds7} {k:Int} {x v:ByteArray}(i:Ok7 d) (h1:(do7 d k x v).1≠1):∃ l L,ad7 d k x v l L:=by
 cases ho:du d with
 | none=>rw[yk ho]at h1;exact absurd rfl h1
 | some l =>
  by_cases m:(ki d && dq k x v)=true
  .rw[Bool.and_eq_true]at m
   obtain⟨s,o⟩:=m;have hd:=C5 ho s o;obtain⟨q1,q2⟩:=ag4 i ho s o;have p:=m6 i ho;have j:(doL d l k x v).2.r=d.r:=(Hc d l k x v).2;have w:=o;have u:ik (ab d.r) (pz (ab d.r) l (doL d l k x v).1 k x v):=by
    have:=m6 (a02 i p k x v) q1;rw[j]at this;exact this
   have h:dz (do7 d k x v).2=some (pz (ab d.r) l (doL d l k x v).1 k x v):=by
    rw[hd];unfold dz;rw[if_pos q2,q1]
   refine⟨l,pz (ab d.r) l (doL d l k x v).1 k x v,ho,h,u,?_,?_,?_,?_⟩
   .intro hn
    rw[hd]at hn;unfold pz;rw[if_neg hn]
   .intro c a
    rw[hd]at c;exact (lu (qt (Hd a c)).1).1
   .intro c a t q e
    have b:=c;rw[hd]at b;have f:=Hd (.inl a) b;unfold wt;rw[h];show m5 (ab (do7 d k x v).2.r) _ t=_
    rw[hd,j];unfold pz;rw[if_pos ⟨b,.inl a⟩];have n:=lu (qt f).1;have g:fe (ab d.r) t=true:=by
     unfold fe;rw[e,decide_eq_true q,decide_eq_true (show (bj (ab d.r) x).size<=200 from n.2)];rfl
    exact aw7 p f (decide_eq_true a) g e
   .intro c a t q e
    have b:=c;rw[hd]at b;have f:=Hd (.inr a) b;unfold wt;rw[h];show m5 (ab (do7 d k x v).2.r) _ t=_
    rw[hd,j];unfold pz;rw[if_pos ⟨b,.inr a⟩];have n:=lu (qt f).1;have g:fe (ab d.r) t=true:=by
     unfold fe;rw[e,decide_eq_true q,decide_eq_true (show (bj (ab d.r) x).size<=200 from n.2)];rfl
    exact ai2 p f (decide_eq_false (by omega)) g e
  .rw[pt ho m]at h1
   exact absurd rfl h1
end Go.Proofs.YtjbmgghehdemdaaGreatDoor
