/- SCr7 -/
import Derived.Test.YtjbmgghehdemdaaGreatDoorMS36
import Derived.Test.YtjbmgghehdemdaaGreatDoorMS35
import Derived.Test.YtjbmgghehdemdaaGreatDoorMS37
import Derived.Test.YtjbmgghehdemdaaGreatDoorMS38
namespace Go.Proofs.YtjbmgghehdemdaaGreatDoor
set_option maxRecDepth 100000
set_option maxHeartbeats 16000000
open _root_.Go.Proofs.Tryz
open Go.RowKit
structure Hc7 (w u:World) (d:Ds7) (vp:Value):Prop where
 disk:an u w.heap.size d.r vp d.log d.syn
 ans:an u (w.heap.size+1) ⟨#[]⟩ (.slice none 0 0) ⟨#[]⟩ 0
 pages:ah u w.heap.size vp d.ss
 bel:Below w.heap.size w u
theorem Hc7.below {w u u':World} {d:Ds7} {b:Value}(h:Hc7 w u d b) (a:Below u.heap.size u u'):Hc7 w u' d b :=
 ⟨h.disk.below a,h.ans.below a,h.pages.below a,h.bel.trans (a.mono h.bel.size)⟩
def Dz (w u:World) (d:Ds7) (vp:Value) (log:ByteArray) (syn:Int):World:=s4D ((u.setCell ⟨w.heap.size,2,none⟩ (.string log)).setCell ⟨w.heap.size,3,none⟩ (.int .i64 syn)) (w.heap.size+1) (.string d.r) vp (.string log) (.int .i64 syn)
theorem Je {w u:World} {d:Ds7} {a:Value}(h:Hc7 w u d a) (log:ByteArray) (syn:Int):ah (Dz w u d a log syn) w.heap.size a d.ss/\Below w.heap.size w (Dz w u d a log syn):=by
 have g:=(d8 u w.heap.size 2 (.string log)).trans (d8 _ w.heap.size 3 (.int .i64 syn));have e:=h.pages.box h.disk (by decide) g;have b:=dn g (by omega) h.ans;have c:Below w.heap.size w ((u.setCell ⟨w.heap.size,2,none⟩ (.string log)).setCell ⟨w.heap.size,3,none⟩ (.int .i64 syn)):=Below.grown h.bel g h.bel.size (fun j hj=>by have:=Option.some.inj hj;omega);exact Az b c e d.r log syn
def bb2 (w:World) (d:Ds7) (vp:Value) (L:List Rw) (s t:ByteArray) (i:Value) (wr:World):Prop :=
 ∃ (k:Nat) (l:List Rw),k<=s.size/\i=.int .i64 (k:Int)/\jd (ab d.r) l (s.extract k s.size++t)=some L/\cm s=k+cm (s.extract k s.size)/\Hc7 w wr d vp
theorem aw4 {w:World} {B:Nat} {vd:Value} {d:Ds7}(keep:Int) (b3:-1048576<=keep) (b4:keep<=1048576) (Z:Dk7 w B vd d) :
  Calls prog 19 #[.agg #[.string d.r,vd,.string d.log,.int .i64 d.syn],.int .i64 keep] w fun e w'=>CrQ w (kb d keep) e w':=by
 obtain⟨F,H,aW⟩:=Z.form;subst aW;obtain⟨af,bc,ag,aA⟩:=Mp w d (.slice F d.ss.length H);have E:=wk (Z.below af);have a6:Hid (∀ u,Below w.heap.size w u->Calls prog 35 #[.agg #[.string d.r,(.slice F d.ss.length H),.string d.log,.int .i64 d.syn]] u fun e w'=>∃ vp,e=.returned (.agg #[.string d.r,vp,.string d.log,.int .i64 d.syn])/\ah w' u.heap.size vp d.ss/\Below u.heap.size u w'):=fun u hu=>Cw (Z.below hu)
 have P:Hid ((w.alloc (.cells #[.string d.r,(.slice F d.ss.length H),.string d.log,.int .i64 d.syn] 25)).alloc (.cells #[.string ⟨#[]⟩,.slice none 0 0,.string ⟨#[]⟩,.int .i64 0] 25)=W07 w d (.slice F d.ss.length H)):=rfl;have b7:=Z.ok.log;generalize W07 w d (.slice F d.ss.length H)=W0 at *;have z:=hZ af;have ay:=hZ ag;have a4:=hZ aA;obtain⟨N,R,S,T,U,V⟩:=ag.facts;clear Z af ag aA
 cases ho:ch d with
 | none =>
  have y:Hid (kb d keep=none):=xo (.inl ho);rw[ho]at E;have A:Calls prog 33 #[.agg #[.string d.r,(.slice F d.ss.length H),.string d.log,.int .i64 d.syn]] W0 fun e w'=>e=.returned (.bool false)/\Below W0.heap.size W0 w':=E
  clear E ho a6;go_enter func19,ntmps19;go_upto_region 1 with fail
  rw[P.out];clear P;go_wp2_with fail;refine A.mono ?_;rintro e w1 ⟨rfl,c⟩;have C:=a4.out.below c;have j:=z.out.trans (c.mono z.out.size);obtain⟨a2,aq,ar,au,av,aw⟩:=C.facts;obtain⟨x,f⟩:=Az C j (dz _ _) ⟨#[]⟩ ⟨#[]⟩ 0;have b:=hZ f;unfold s4D at b;clear x f A c C j;go_wp2;refine bodyPost_ret (v:=.tuple #[.agg #[.string ⟨#[]⟩,.slice none 0 0,.string ⟨#[]⟩,.int .i64 0],.bool false]) ?_ rfl ?_
  .rw[results_cell_tmp rfl]
   go_simp
  .exact Ca y.out b.out
 | some L =>
  rw[ho]at E;have A:Calls prog 33 #[.agg #[.string d.r,(.slice F d.ss.length H),.string d.log,.int .i64 d.syn]] W0 fun e w'=>e=.returned (.bool true)/\Below W0.heap.size W0 w':=E
  by_cases aQ:keep<0
  .have y:Hid (kb d keep=none):=xo (.inr aQ)
   clear E ho a6;go_enter func19,ntmps19;go_upto_region 1 with fail
   rw[P.out];clear P;go_wp2_with fail;refine A.mono ?_;rintro e w1 ⟨rfl,c⟩;have C:=a4.out.below c;have j:=z.out.trans (c.mono z.out.size);obtain⟨a2,aq,ar,au,av,aw⟩:=C.facts;obtain⟨x,f⟩:=Az C j (dz _ _) ⟨#[]⟩ ⟨#[]⟩ 0;have b:=hZ f;unfold s4D at b;clear x f A c C j;go_wp2;refine bodyPost_ret (v:=.tuple #[.agg #[.string ⟨#[]⟩,.slice none 0 0,.string ⟨#[]⟩,.int .i64 0],.bool false]) ?_ rfl ?_
   .rw[results_cell_tmp rfl]
    go_simp
   .exact Ca y.out b.out
  .have aC:=J7 ho (show 0<=keep by omega)
   obtain⟨am,aE⟩:=kz ho;obtain⟨gs,_,_,_,_,a3⟩:=uu aE;have aS:=Fp (keep:=keep) am;have bd:0<=d.syn/\d.syn<=(d.log.size:Int):=of_decide_eq_true am;obtain⟨lf,aj⟩:∃ lf,lf=ow d keep:=⟨_,rfl⟩
   obtain⟨s,W⟩:∃ s,s=d.log.extract 0 lf:=⟨_,rfl⟩
   have aG:s.size=lf:=by rw[W];exact rz (by omega)
   have y:Hid (kb d keep=some ⟨d.r,d.ss,s.extract 0 (cm s),(cm s:Int)⟩):=by
    show _=_
    rw[aC];unfold Am Du qh;rw[<- aj,<- W];have hw:=rk s;have e:s.extract 0 (cm s)=d.log.extract 0 (cm s):=by
     obtain⟨m,hm⟩:∃ m,m=cm s:=⟨_,rfl⟩
     rw[<- hm]at hw ⊢;rw[W];exact Om _ (by omega) (by omega)
    rw[e]
   have a0:jd (ab d.r) gs.flatten (s.extract 0 s.size++d.log.extract lf d.log.size)=some L:=by rw[Ch,W,Dy _ (by omega)];exact a3
   obtain⟨t,ht⟩:∃ t,t=d.log.extract lf d.log.size:=⟨_,rfl⟩
   rw[<- ht]at a0;have a1:Hid (jd (ab d.r) gs.flatten (s.extract 0 s.size++t)=some L):=a0;have ak:(lf:Int)=d.syn+min keep ((d.log.size:Int)-d.syn):=by rw[aj];unfold ow;omega
   have aT:lf<=d.log.size:=by omega
   have HS:=hZ W.symm;have bh:∀ u:World,(Instr.slice 9 (.string d.log) none (some (.int .i64 (lf:Int))) none).run prog u=.ok (.string s) u:=fun u=>by
    rw[run_slice_string_h (ht:=underlying9) (h0:=by omega) (h2:=by omega),Int.toNat_natCast,HS.out]
   have a7:Hid (∀ (k:Nat) (u:World),k<s.size->Calls prog 48 #[.string (s.extract k s.size)] u fun e w'=>e=.returned (Yj (jh (s.extract k s.size)))/\Below u.heap.size u w'):=fun k u hk=>Qw _ u (by rw[gg];omega) (by rw[gg];omega)
   have aZ:Hid (s.size=lf):=aG;have be:s.size<=1000000:=by omega
   clear E ho aC am aE a3 a0 ht aS aj W aG;go_enter func19,ntmps19;go_upto_region 1 with fail
   rw[P.out];clear P;go_wp2_with fail;refine A.mono ?_;rintro e w1 ⟨rfl,c⟩;have j:=z.out.trans (c.mono z.out.size);have a5:=hZ j;have ac:=hZ (ay.out.below c);have ax:=hZ (a4.out.below c);have OW:=a6.out w1 j;obtain⟨N,R,S,T,U,V⟩:=ac.out.facts;clear A c j a6 z ay a4;go_wp2_with fail;refine OW.mono ?_;rintro e w2 ⟨vp,rfl,s2,b2⟩;obtain⟨g,h,aX⟩:=eu s2;subst aX;have a8:=ac.out.below b2;have g2:=ku w2 w.heap.size (.string d.r) (.slice g d.ss.length h) (.string d.log) (.int .i64 d.syn);have aF:ah w2 w.heap.size (.slice g d.ss.length h) d.ss:=ji s2 a5.out.size
   have J:Hid (Hc7 w (s4D w2 w.heap.size (.string d.r) (.slice g d.ss.length h) (.string d.log) (.int .i64 d.syn)) d (.slice g d.ss.length h)):=⟨Fo a8 _ _ _ _,dn g2 (by omega) (ax.out.below b2),aF.box a8 (by decide) g2,je (a5.out.trans (b2.mono a5.out.size)) bR _ _ _ _⟩;obtain⟨N,R,S,T,U,V⟩:=a8.facts;obtain⟨w3,an⟩:∃ w3,w3=s4D w2 w.heap.size (.string d.r) (.slice g d.ss.length h) (.string d.log) (.int .i64 d.syn):=⟨_,rfl⟩
   have ae:Hid (w3=s4D w2 w.heap.size (.string d.r) (.slice g d.ss.length h) (.string d.log) (.int .i64 d.syn)):=an;rw[<- an]at J;unfold s4D at ae;clear OW s2 b2 a8 g2 aF an a5 ac ax;go_upto_region 4 with fail
   rw[<- ae.out];clear ae;obtain⟨N,R,S,T,U,V⟩:=J.out.disk.facts;have bf:IntKind.i64.wrap ((d.log.size:Int)-d.syn)=(d.log.size:Int)-d.syn:=by rw[IntKind.wrap_i64];omega
   by_cases b0:(d.log.size:Int)-d.syn<keep
   case' pos=>have aY:IntKind.i64.wrap (d.syn+((d.log.size:Int)-d.syn))=(lf:Int):=by rw[IntKind.wrap_i64];omega
   case' neg=>have aY:IntKind.i64.wrap (d.syn+keep)=(lf:Int):=by rw[IntKind.wrap_i64];omega
   all_goals
    clear ak;go_wp2_with fail;go_loopw [7] (fun i wr=>bb2 w d (.slice g d.ss.length h) L s t i wr) (fun i _=>s.size-(intOf i).toNat)
    case atStart=>exact⟨0,gs.flatten,Nat.zero_le _,rfl,a1.out,by rw[Ch];omega,J.out⟩
    case round =>
     obtain⟨k,l,hk,rfl,hr,O,a⟩:=hrel;by_cases aR:k<s.size
     .have b6:(k:Int)<(s.size:Int):=by omega
      have Q:=a7.out k wr aR;have sl:∀ u:World,(Instr.slice 9 (.string s) (some (.int .i64 (k:Int))) none none).run prog u=.ok (.string (s.extract k s.size)) u:=fun u=>by
       rw[run_slice_string_l (ht:=underlying9) (h0:=by omega) (h1:=by omega),Int.toNat_natCast]
      cases hrn:bm (s.extract k s.size) with
      | none =>
       rw[ma hrn]at Q;have X:cm s=k:=by rw[O,y8 hrn];omega
       rw[X]at y;have M:Calls prog 48 #[.string (s.extract k s.size)] wr fun e w'=>e=.returned (.tuple #[.agg #[.int .i64 0,.string ⟨#[]⟩,.string ⟨#[]⟩],.int .i64 0])/\Below wr.heap.size wr w':=Q
       have Y:=hZ a;clear Q X hrn O hr a a1 a7 J R S T U V N;obtain⟨rs,al⟩:∃ rs,rs=s.extract k s.size:=⟨_,rfl⟩
       rw[<- al]at M;rw[<- al]at sl;clear al;go_wp2_with fail;refine M.mono ?_;rintro e w5 ⟨rfl,G⟩;have a:Hc7 w (w5.alloc (.cells #[.int .i64 0,.string ⟨#[]⟩,.string ⟨#[]⟩] 27)) d (.slice g d.ss.length h):=Y.out.below (G.alloc G.size _);obtain⟨w6,ao⟩:∃ w6,w6=w5.alloc (.cells #[.int .i64 0,.string ⟨#[]⟩,.string ⟨#[]⟩] 27):=⟨_,rfl⟩
       rw[<- ao]at a;have az:=hZ ao.symm;clear M G Y sl ao;go_upto_region 10 with fail
       rw[az.out];clear az;obtain⟨x,f⟩:=Je a (s.extract 0 k) (k:Int);have K:=hZ x;have b:=hZ f;unfold Dz s4D at K b;obtain⟨a2,aq,ar,au,av,aw⟩:=a.ans.facts;obtain⟨ai,aL,aM,aN,aO,aP⟩:=a.disk.facts;have aU:¬ w.heap.size=w.heap.size+1:=by omega
       have aV:¬ w.heap.size+1=w.heap.size:=by omega
       have aH:∀ u:World,(Instr.slice 9 (.string s) none (some (.int .i64 (k:Int))) none).run prog u=.ok (.string (s.extract 0 k)) u:=fun u=>by
        rw[run_slice_string_h (ht:=underlying9) (h0:=by omega) (h2:=by omega),Int.toNat_natCast]
       clear x f a;generalize s.extract 0 k=I at *;go_wp2;refine bodyPost_ret (v:=.tuple #[.agg #[.string d.r,.slice g d.ss.length h,.string I,.int .i64 (k:Int)],.bool true]) ?_ rfl ?_
       .rw[results_cell_tmp rfl]
        go_simp
       .exact Cb (D:=⟨d.r,d.ss,I,(k:Int)⟩) y.out K.out b.out
      | some p =>
       obtain⟨o,n⟩:=p;obtain⟨hc,a9⟩:=Mn hr hrn;obtain⟨f1,f2,_,_⟩:=Hi hc;rw[A5 hrn ⟨(qe f1).1,f2⟩]at Q;have aB:=n7 hrn;rw[gg]at aB;rw[A6]at a9;have aa:=y7 hrn;rw[A6]at aa;obtain⟨q,hq⟩:∃ q,q=k+n:=⟨_,rfl⟩
       rw[<- hq]at a9 aa;have aJ:Hid (jd (ab d.r) (apR (ab d.r) l o) (s.extract q s.size++t)=some L):=a9;have aK:Hid (cm s=q+cm (s.extract q s.size)):=by show _=_;rw[O,aa];omega
       have b8:¬ (n:Int)=0:=by omega
       have b9:((n:Int) == 0)=false:=by simp;omega
       have bg:IntKind.i64.wrap ((k:Int)+(n:Int))=(q:Int):=by rw[IntKind.wrap_i64];omega
       have bb:q<=s.size:=by omega
       have ba:k<q:=by omega
       have M:Calls prog 48 #[.string (s.extract k s.size)] wr fun e w'=>e=.returned (.tuple #[.agg #[.int .i64 (kn7 o),.string o.text,.string o.val],.int .i64 (n:Int)])/\Below wr.heap.size wr w':=Q
       have Y:=hZ a;clear Q hrn O aa hr a9 a a1 a7 J R S T U V N hc f1 f2 hq aB;generalize s.extract k s.size=rs at *;generalize kn7 o=kd at *;go_wp2_with fail;refine M.mono ?_;rintro e w5 ⟨rfl,G⟩;have aI:Hid (∀ ob,Hc7 w (w5.alloc ob) d (.slice g d.ss.length h)):=fun ob=>Y.out.below (G.alloc G.size ob)
       clear M G Y sl;go_wp2;exact⟨⟨q,_,by omega,by (first|rfl|go_num),aJ.out,aK.out,aI.out _⟩,by simp[intOf];omega⟩
     .obtain rfl:k=s.size:=by omega
      have X:cm s=s.size:=by rw[O,y8 (I9 (by rw[gg];omega))];omega
      rw[X]at y;obtain⟨w6,rfl⟩:∃ w6,w6=wr:=⟨_,rfl⟩
      clear X O hr a1 a7 J R S T U V N;obtain⟨x,f⟩:=Je a (s.extract 0 s.size) (s.size:Int);have K:=hZ x;have b:=hZ f;unfold Dz s4D at K b;obtain⟨a2,aq,ar,au,av,aw⟩:=a.ans.facts;obtain⟨ai,aL,aM,aN,aO,aP⟩:=a.disk.facts;have aU:¬ w.heap.size=w.heap.size+1:=by omega
      have aV:¬ w.heap.size+1=w.heap.size:=by omega
      have aH:∀ u:World,(Instr.slice 9 (.string s) none (some (.int .i64 (s.size:Int))) none).run prog u=.ok (.string (s.extract 0 s.size)) u:=fun u=>by
       rw[run_slice_string_h (ht:=underlying9) (h0:=by omega) (h2:=by omega),Int.toNat_natCast]
      clear x f a;obtain⟨I,aD⟩:∃ I,I=s.extract 0 s.size:=⟨_,rfl⟩
      rw[<- aD]at aH K b y;clear aD;go_wp2;refine bodyPost_ret (v:=.tuple #[.agg #[.string d.r,.slice g d.ss.length h,.string I,.int .i64 (s.size:Int)],.bool true]) ?_ rfl ?_
      .rw[results_cell_tmp rfl]
       go_simp
      .exact Cb (D:=⟨d.r,d.ss,I,(s.size:Int)⟩) y.out K.out b.out
theorem Fk (a b:List Int):byT (a++b)=byT a++byT b:=by
 unfold byT;apply ByteArray.ext
 simp
theorem ao8 {x v:ByteArray}:js ⟨true,x,v⟩=byT ([112,(x.size:Int),(v.size:Int)]++bI (x++v)++[46]):=by
 rw[Fk,Fk,O5];show ⟨#[112]⟩++⟨#[UInt8.ofNat x.size,UInt8.ofNat v.size]⟩++x++v++⟨#[46]⟩=_
 rw[show byT [112,(x.size:Int),(v.size:Int)]=⟨#[112]⟩++⟨#[UInt8.ofNat x.size,UInt8.ofNat v.size]⟩ from rfl,show byT [46]=⟨#[46]⟩ from rfl];simp only[ByteArray.append_assoc]
theorem aa5 {x:ByteArray}:js ⟨false,x,⟨#[]⟩⟩=byT ([100,(x.size:Int)]++bI (x++⟨#[]⟩)++[46]):=by
 rw[Fk,Fk,O5];show ⟨#[100]⟩++⟨#[UInt8.ofNat x.size]⟩++x++⟨#[46]⟩=_
 rw[show byT [100,(x.size:Int)]=⟨#[100]⟩++⟨#[UInt8.ofNat x.size]⟩ from rfl,show byT [46]=⟨#[46]⟩ from rfl];have h:x++⟨#[]⟩=x:=by apply ByteArray.ext;simp
 rw[h]
theorem ak8:(prog.info? 5).map (fun i=>(i.zero,i.size,i.bytes))=some (some (.int .u8 0),1,1):=by kernel_rfl
theorem Qg (w:World) (o:Dn) (hx:o.text.size<=60) (hv:o.val.size<=60) (hd:o.put=false->o.val=⟨#[]⟩) :
  Calls prog 112 #[.agg #[.int .i64 (kn7 o),.string o.text,.string o.val]] w fun e w'=>e=.returned (.string (js o))/\Below w.heap.size w w':=by
 obtain⟨A,hi0,y,s,t⟩:=info_parts ak8;obtain⟨p,x,v⟩:=o;have a6:x.size<=60:=hx;have a5:v.size<=60:=hv;have w1:IntKind.u8.wrap (x.size:Int)=(x.size:Int):=by rw[IntKind.wrap_u8];omega
 have w2:IntKind.u8.wrap (v.size:Int)=(v.size:Int):=by rw[IntKind.wrap_u8];omega
 clear hx hv
 cases p
 .obtain rfl:v=⟨#[]⟩:=hd rfl
  show Calls prog 112 #[.agg #[.int .i64 2,.string x,.string ⟨#[]⟩]] w fun e w'=>_
  rw[aa5];have J:Below w.heap.size w ((w.alloc (.cells #[.int .i64 2,.string x,.string ⟨#[]⟩] 27)).alloc (.cells #[.int .u8 100,.int .u8 (x.size:Int)] 5)):=(bY _).alloc (by simp) _;have h:=hZ J;have M:((w.alloc (.cells #[.int .i64 2,.string x,.string ⟨#[]⟩] 27)).alloc (.cells #[.int .u8 100,.int .u8 (x.size:Int)] 5)).heap[w.heap.size+1]? = some (.cells #[.int .u8 100,.int .u8 (x.size:Int)] 5):=by
   have q:=heap_alloc_new (w.alloc (.cells #[.int .i64 2,.string x,.string ⟨#[]⟩] 27)) (.cells #[.int .u8 100,.int .u8 (x.size:Int)] 5);rw[World.size_alloc]at q;exact q
  have i:Hid (fo ((w.alloc (.cells #[.int .i64 2,.string x,.string ⟨#[]⟩] 27)).alloc (.cells #[.int .u8 100,.int .u8 (x.size:Int)] 5)) w.heap.size 2 x ⟨#[]⟩):=by
   show _=_
   rw[Below.heap_alloc _ _ _ (by simp)];exact heap_alloc_new w _
  have C:Hid (∀ j u,[.int .u8 100,.int .u8 (x.size:Int)][j]? = some u->((w.alloc (.cells #[.int .i64 2,.string x,.string ⟨#[]⟩] 27)).alloc (.cells #[.int .u8 100,.int .u8 (x.size:Int)] 5)).cell? ((⟨w.heap.size+1,0,none⟩:Addr).add j)=some u):=fun j u hj=>by
   have T:j<2:=by have:=(List.getElem?_eq_some_iff.1 hj).1;simpa using this
   rcases (show j=0\/j=1 by omega) with rfl|rfl <;> (simp at hj;subst hj;exact cell_of_row _ _ _ _ _ _ M)
  clear J M;go_enter func112,ntmps112;go_wp2_with (at_builtin;refine wpList_append_own _ rfl _ _ 22 rfl w.heap.size 5 A (.int .u8 0) 1 1 underlying22 hi0 y s t rfl (by decide) (.slice none 0 0) 0 [] rfl (World.ownsRow_nil _ _ _ _) ⟨w.heap.size+1,0,none⟩ 2 2 [.int .u8 100,.int .u8 (x.size:Int)] rfl rfl C.out (fun z hz=>by simp at hz;rcases hz with rfl|rfl <;> rfl) (by unfold maxLen;omega) (by omega) (by simp;omega) ?_)
  intro v3 w3 N m _;have b:By6 w3 w.heap.size v3 ([]++[100,(x.size:Int)]):=By6.app (bs:=[]) (xs:=[100,(x.size:Int)]) rfl N;obtain⟨a,f⟩:∃ a,a=[]++[100,(x.size:Int)]:=⟨_,rfl⟩
  have U:a.length=2:=by rw[f];rfl
  rw[<- f]at b;have F:fo w3 w.heap.size 2 x ⟨#[]⟩:=(m.block w.heap.size i.out.facts.1 (by simp[Value.ownBlock])).trans i.out;have k:Below w.heap.size w w3:=Below.grown h.out m h.out.size (fun j hj=>by cases hj);have Q:Hid (a=[100,(x.size:Int)]):=f;have D:=hZ k;obtain⟨V,W,X,Y⟩:=F.facts;have a0:=k.size;obtain⟨r,G⟩:∃ r,r=x++⟨#[]⟩:=⟨_,rfl⟩
  have a3:Hid (r=x++⟨#[]⟩):=G;have a2:(x++⟨#[]⟩).size<=120:=by rw[ByteArray.size_append];show x.size+0<=120;omega
  unfold By6 at b;clear k f G m N i h C F;go_wp2_with (at_builtin;refine Lib.wpList_append_own_string _ rfl _ _ 22 9 rfl w.heap.size 5 A underlying22 underlying9 hi0 y s t _ _ _ rfl b (x++⟨#[]⟩) rfl (by unfold maxLen;omega) (by omega) (by omega) ?_)
  intro v4 w4 O K _;have l:Below w.heap.size w w4:=kw D.out b K (by omega);have c:By6 w4 w.heap.size v4 (a++bI (x++⟨#[]⟩)):=By6.str (n:=(x++⟨#[]⟩).size) rfl (by rw[U,ByteArray.size_append];exact O);clear O K b V W X Y D;obtain⟨d,g⟩:∃ d,d=a++bI (x++⟨#[]⟩):=⟨_,rfl⟩
  have a4:d.length<=200:=by rw[g];simp only[List.length_append,Bc];omega
  rw[<- g]at c;have R:Hid (d=a++bI (x++⟨#[]⟩)):=g;have E:=hZ l;have a1:=l.size;unfold By6 at c;clear g l;have B:Hid (∀ j u,[Value.int .u8 46][j]? = some u->(w4.alloc (.cells #[.int .u8 46] 5)).cell? ((⟨w4.heap.size,0,none⟩:Addr).add j)=some u):=fun j u hj=>by
   have T:j<1:=by have:=(List.getElem?_eq_some_iff.1 hj).1;simpa using this
   obtain rfl:j=0:=by omega
   simp at hj;subst hj;exact cell_of_row _ _ _ _ _ _ (heap_alloc_new w4 _)
  go_wp2_with (at_builtin;refine wpList_append_own _ rfl _ _ 22 rfl w.heap.size 5 A (.int .u8 0) 1 1 underlying22 hi0 y s t rfl (by decide) _ _ _ rfl (c.alloc _) ⟨w4.heap.size,0,none⟩ 1 1 [.int .u8 46] rfl rfl B.out (fun u hu=>by simp at hu;subst hu;rfl) (by unfold maxLen;omega) (by omega) (by simp;omega) ?_)
  intro v5 w5 P L _;have H:Below w.heap.size w w5:=kw (E.out.alloc E.out.size _) (c.alloc _) L (by simp;omega);have I:By6 w5 w.heap.size v5 (d++[46]):=By6.app (n:=1) rfl P;clear P L c B;have Z:=C9 I;rw[R.out,Q.out]at Z;have S:=hZ H;clear H I;go_wp2;go_ret;exact⟨rfl,S.out⟩
 .show Calls prog 112 #[.agg #[.int .i64 1,.string x,.string v]] w fun e w'=>_
  rw[ao8];have J:Below w.heap.size w ((w.alloc (.cells #[.int .i64 1,.string x,.string v] 27)).alloc (.cells #[.int .u8 112,.int .u8 (x.size:Int),.int .u8 (v.size:Int)] 5)):=(bY _).alloc (by simp) _;have h:=hZ J;have M:((w.alloc (.cells #[.int .i64 1,.string x,.string v] 27)).alloc (.cells #[.int .u8 112,.int .u8 (x.size:Int),.int .u8 (v.size:Int)] 5)).heap[w.heap.size+1]? = some (.cells #[.int .u8 112,.int .u8 (x.size:Int),.int .u8 (v.size:Int)] 5):=by
   have q:=heap_alloc_new (w.alloc (.cells #[.int .i64 1,.string x,.string v] 27)) (.cells #[.int .u8 112,.int .u8 (x.size:Int),.int .u8 (v.size:Int)] 5);rw[World.size_alloc]at q;exact q
  have i:Hid (fo ((w.alloc (.cells #[.int .i64 1,.string x,.string v] 27)).alloc (.cells #[.int .u8 112,.int .u8 (x.size:Int),.int .u8 (v.size:Int)] 5)) w.heap.size 1 x v):=by
   show _=_
   rw[Below.heap_alloc _ _ _ (by simp)];exact heap_alloc_new w _
  have C:Hid (∀ j u,[.int .u8 112,.int .u8 (x.size:Int),.int .u8 (v.size:Int)][j]? = some u->((w.alloc (.cells #[.int .i64 1,.string x,.string v] 27)).alloc (.cells #[.int .u8 112,.int .u8 (x.size:Int),.int .u8 (v.size:Int)] 5)).cell? ((⟨w.heap.size+1,0,none⟩:Addr).add j)=some u):=fun j u hj=>by
   have T:j<3:=by have:=(List.getElem?_eq_some_iff.1 hj).1;simpa using this
   rcases (show j=0\/j=1\/j=2 by omega) with rfl|rfl|rfl <;> (simp at hj;subst hj;exact cell_of_row _ _ _ _ _ _ M)
  clear J M;go_enter func112,ntmps112;go_wp2_with (at_builtin;refine wpList_append_own _ rfl _ _ 22 rfl w.heap.size 5 A (.int .u8 0) 1 1 underlying22 hi0 y s t rfl (by decide) (.slice none 0 0) 0 [] rfl (World.ownsRow_nil _ _ _ _) ⟨w.heap.size+1,0,none⟩ 3 3 [.int .u8 112,.int .u8 (x.size:Int),.int .u8 (v.size:Int)] rfl rfl C.out (fun z hz=>by simp at hz;rcases hz with rfl|rfl|rfl <;> rfl) (by unfold maxLen;omega) (by omega) (by simp;omega) ?_)
  intro v3 w3 N m _;have b:By6 w3 w.heap.size v3 ([]++[112,(x.size:Int),(v.size:Int)]):=By6.app (bs:=[]) (xs:=[112,(x.size:Int),(v.size:Int)]) rfl N;obtain⟨a,f⟩:∃ a,a=[]++[112,(x.size:Int),(v.size:Int)]:=⟨_,rfl⟩
  have U:a.length=3:=by rw[f];rfl
  rw[<- f]at b;have F:fo w3 w.heap.size 1 x v:=(m.block w.heap.size i.out.facts.1 (by simp[Value.ownBlock])).trans i.out;have k:Below w.heap.size w w3:=Below.grown h.out m h.out.size (fun j hj=>by cases hj);have Q:Hid (a=[112,(x.size:Int),(v.size:Int)]):=f;have D:=hZ k;obtain⟨V,W,X,Y⟩:=F.facts;have a0:=k.size;obtain⟨r,G⟩:∃ r,r=x++v:=⟨_,rfl⟩
  have a3:Hid (r=x++v):=G;have a2:(x++v).size<=120:=by rw[ByteArray.size_append];omega
  unfold By6 at b;clear k f G m N i h C F;go_wp2_with (at_builtin;refine Lib.wpList_append_own_string _ rfl _ _ 22 9 rfl w.heap.size 5 A underlying22 underlying9 hi0 y s t _ _ _ rfl b (x++v) rfl (by unfold maxLen;omega) (by omega) (by omega) ?_)
  intro v4 w4 O K _;have l:Below w.heap.size w w4:=kw D.out b K (by omega);have c:By6 w4 w.heap.size v4 (a++bI (x++v)):=By6.str (n:=(x++v).size) rfl (by rw[U,ByteArray.size_append];exact O);clear O K b V W X Y D;obtain⟨d,g⟩:∃ d,d=a++bI (x++v):=⟨_,rfl⟩
  have a4:d.length<=200:=by rw[g];simp only[List.length_append,Bc];omega
  rw[<- g]at c;have R:Hid (d=a++bI (x++v)):=g;have E:=hZ l;have a1:=l.size;unfold By6 at c;clear g l;have B:Hid (∀ j u,[Value.int .u8 46][j]? = some u->(w4.alloc (.cells #[.int .u8 46] 5)).cell? ((⟨w4.heap.size,0,none⟩:Addr).add j)=some u):=fun j u hj=>by
   have T:j<1:=by have:=(List.getElem?_eq_some_iff.1 hj).1;simpa using this
   obtain rfl:j=0:=by omega
   simp at hj;subst hj;exact cell_of_row _ _ _ _ _ _ (heap_alloc_new w4 _)
  go_wp2_with (at_builtin;refine wpList_append_own _ rfl _ _ 22 rfl w.heap.size 5 A (.int .u8 0) 1 1 underlying22 hi0 y s t rfl (by decide) _ _ _ rfl (c.alloc _) ⟨w4.heap.size,0,none⟩ 1 1 [.int .u8 46] rfl rfl B.out (fun u hu=>by simp at hu;subst hu;rfl) (by unfold maxLen;omega) (by omega) (by simp;omega) ?_)
  intro v5 w5 P L _;have H:Below w.heap.size w w5:=kw (E.out.alloc E.out.size _) (c.alloc _) L (by simp;omega);have I:By6 w5 w.heap.size v5 (d++[46]):=By6.app (n:=1) rfl P;clear P L c B;have Z:=C9 I;rw[R.out,Q.out]at Z;have S:=hZ H;clear H I;go_wp2;go_ret;exact⟨rfl,S.out⟩
theorem ay1 (w:World) (g i j k:Nat) (a b c:Value):w.grownBy (((w.setCell ⟨g,i,none⟩ a).setCell ⟨g,j,none⟩ b).setCell ⟨g,k,none⟩ c) (some g) :=
 ⟨rfl,rfl,rfl,by simp,fun q hq hn=>by
  have n:¬ q=g:=fun e=>hn (by rw[e])
  rw[heap_setCell_other _ ⟨g,k,none⟩ q _ n,heap_setCell_other _ ⟨g,j,none⟩ q _ n,heap_setCell_other _ ⟨g,i,none⟩ q _ n]⟩
theorem Ix7.grow {w w':World} {a b:Nat} {d:Value} {R:RA} {r:ByteArray} {m c:Value} {ss f:List ByteArray} {log e:ByteArray} {syn syn':Int} {vr vr':Value} {l l':List Rw}(h:Ix7 w a b d R r m ss log syn vr l) (g:w.grownBy w' (some b)) (k:jz w' b d R.sh R.lv r c e syn' vr') (i:ah w a c f) (j:Rws w a vr' l'):Ix7 w' a b d R r c f e syn' vr' l' :=
 ⟨k,h.ents.boxT h.box (by decide) (by decide) g,World.ownsRow.kept i g (ic i h.box (by decide)),World.ownsRow.kept j g (ic j h.box (by decide)),h.low⟩
theorem jz.disk {u:World} {b:Nat} {c:Value} {sh:Bool} {lv:Int} {r:ByteArray} {g:Value} {log:ByteArray} {syn:Int} {vr:Value}(h:jz u b c sh lv r g log syn vr) (a:Value):jz (((u.setCell ⟨b,4,none⟩ a).setCell ⟨b,5,none⟩ (.string ⟨#[]⟩)).setCell ⟨b,6,none⟩ (.int .i64 0)) b c sh lv r a ⟨#[]⟩ 0 vr:=by
 have d:=heap_setCell_same u b 4 _ _ a h;have e:=heap_setCell_same _ b 5 _ _ (.string ⟨#[]⟩) d;have f:=heap_setCell_same _ b 6 _ _ (.int .i64 0) e;show _=_
 rw[f];simp
theorem Ko {w:World} {i b:Nat} {n:Value} {R:RA} {r:ByteArray} {x:Value} {ss:List ByteArray} {log:ByteArray} {syn:Int} {vr:Value} {l:List Rw} {pb pl pf pn:Addr}(h:Ix7 w i b n R r x ss log syn vr l) (s:Ev7 w pb pl pf pn) (hl:l.length<=60) :
  Calls prog 74 #[.pointer (some ⟨b,0,none⟩)] w fun e w' =>
   Below i w w'/\((mc l=none/\e=.returned (.iface 298 (.pointer (some pf)))/\Ix7 w' i b n R r x ss log syn vr l)\/∃ ps vp',mc l=some ps/\e=.returned .nilIface/\Ix7 w' i b n R r vp' ps ⟨#[]⟩ 0 vr l):=by
 obtain⟨a,c,rfl,q,z,E⟩:∃ a c,vr=.slice a l.length c/\dc w a l/\l.length<=c/\c<=9223372036854775807:=by
  rcases h.rows.form with ⟨rfl,rfl⟩|⟨g,p,rfl,d,D⟩
  .exact⟨none,0,rfl,.inl rfl,bR,by omega⟩
  .exact⟨_,p,rfl,Rws.sl h.rows,d,by unfold maxLen at D;omega⟩
 have C:=Xa q z E (by omega);have A:=hZ h;obtain⟨G,I,J,K,L,M,N,O,P,Q⟩:=h.box.facts;have m:i<=b:=h.low;have B:=hZ s;clear h s q;go_enter func74,ntmps74;go_wp2_with fail;refine C.mono ?_;rintro e w1 ⟨v,rfl,f,d⟩;have k:=A.out.below d;have j:=hZ k;have F:=(B.out.below d).full;have o:=hZ d;obtain⟨H,S,T,U,V,W,X,Y,Z,cf⟩:=k.box.facts
 cases hp:mc l with
 | none =>
  rw[hp]at f;clear f d k;go_wp2;go_ret;exact⟨o.out.mono (by omega),.inl ⟨hp,rfl,j.out⟩⟩
 | some ps =>
  rw[hp]at f;obtain⟨t,u,vc,rfl⟩:∃ t u vc,v=.slice t u vc:=by
   rcases ah.form f with ⟨rfl,_⟩|⟨g,p,rfl,_,_⟩
   .exact⟨_,_,_,rfl⟩
   .exact⟨_,_,_,rfl⟩
  have y:=hZ f;clear f d k;go_wp2;go_ret;refine⟨?_,.inr ⟨ps,_,hp,rfl,j.out.grow (ay1 _ _ _ _ _ _ _ _) (j.out.box.disk _) (y.out.mono (by omega)) j.out.rows⟩⟩;exact ((o.out.mono (by omega)).setCell m _).setCell m _ |>.setCell m _
theorem af0 (n:Int) (t:Nat) (w:World) (h:wy w) (ht:w.heap[t]? = some (.cells #[.int .i64 0] 98)) :
  Calls prog 47 #[.iface 98 (.agg #[.int .i64 n]),.iface 100 (.pointer (some ⟨t,0,none⟩))] w fun ev w'=>ev=.returned (.bool true)/\w'.cell? ⟨t,0,none⟩=some (.int .i64 n)/\w.grownBy w' (some t):=by
 have c:=cell_of_row _ _ 0 _ _ _ ht;have f:=frozen_of_row _ _ 0 _ _ ht;have i:=(Array.getElem?_eq_some_iff.1 ht).1;refine (ae9 n t (.int .i64 0) w h c f).mono ?_;rintro e w' ⟨rfl,rfl⟩;refine⟨rfl,?_,?_⟩
 .obtain⟨a,b⟩:∃ a,a=(((w.alloc (.cells #[.pointer (some ⟨t,0,none⟩)] 100)).alloc (.cells #[.pointer (some ⟨12,100,none⟩),.pointer (some ⟨w.heap.size,0,none⟩),.int .u64 150] 154)).alloc (.cells #[.pointer (some ⟨12,100,none⟩),.pointer (some ⟨w.heap.size,0,none⟩),.int .u64 150] 154)).alloc (.cells #[.int .i64 n] 98):=⟨_,rfl⟩
  have g:a.heap[t]? = some (.cells #[.int .i64 0] 98):=by
   rw[b,Below.heap_alloc _ _ _ (by simp;omega),Below.heap_alloc _ _ _ (by simp;omega),Below.heap_alloc _ _ _ (by simp;omega),Below.heap_alloc _ _ _ i];exact ht
  rw[<- b];have d:=heap_setCell_same a t 0 _ _ (.int .i64 n) g;have:=cell_of_row _ _ 0 _ _ _ d;simpa using this
 .exact ((((World.grownBy_alloc _ _ _).trans (World.grownBy_alloc _ _ _)).trans (World.grownBy_alloc _ _ _)).trans (World.grownBy_alloc _ _ _)).trans (d8 _ t 0 _)
structure Hi7 (w u:World) (bi:Nat) (d:Ds7) (R:RA) (vd ve vp vr:Value):Prop where
 ix:jz u bi ve R.sh R.lv d.r vp d.log d.syn vr
 disk:an u w.heap.size d.r vd d.log d.syn
 ans:an u (w.heap.size+1) ⟨#[]⟩ (.slice none 0 0) ⟨#[]⟩ 0
 pages:ah u w.heap.size vp d.ss
 bel:Below w.heap.size w u
 ne:w.heap.size+1<bi
theorem Hi7.below {w u u':World} {bi:Nat} {d:Ds7} {R:RA} {b c e vr:Value}(h:Hi7 w u bi d R b c e vr) (a:Below u.heap.size u u'):Hi7 w u' bi d R b c e vr :=
 ⟨h.ix.below a,h.disk.below a,h.ans.below a,h.pages.below a,h.bel.trans (a.mono h.bel.size),h.ne⟩
theorem Hi7.grow {w u u':World} {bi t:Nat} {d:Ds7} {R:RA} {a b e vr:Value} {c:Value}(h:Hi7 w u bi d R a b e vr) (ht:bi<t) (f:u.heap[t]? = some (.cells #[c] 98)) (g:u.grownBy u' (some t)):Hi7 w u' bi d R a b e vr:=by
 have i:=h.ne;exact⟨dn g (by omega) h.ix,dn g (by omega) h.disk,dn g (by omega) h.ans,h.pages.box f (by decide) g,Below.grown h.bel g h.bel.size (fun j hj=>by have:=Option.some.inj hj;omega),h.ne⟩
def E3 (w u:World) (bi:Nat) (d:Ds7) (vp:Value) (log:ByteArray) (syn:Int):World:=s4D ((u.setCell ⟨bi,5,none⟩ (.string log)).setCell ⟨bi,6,none⟩ (.int .i64 syn)) (w.heap.size+1) (.string d.r) vp (.string log) (.int .i64 syn)
theorem Jf {w u:World} {bi:Nat} {d:Ds7} {R:RA} {f i a vr:Value}(h:Hi7 w u bi d R f i a vr) (log:ByteArray) (syn:Int):ah (E3 w u bi d a log syn) w.heap.size a d.ss/\Below w.heap.size w (E3 w u bi d a log syn):=by
 have k:=h.ne;have g:=(d8 u bi 5 (.string log)).trans (d8 _ bi 6 (.int .i64 syn));have e:=h.pages.box h.ix (by decide) g;have b:=dn g (by omega) h.ans;have c:Below w.heap.size w ((u.setCell ⟨bi,5,none⟩ (.string log)).setCell ⟨bi,6,none⟩ (.int .i64 syn)):=Below.grown h.bel g h.bel.size (fun j hj=>by have:=Option.some.inj hj;omega);exact Az b c e d.r log syn
theorem U6 (hO:ya){w:World} {B:Nat} {vd:Value} {d:Ds7} {ty:TypeId} {pv:Value} {pb pl pf pn:Addr}(keep:Int) (b9:-1048576<=keep) (ba:keep<=1048576) (hD:Dk7 w B vd d) (hE:ql w ty pv pb pl pf pn) (hT:wy w) :
  Calls prog 18 #[.agg #[.string d.r,vd,.string d.log,.int .i64 d.syn],.int .i64 keep] w fun e w'=>CrQ w (kb d keep) e w':=by
 obtain⟨k,m,aW⟩:=hD.form;subst aW;obtain⟨a6,bc,ai,aH⟩:=Mp w d (.slice k d.ss.length m);have O:=zd hO (hD.below a6) (hE.below a6);have Q:Hid (∀ u,Below w.heap.size w u->ql u ty pv pb pl pf pn/\wy u):=fun u hu=>⟨hE.below hu,(hu.cell (p:=⟨4,0,none⟩) (ag hT)).trans hT⟩
 have S:Hid ((w.alloc (.cells #[.string d.r,(.slice k d.ss.length m),.string d.log,.int .i64 d.syn] 25)).alloc (.cells #[.string ⟨#[]⟩,.slice none 0 0,.string ⟨#[]⟩,.int .i64 0] 25)=W07 w d (.slice k d.ss.length m)):=rfl;have bb:=hD.ok.log;generalize W07 w d (.slice k d.ss.length m)=W0 at *;have I:=hZ a6;have aD:=hZ ai;have a3:=hZ aH;obtain⟨ak,d0,d1,d2,d3,df⟩:=ai.facts;clear hD hE hT a6 ai aH
 cases ho:ch d with
 | none =>
  have j:Hid (kb d keep=none):=xo (.inl ho);rw[ho]at O;have K:Calls prog 29 #[.agg #[.string d.r,.slice k d.ss.length m,.string d.log,.int .i64 d.syn]] W0 fun e w'=>(∃ ev,e=.returned (.tuple #[zIx,ev])/\Bw pb ev)/\Below W0.heap.size W0 w':=O
  clear O ho Q;go_enter func18,ntmps18;go_upto_region 1 with fail
  rw[S.out];clear S;go_wp2_with fail;refine K.mono ?_;rintro e C ⟨⟨ev,rfl,aJ⟩,a⟩;obtain⟨et,ex,rfl⟩:∃ et ex,ev=.iface et ex:=by rcases aJ with rfl|⟨kk,rfl⟩ <;> exact⟨_,_,rfl⟩
  unfold zIx;clear aJ;have M:=a3.out.below (a.alloc a.size (.cells #[.slice none 0 0,.bool false,.int .i64 0,.string ⟨#[]⟩,.slice none 0 0,.string ⟨#[]⟩,.int .i64 0,.slice none 0 0] 71));have U:=I.out.trans ((a.alloc a.size (.cells #[.slice none 0 0,.bool false,.int .i64 0,.string ⟨#[]⟩,.slice none 0 0,.string ⟨#[]⟩,.int .i64 0,.slice none 0 0] 71)).mono I.out.size);obtain⟨V,W,X,Y,Z,a2⟩:=M.facts;obtain⟨o,c⟩:=Az M U (dz _ _) ⟨#[]⟩ ⟨#[]⟩ 0;have b:=hZ c;unfold s4D at b
  obtain⟨w2,F⟩:∃ w2,w2=C.alloc (.cells #[.slice none 0 0,.bool false,.int .i64 0,.string ⟨#[]⟩,.slice none 0 0,.string ⟨#[]⟩,.int .i64 0,.slice none 0 0] 71):=⟨_,rfl⟩
  have E:=hZ F.symm;rw[<- F]at V W X Y Z a2 b;clear o c K a M U F;go_upto_region 2 with fail
  rw[E.out];clear E;go_wp2;refine bodyPost_ret (v:=.tuple #[.agg #[.string ⟨#[]⟩,.slice none 0 0,.string ⟨#[]⟩,.int .i64 0],.bool false]) ?_ rfl ?_
  .rw[results_cell_tmp rfl]
   go_simp
  .exact Ca j.out b.out
 | some l =>
  rw[ho]at O;have K:Calls prog 29 #[.agg #[.string d.r,.slice k d.ss.length m,.string d.log,.int .i64 d.syn]] W0 fun e w'=>(∃ ve vp vr,e=.returned (.tuple #[ixV ve (ab d.r) d.r vp d.log d.syn vr,.nilIface])/\ac w' W0.heap.size ve (ab d.r).es/\ah w' W0.heap.size vp d.ss/\Rws w' W0.heap.size vr l)/\Below W0.heap.size W0 w':=O
  by_cases aR:keep<0
  .have j:Hid (kb d keep=none):=xo (.inr aR)
   clear O ho Q;go_enter func18,ntmps18;go_upto_region 1 with fail
   rw[S.out];clear S;go_wp2_with fail;refine K.mono ?_;rintro e C ⟨⟨ve,vp,vr,rfl,h1,h2,h3⟩,a⟩;obtain⟨z,A,av⟩:=qd h1;subst av;obtain⟨f,g,aw,_⟩:=gz h2;subst aw;obtain⟨x,y,ax⟩:=db h3;subst ax;unfold ixV;clear h1 h2 h3;have M:=a3.out.below (a.alloc a.size (.cells #[.slice z (ab d.r).es.length A,.bool (ab d.r).sh,.int .i64 (ab d.r).lv,.string d.r,.slice f d.ss.length g,.string d.log,.int .i64 d.syn,.slice x l.length y] 71));have U:=I.out.trans ((a.alloc a.size (.cells #[.slice z (ab d.r).es.length A,.bool (ab d.r).sh,.int .i64 (ab d.r).lv,.string d.r,.slice f d.ss.length g,.string d.log,.int .i64 d.syn,.slice x l.length y] 71)).mono I.out.size);obtain⟨V,W,X,Y,Z,a2⟩:=M.facts;obtain⟨o,c⟩:=Az M U (dz _ _) ⟨#[]⟩ ⟨#[]⟩ 0
   have b:=hZ c;unfold s4D at b;obtain⟨w2,F⟩:∃ w2,w2=C.alloc (.cells #[.slice z (ab d.r).es.length A,.bool (ab d.r).sh,.int .i64 (ab d.r).lv,.string d.r,.slice f d.ss.length g,.string d.log,.int .i64 d.syn,.slice x l.length y] 71):=⟨_,rfl⟩
   have E:=hZ F.symm;rw[<- F]at V W X Y Z a2 b;clear o c K a M U F;go_upto_region 2 with fail
   rw[E.out];clear E;go_wp2;refine bodyPost_ret (v:=.tuple #[.agg #[.string ⟨#[]⟩,.slice none 0 0,.string ⟨#[]⟩,.int .i64 0],.bool false]) ?_ rfl ?_
   .rw[results_cell_tmp rfl]
    go_simp
   .exact Ca j.out b.out
  .have aI:=J7 ho (show 0<=keep by omega)
   obtain⟨au,aL⟩:=kz ho;have N:=(uu aL).choose_spec.2.2.2.1;have aS:=Fp (keep:=keep) au;have bd:0<=d.syn/\d.syn<=(d.log.size:Int):=of_decide_eq_true au;obtain⟨lf,am⟩:∃ lf,lf=ow d keep:=⟨_,rfl⟩
   obtain⟨s,hs⟩:∃ s,s=d.log.extract 0 lf:=⟨_,rfl⟩
   have aN:s.size=lf:=by rw[hs];exact rz (by omega)
   have j:Hid (kb d keep=some ⟨d.r,d.ss,d.log.extract 0 (cm s),(cm s:Int)⟩):=by
    show _=_
    rw[aI];unfold Am Du qh;rw[<- am,<- hs]
   have an:(lf:Int)=d.syn+min keep ((d.log.size:Int)-d.syn):=by rw[am];unfold ow;omega
   have ao:lf<=d.log.size:=by omega
   have HS:=hZ hs.symm;have aO:∀ u:World,(Instr.slice 9 (.string d.log) none (some (.int .i64 (lf:Int))) none).run prog u=.ok (.string s) u:=fun u=>by
    rw[run_slice_string_h (ht:=underlying9) (h0:=by omega) (h2:=by omega),Int.toNat_natCast,HS.out]
   have ae:Hid (∀ os,im s=some os->cm s=lf):=fun os ho=>(Mq _ _ bR os ho).trans aN
   have aa:Hid (cm s<=d.log.size):=by show _<=_;have:=rk s;omega
   have a4:Hid (s.size<=6000):=by show _<=_;omega
   have be:IntKind.i64.wrap ((d.log.size:Int)-d.syn)=(d.log.size:Int)-d.syn:=by rw[IntKind.wrap_i64];omega
   have F:IntKind.i64.wrap (d.syn+min keep ((d.log.size:Int)-d.syn))=(lf:Int):=by rw[IntKind.wrap_i64];omega
   clear O ho aI au aL aS am hs aN an N;go_enter func18,ntmps18;go_upto_region 1 with fail
   rw[S.out];clear S;go_wp2_with fail;refine K.mono ?_;rintro e C ⟨⟨ve,vp,vr,rfl,h1,h2,h3⟩,a⟩;obtain⟨z,A,av⟩:=qd h1;subst av;obtain⟨f,g,aw,_⟩:=gz h2;subst aw;obtain⟨x,y,ax⟩:=db h3;subst ax;obtain⟨bi,R⟩:∃ bi,bi=C.heap.size:=⟨_,rfl⟩
   obtain⟨w2,a0⟩:∃ w2,w2=C.alloc (.cells #[.slice z (ab d.r).es.length A,.bool (ab d.r).sh,.int .i64 (ab d.r).lv,.string d.r,.slice f d.ss.length g,.string d.log,.int .i64 d.syn,.slice x l.length y] 71):=⟨_,rfl⟩
   have af:Below C.heap.size C w2:=by rw[a0];exact bY _
   have a5:=a.trans (af.mono a.size);have aV:=a.size;have J:Hid (Hi7 w w2 bi d (ab d.r) (.slice k d.ss.length m) (.slice z (ab d.r).es.length A) (.slice f d.ss.length g) (.slice x l.length y)):=by
    refine⟨?_,aD.out.below a5,a3.out.below a5,(ji h2 (by omega)).below af,I.out.trans (a5.mono I.out.size),by omega⟩;show _=_
    rw[a0,R];exact heap_alloc_new C _
   have E:=hZ a0.symm;have aB:=hZ R.symm;unfold ixV;clear K h1 h2 h3 a af a5 a0 R aV I aD a3;go_upto_region 2 with fail
   rw[E.out,aB.out];clear E aB;obtain⟨ak,d0,d1,d2,d3,df⟩:=J.out.disk.facts;have RL:=H6 s w2 (by have:=a4.out;omega) ((Q.out w2 J.out.bel).1.errs.bad);go_wp2_with fail;refine RL.mono ?_;rintro e n (⟨_,os,v3,aK,rfl,_,_,G⟩|⟨_,_,rfl,G⟩|⟨h6,_,_⟩)
   .have hq:=ae.out os aK
    rw[hq]at j;have aM:lf<=d.log.size:=ao;have L:Below n.heap.size n (n.alloc (.cells #[.int .i64 0] 98)):=bY _;obtain⟨P,ay⟩:∃ P,P=n.alloc (.cells #[.int .i64 0] 98):=⟨_,rfl⟩
    rw[<- ay]at L;have h:Hi7 w P bi d (ab d.r) (.slice k d.ss.length m) (.slice z (ab d.r).es.length A) (.slice f d.ss.length g) (.slice x l.length y):=J.out.below (G.trans (L.mono G.size));have aG:=hZ ay.symm;have AN:=fun t=>av2 t P
    have aA:∀ u:World,(Instr.slice 9 (.string d.log) none (some (.int .i64 (lf:Int))) none).run prog u=.ok (.string (d.log.extract 0 lf)) u:=fun u=>by
     rw[run_slice_string_h (ht:=underlying9) (h0:=by omega) (h2:=by omega),Int.toNat_natCast]
    obtain⟨i,N⟩:∃ i,i=d.log.extract 0 lf:=⟨_,rfl⟩
    rw[<- N]at aA j;obtain⟨q,rfl⟩:∃ q,q=lf:=⟨_,rfl⟩
    clear RL aK hq G L ay Q ae aa a4 J N d0 d1 d2 d3 df ak aO HS;go_upto_region 7 with fail
    rw[aG.out];clear aG;go_wp2_with fail;refine (AN _).mono ?_;rintro e w7 ⟨rfl,az⟩;have az:=az.symm;subst az;clear AN;obtain⟨o,c⟩:=Jf h i (q:Int);have T:=hZ o;have b:=hZ c;unfold E3 s4D at T b;obtain⟨V,W,X,Y,Z,a2⟩:=h.ans.facts;obtain⟨al,aX,aY,aZ,b0,b2,b4,b5,b6,b7⟩:=h.ix.facts;have aq:=h.ne;have aT:¬ bi=w.heap.size+1:=by omega
    have aU:¬ w.heap.size+1=bi:=by omega
    clear o c h;go_wp2;refine bodyPost_ret (v:=.tuple #[.agg #[.string d.r,.slice f d.ss.length g,.string i,.int .i64 (q:Int)],.bool true]) ?_ rfl ?_
    .rw[results_cell_tmp rfl]
     go_simp
    .exact Cb (D:=⟨d.r,d.ss,i,(q:Int)⟩) j.out T.out b.out
   .have aM:=aa.out
    obtain⟨q,hq⟩:∃ q,q=cm s:=⟨_,rfl⟩
    rw[<- hq]at j aM ⊢;have L:Below n.heap.size n (n.alloc (.cells #[.int .i64 0] 98)):=bY _;obtain⟨H,a9⟩:∃ H,H=n.alloc (.cells #[.int .i64 0] 98):=⟨_,rfl⟩
    obtain⟨bt,a7⟩:∃ bt,bt=n.heap.size:=⟨_,rfl⟩
    rw[<- a9]at L;have aj:Hi7 w H bi d (ab d.r) (.slice k d.ss.length m) (.slice z (ab d.r).es.length A) (.slice f d.ss.length g) (.slice x l.length y):=J.out.below (G.trans (L.mono G.size));have a8:H.heap[bt]? = some (.cells #[.int .i64 0] 98):=by rw[a9,a7];exact heap_alloc_new n _
    have R:bi<bt:=by rw[a7];exact Nat.lt_of_lt_of_le J.out.ix.lt G.size
    have aF:=hZ a9.symm;have aC:=hZ a7.symm;have AT:=af0 (q:Int) bt H (Q.out H aj.bel).2 a8;have aE:Hid (∀ u,H.grownBy u (some bt)->Hi7 w u bi d (ab d.r) (.slice k d.ss.length m) (.slice z (ab d.r).es.length A) (.slice f d.ss.length g) (.slice x l.length y)):=fun u hu=>aj.grow R a8 hu
    have aP:=(Array.getElem?_eq_some_iff.1 a8).1;have a1:Hid (∀ u,H.grownBy u (some bt)->bt<u.heap.size):=fun u hu=>Nat.lt_of_lt_of_le aP hu.size
    have aA:∀ u:World,(Instr.slice 9 (.string d.log) none (some (.int .i64 (q:Int))) none).run prog u=.ok (.string (d.log.extract 0 q)) u:=fun u=>by
     rw[run_slice_string_h (ht:=underlying9) (h0:=by omega) (h2:=by omega),Int.toNat_natCast]
    obtain⟨i,N⟩:∃ i,i=d.log.extract 0 q:=⟨_,rfl⟩
    rw[<- N]at aA j;clear RL hq G L a9 a7 R a8 aj Q ae aa a4 J N d0 d1 d2 d3 df ak aO HS;go_upto_region 7 with fail
    rw[aF.out,aC.out];clear aF aC;go_wp2_with fail;refine AT.mono ?_;rintro e P ⟨rfl,b8,g6⟩;have h:=aE.out P g6;have aQ:=a1.out P g6;clear AT aE a1 g6;obtain⟨o,c⟩:=Jf h i (q:Int);have T:=hZ o;have b:=hZ c;unfold E3 s4D at T b;obtain⟨V,W,X,Y,Z,a2⟩:=h.ans.facts;obtain⟨al,aX,aY,aZ,b0,b2,b4,b5,b6,b7⟩:=h.ix.facts;have aq:=h.ne;have aT:¬ bi=w.heap.size+1:=by omega
    have aU:¬ w.heap.size+1=bi:=by omega
    clear o c h;go_wp2;refine bodyPost_ret (v:=.tuple #[.agg #[.string d.r,.slice f d.ss.length g,.string i,.int .i64 (q:Int)],.bool true]) ?_ rfl ?_
    .rw[results_cell_tmp rfl]
     go_simp
    .exact Cb (D:=⟨d.r,d.ss,i,(q:Int)⟩) j.out T.out b.out
   .exact absurd a4.out h6
theorem ay0 (w:World) (g i j:Nat) (a b:Value):w.grownBy ((w.setCell ⟨g,i,none⟩ a).setCell ⟨g,j,none⟩ b) (some g) :=
 ⟨rfl,rfl,rfl,by simp,fun q hq hn=>by
  have n:¬ q=g:=fun e=>hn (by rw[e])
  rw[heap_setCell_other _ ⟨g,j,none⟩ q _ n,heap_setCell_other _ ⟨g,i,none⟩ q _ n]⟩
theorem jz.rowlog {u:World} {b:Nat} {c:Value} {sh:Bool} {lv:Int} {r:ByteArray} {d:Value} {log:ByteArray} {syn:Int} {vr:Value}(h:jz u b c sh lv r d log syn vr) (vr':Value) (a:ByteArray):jz ((u.setCell ⟨b,7,none⟩ vr').setCell ⟨b,5,none⟩ (.string a)) b c sh lv r d a syn vr':=by
 have e:=heap_setCell_same u b 7 _ _ vr' h;have f:=heap_setCell_same _ b 5 _ _ (.string a) e;show _=_
 rw[f];simp
def Kt (p:Addr):Value:=.iface 298 (.pointer (some p))
def Zf (w:World) (lo b:Nat) (ve:Value) (R:RA) (r:ByteArray) (vp:Value) (ss:List ByteArray) (log:ByteArray) (syn:Int) (vr:Value) (l:List Rw) (o:Dn) (pl pf pn:Addr) (e:Ending) (w':World):Prop :=
 Below lo w w'/\((apC R l o=0/\log.size+(js o).size<=6000/\e=.returned .nilIface/\∃ vr',Ix7 w' lo b ve R r vp ss (log++js o) syn vr' (apR R l o)) \/
  (Ix7 w' lo b ve R r vp ss log syn vr l/\((apC R l o=2/\e=.returned (Kt pl))\/((apC R l o=3\/apC R l o=0/\¬ log.size+(js o).size<=6000)/\e=.returned (Kt pf))\/(apC R l o=4/\e=.returned (Kt pn)))))
theorem ae0 {w:World} {x b B:Nat} {K:Value} {R:RA} {r:ByteArray} {X:Value} {ss:List ByteArray} {log:ByteArray} {syn:Int} {vr:Value} {l:List Rw} {pb pl pf pn:Addr}(o:Dn) (hd:o.put=false->o.val=⟨#[]⟩) (ab:o.text.size<=1048576) (ac:o.val.size<=1048576)
  (A:Ix7 w x b K R r X ss log syn vr l) (T:Ru7 w B K R) (H:Ev7 w pb pl pf pn) (a0:m6 l) (a2:l.length<=60) (a8:log.size<=6000) :
  Calls prog 75 #[.pointer (some ⟨b,0,none⟩),.agg #[.int .i64 (kn7 o),.string o.text,.string o.val]] w fun e w'=>Zf w x b K R r X ss log syn vr l o pl pf pn e w':=by
 obtain⟨W,C⟩:∃ W,W=w.alloc (.cells #[.int .i64 (kn7 o),.string o.text,.string o.val] 27):=⟨_,rfl⟩
 have m:Below w.heap.size w W:=by rw[C];exact bY _
 have E:Hid (fo W w.heap.size (kn7 o) o.text o.val):=by show _=_;rw[C];exact heap_alloc_new w _
 have S:Hid (W=w.alloc (.cells #[.int .i64 (kn7 o),.string o.text,.string o.val] 27)):=C;have y:=hZ m;have t:=A.below m;have s:=Bp o ab ac t.box (T.below m) (H.below m) t.rows a0 a2;have O:=hZ t;have Q:=hZ (H.below m);have N:x<=b:=A.low;have ae:b<w.heap.size:=A.box.lt;obtain⟨a5,b0,b1,b2,b3,b4,a,b6,b7,bf⟩:=t.box.facts;obtain⟨a9,o0,o1,o2⟩:=E.out.facts;clear A T H m C t;generalize hkn:kn7 o=kk at *;go_enter func75,ntmps75;go_upto_region 1 with fail
 rw[<- S.out];go_wp2_with fail;refine s.mono ?_;rintro e n ⟨h,d⟩;have j:=O.out.below d;have k:=E.out.below d;have i:=hZ j;have Z:=hZ k;have D:=(Q.out.below d).full;have L:=hZ (y.out.trans (d.mono y.out.size));have q:Hid (Below x w n):=L.out.mono (by omega);obtain⟨a6,c0,c1,c2,c3,c4,c5,c6,c7,cf⟩:=j.box.facts;obtain⟨aa,p0,p1,p2⟩:=k.facts;rcases h with ⟨c,v,rfl,I⟩|⟨c,rfl⟩|⟨c,rfl⟩|⟨c,rfl⟩
 .obtain⟨q1,q2,_,_⟩:=Hi c
  have q3:=(qe q1).1;have f:Hid (apC R l o=0):=c;have P:=hZ I;obtain⟨U,V,vc,rfl⟩:∃ U V vc,v=.slice U V vc:=by
   rcases I.form with ⟨rfl,_⟩|⟨g,ad,rfl,_,_⟩
   .exact⟨_,_,_,rfl⟩
   .exact⟨_,_,_,rfl⟩
  have G:=fun u=>Qg u o q3 q2 hd
  rw[hkn]at G;have af:(js o).size<=124:=by rw[Mj];split <;> omega
  have ah:W.heap.size<=n.heap.size:=d.size;have ai:w.heap.size<=W.heap.size:=y.out.size;clear s d j k c I q1 E O Q y S b0 b1 b2 b3 b4 a b6 b7 bf o0 o1 o2 a9 a5;generalize hrb:js o=rb at *;go_upto_region 4 with fail
  go_cut [7] from 17 to 25 (fun v7 wx=>v7=.string (log++rb)/\Below n.heap.size n wx)
  case first =>
   go_region_with (go_at_call 112;refine (G _).mono ?_;rintro e w5 ⟨rfl,a⟩;have Y:Below n.heap.size n w5:=⟨a.os,a.tape,a.output,a.size,a.block⟩;have x5:=(i.out.below Y).box.facts.2.2.2.2.2.2.1;have x6:=ag x5;clear a)
   all_goals
    go_simp;go_wp2_with fail;go_meet
    case rel=>exact⟨rfl,Y⟩
  case rest =>
   obtain⟨h7,a⟩:=hcut;subst h7;have F:=i.out.below a;have z:=hZ F;have a1:=hZ (P.out.below a);have M:Hid (Below x w wc):=q.out.trans (a.mono (by omega));have a3:wc.cell? ⟨2,0,none⟩=some (.iface 298 (.pointer (some pf))):=(a.cell (p:=⟨2,0,none⟩) (ag D)).trans D;have a4:=ag a3;obtain⟨a7,d0,d,d2,d3,d4,d5,d6,d7,df⟩:=F.box.facts;clear F a G P i q Z L D c0 c1 c2 c3 c4 c5 c6 c7 cf p0 p1 p2;by_cases J:log.size+rb.size<=6000
   .have z1:decide ((6000:Int)<(log.size:Int)+(rb.size:Int))=false:=decide_eq_false (by omega)
    go_wp2;go_ret;rw[<- hrb]at *;refine⟨?_,.inl ⟨f.out,J,rfl,_,z.out.grow (ay0 _ _ _ _ _ _) (z.out.box.rowlog _ _) z.out.pages (a1.out.mono (by omega))⟩⟩;exact (M.out.setCell N _).setCell N _
   .have z1:decide ((6000:Int)<(log.size:Int)+(rb.size:Int))=true:=decide_eq_true (by omega)
    go_wp2;go_ret;rw[<- hrb]at J;exact⟨M.out,.inr ⟨z.out,.inr (.inl ⟨.inr ⟨f.out,J⟩,rfl⟩)⟩⟩
 .clear s d j k
  have f:Hid (apC R l o=2):=c;clear c;go_wp2;go_ret;exact⟨q.out,.inr ⟨i.out,.inl ⟨f.out,rfl⟩⟩⟩
 .clear s d j k
  have f:Hid (apC R l o=3):=c;clear c;go_wp2;go_ret;exact⟨q.out,.inr ⟨i.out,.inr (.inl ⟨.inl f.out,rfl⟩)⟩⟩
 .clear s d j k
  have f:Hid (apC R l o=4):=c;clear c;go_wp2;go_ret;exact⟨q.out,.inr ⟨i.out,.inr (.inr ⟨f.out,rfl⟩)⟩⟩
theorem jz.syn {u:World} {b:Nat} {a:Value} {sh:Bool} {lv:Int} {r:ByteArray} {c:Value} {log:ByteArray} {syn:Int} {vr:Value}(h:jz u b a sh lv r c log syn vr) (syn':Int):jz (u.setCell ⟨b,6,none⟩ (.int .i64 syn')) b a sh lv r c log syn' vr:=by
 have d:=heap_setCell_same u b 6 _ _ (.int .i64 syn') h;show _=_
 rw[d];simp
def doG (d:Ds7) (l:List Rw) (k:Int) (x v:ByteArray):Int × Ds7:=if er k x v=true then doL d l k x v else (1,d)
theorem Sv {k:Int} {x v:ByteArray}(h:er k x v=true):k=3\/k=4\/(k≠3/\k≠4/\kn7 (dn7 k x v)=k/\((dn7 k x v).put=false->v=⟨#[]⟩)):=by
 unfold er at h;obtain⟨b,c,d,a⟩:=of_decide_eq_true h;rcases (show k=1\/k=2\/k=3\/k=4 by omega) with rfl|rfl|rfl|rfl
 .exact .inr (.inr ⟨by decide,by decide,rfl,fun e=>by cases e⟩)
 .refine .inr (.inr ⟨by decide,by decide,rfl,fun _=>?_⟩)
  have:=a (by decide);apply ByteArray.ext
  exact Array.eq_empty_of_size_eq_zero this
 .exact .inl rfl
 .exact .inr (.inl rfl)
theorem a12 {d:Ds7} {l:List Rw} {x v:ByteArray}:doL d l 3 x v=(0,{ d with syn:=(d.log.size:Int) }):=rfl
theorem ah4 {d:Ds7} {l:List Rw} {x v:ByteArray}:doL d l 4 x v=(match mc l with|some pp=>(0,{ d with ss:=pp,log:=⟨#[]⟩,syn:=0 })|none=>(3,d)):=rfl
theorem ah3 {d:Ds7} {l:List Rw} {k:Int} {x v:ByteArray}(a:k≠3) (b:k≠4):doL d l k x v=if apC (ab d.r) l (dn7 k x v)=0 then (if d.log.size+(js (dn7 k x v)).size<=6000 then (0,{ d with log:=d.log++js (dn7 k x v) }) else (3,d)) else (apC (ab d.r) l (dn7 k x v),d):=by
 unfold doL;rw[if_neg a,if_neg b]
theorem b59 {w:World} {s b B:Nat} {C:Value} {d:Ds7} {i:Value} {vr:Value} {l:List Rw} {pb pl pf pn:Addr}(k:Int) (x v:ByteArray) (hx:x.size<=1048576) (hv:v.size<=1048576)
  (y:Ix7 w s b C (ab d.r) d.r i d.ss d.log d.syn vr l) (V:Ru7 w B C (ab d.r)) (X:Ev7 w pb pl pf pn) (a0:m6 l) (M:l.length<=60) (a1:d.log.size<=6000) :
  Calls prog 30 #[.pointer (some ⟨b,0,none⟩),.agg #[.int .i64 k,.string x,.string v]] w fun e w'=>Below s w w'/\∃ ev,e=.returned ev/\as8 pb pl pf pn ev (doG d l k x v).1/\∃ G vr' l',Ix7 w' s b C (ab d.r) d.r G (doG d l k x v).2.ss (doG d l k x v).2.log (doG d l k x v).2.syn vr' l':=by
 obtain⟨W,z⟩:∃ W,W=w.alloc (.cells #[.int .i64 k,.string x,.string v] 27):=⟨_,rfl⟩
 have t:Below w.heap.size w W:=by rw[z];exact bY _
 have I:Hid (fo W w.heap.size k x v):=by show _=_;rw[z];exact heap_alloc_new w _
 have R:Hid (W=w.alloc (.cells #[.int .i64 k,.string x,.string v] 27)):=z;have D:=hZ t;have N:=Wr W k x v;have O:=hZ (y.below t);have Q:=hZ (X.below t);have P:=hZ (V.below t);have a6:s<=b:=y.low;have a9:b<w.heap.size:=y.box.lt;obtain⟨a7,o0,o1,o2⟩:=I.out.facts;clear y V X t z;go_enter func30,ntmps30;go_upto_region 1 with fail
 rw[<- R.out];go_wp2_with fail;refine N.mono ?_;rintro e L ⟨rfl,q⟩;have J:=O.out.below q;have S:=I.out.below q;have n:=hZ J;have E:=hZ (Q.out.below q);have a2:=hZ (P.out.below q);have Z:=hZ (D.out.trans (q.mono D.out.size));have j:Hid (Below s w L):=Z.out.mono (by omega);obtain⟨a3,c0,c1,c2,c3,c4,c5,c6,c7,cf⟩:=J.box.facts;obtain⟨a8,p0,p1,p2⟩:=S.facts;clear N q J S I O Q P D R o0 o1 o2 a7
 cases hg:er k x v
 .have hd:doG d l k x v=(1,d):=by unfold doG;rw[hg];rfl
  have c:Hid (doG d l k x v=(1,d)):=hd;have e0:=E.out.bad;have e1:=ag e0;clear hg hd;go_wp2;go_ret;rw[c.out];exact⟨j.out,_,rfl,.inr (.inl ⟨.inl rfl,rfl⟩),i,vr,l,n.out⟩
 .have hd:doG d l k x v=doL d l k x v:=by unfold doG;rw[hg];rfl
  have hs:=Sv hg;clear hg;rcases hs with rfl|rfl|⟨T,U,a5,a4⟩
  .rw[a12]at hd
   have c:Hid (doG d l 3 x v=(0,{ d with syn:=(d.log.size:Int) })):=hd;clear hd;have w0:IntKind.i64.wrap (d.log.size:Int)=(d.log.size:Int):=by rw[IntKind.wrap_i64];omega
   go_wp2;go_ret;rw[c.out];exact⟨j.out.setCell a6 _,_,rfl,.inl ⟨rfl,rfl⟩,i,vr,l,n.out.grow (d8 _ _ _ _) (n.out.box.syn _) n.out.pages n.out.rows⟩
  .have H:=Ko n.out E.out M
   go_wp2_with fail;refine H.mono ?_;rintro e w2 ⟨p,h⟩;have m:=hZ p;rw[ah4]at hd;rcases h with ⟨u,rfl,f⟩|⟨ps,G,u,rfl,f⟩
   .rw[u]at hd
    have c:Hid (doG d l 4 x v=(3,d)):=hd;clear hd;have g:=hZ f;clear f p H u;go_wp2;go_ret;rw[c.out];exact⟨j.out.trans m.out,_,rfl,.inr (.inr (.inr (.inl ⟨rfl,rfl⟩))),i,vr,l,g.out⟩
   .rw[u]at hd
    have c:Hid (doG d l 4 x v=(0,{ d with ss:=ps,log:=⟨#[]⟩,syn:=0 })):=hd;clear hd;have g:=hZ f;clear f p H u;go_wp2;go_ret;rw[c.out];exact⟨j.out.trans m.out,_,rfl,.inl ⟨rfl,rfl⟩,G,vr,l,g.out⟩
  .rw[ah3 T U]at hd
   have K:=ae0 (dn7 k x v) a4 hx hv n.out a2.out E.out a0 M a1;rw[a5]at K;have t3:decide (k=3)=false:=decide_eq_false T;have t4:decide (k=4)=false:=decide_eq_false U;have F:Calls prog 75 #[.pointer (some ⟨b,0,none⟩),.agg #[.int .i64 k,.string x,.string v]] L fun e w'=>Zf L s b C (ab d.r) d.r i d.ss d.log d.syn vr l (dn7 k x v) pl pf pn e w':=K
   clear K;generalize dn7 k x v=o at *;go_wp2_with fail;refine F.mono ?_;rintro e w2 ⟨p,h⟩;have m:=hZ p;rcases h with ⟨a,A,rfl,vr',f⟩|⟨f,h⟩
   .rw[if_pos a,if_pos A]at hd
    have c:Hid (doG d l k x v=(0,{ d with log:=d.log++js o })):=hd;clear hd;have g:=hZ f;clear f p F a A;go_wp2;go_ret;rw[c.out];exact⟨j.out.trans m.out,_,rfl,.inl ⟨rfl,rfl⟩,i,vr',_,g.out⟩
   .have g:=hZ f
    clear f p F;rcases h with ⟨a,rfl⟩|⟨a,rfl⟩|⟨a,rfl⟩
    .rw[if_neg (by rw[a];decide),a]at hd
     have c:Hid (doG d l k x v=(2,d)):=hd;unfold Kt;clear a hd;go_wp2;go_ret;rw[c.out];exact⟨j.out.trans m.out,_,rfl,.inr (.inr (.inl ⟨rfl,rfl⟩)),i,vr,l,g.out⟩
    .have Y:(if apC (ab d.r) l o=0 then (if d.log.size+(js o).size<=6000 then (0,{ d with log:=d.log++js o }) else (3,d)) else (apC (ab d.r) l o,d))=((3,d):Int × Ds7):=by
      rcases a with a|⟨a,A⟩
      .rw[if_neg (by rw[a];decide),a]
      .rw[if_pos a,if_neg A]
     rw[Y]at hd;have c:Hid (doG d l k x v=(3,d)):=hd;unfold Kt;clear a Y hd;go_wp2;go_ret;rw[c.out];exact⟨j.out.trans m.out,_,rfl,.inr (.inr (.inr (.inl ⟨rfl,rfl⟩))),i,vr,l,g.out⟩
    .rw[if_neg (by rw[a];decide),a]at hd
     have c:Hid (doG d l k x v=(4,d)):=hd;unfold Kt;clear a hd;go_wp2;go_ret;rw[c.out];exact⟨j.out.trans m.out,_,rfl,.inr (.inr (.inr (.inr ⟨rfl,rfl⟩))),i,vr,l,g.out⟩
end Go.Proofs.YtjbmgghehdemdaaGreatDoor
