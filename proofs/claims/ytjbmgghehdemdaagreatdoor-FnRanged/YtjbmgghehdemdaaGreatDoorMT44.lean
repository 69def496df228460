/- DrawIx7 -/
import Derived.Test.YtjbmgghehdemdaaGreatDoorMT39
import Derived.Test.YtjbmgghehdemdaaGreatDoorMT42
import Derived.Test.YtjbmgghehdemdaaGreatDoorMT43
namespace Go.Proofs.YtjbmgghehdemdaaGreatDoor
set_option maxRecDepth 100000
set_option maxHeartbeats 16000000
open _root_.Go.Proofs.Tryz
open Go.RowKit
theorem J3 {w:World} {B b e size n:Nat} {v:Value} {xs:List Value}(h:w.ownsRow B e size v n xs) (hb:b<B):v.ownBlock=none∨v.ownBlock≠some b:=by
 cases c:v.ownBlock with
 | none=>exact .inl rfl
 | some g =>
  refine .inr fun e=>?_
  have:=(World.ownsRow.lt h g c).1;have:=Option.some.inj e;omega
structure Di7 (w u:World) (B b k pa pb:Nat) (vp:Value) (d:Ds7):Prop where
 cur:Cur u B b k
 ans:ba u pa ⟨#[]⟩ (.slice none 0 0) ⟨#[]⟩ 0
 box:ba u pb d.r vp d.log d.syn
 pages:ak u w.heap.size vp d.ss
 ok:Ok7 d
 lg:Lg7 d
 gr:w.grownBy u (some b)
 la:B≤pa
 lw:w.heap.size≤pa
 lb:pa<pb
theorem Di7.moved {w u u':World} {B b k pa pb m:Nat} {vp:Value} {d:Ds7}(h:Di7 w u B b k pa pb vp d) (a0:b<w.heap.size) (hM:ed u u' B b k m):∃ k',k'≤k+m∧Di7 w u' B b k' pa pb vp d:=by
 obtain⟨⟨k',hk,hC⟩,g⟩:=hM;have hl:=h.cur.lt;have h1:=h.la;have h2:=h.lb;exact⟨k',hk,hC,em g (by omega) h.ans,em g (by omega) h.box,World.ownsRow.kept h.pages g (J3 h.pages a0),h.ok,h.lg,bu h.gr g,h.la,h.lw,h.lb⟩
theorem Di7.below {w u u':World} {B b k pa pb:Nat} {vp:Value} {d:Ds7}(h:Di7 w u B b k pa pb vp d) (hb:Below u.heap.size u u'):Di7 w u' B b k pa pb vp d :=
 have g:u.grownBy u' none:=⟨hb.os,hb.tape,hb.output,hb.size,fun i hi _=>hb.block i hi⟩;⟨h.cur.kept g (fun _ hj=>by cases hj),h.ans.below hb,h.box.below hb,h.pages.below hb,h.ok,h.lg,fd h.gr g (fun _ hj=>by cases hj),h.la,h.lw,h.lb⟩
theorem Di7.grew {w u u':World} {B b k pa pb:Nat} {vp a0:Value} {d d':Ds7}(h:Di7 w u B b k pa pb vp d) (g:u.grownBy u' (some pb)) (hb:ba u' pb d'.r a0 d'.log d'.syn) (hs:ak u' w.heap.size a0 d'.ss) (ho:Ok7 d') (hg:Lg7 d'):Di7 w u' B b k pa pb a0 d' :=
 have h1:=h.la;have h2:=h.lb;have h3:=h.lw;⟨h.cur.kept g (fun j hj=>by have:=Option.some.inj hj;omega),em g (by omega) h.ans,hb,hs,ho,hg,fd h.gr g (fun j hj=>by have:=Option.some.inj hj;omega),h.la,h.lw,h.lb⟩
theorem Di7.put {w u:World} {B b k pa pb:Nat} {vp a0:Value} {d d':Ds7}(h:Di7 w u B b k pa pb vp d) (hs:ak u w.heap.size a0 d'.ss) (ho:Ok7 d') (hg:Lg7 d'):Di7 w (s4D u pb (.string d'.r) a0 (.string d'.log) (.int .i64 d'.syn)) B b k pa pb a0 d' :=
 have g:=lu u pb (.string d'.r) a0 (.string d'.log) (.int .i64 d'.syn);h.grew g (Iu h.box _ _ _ _) (hs.box h.box (by decide) g) ho hg
theorem zq {w u:World} {B b k pa k0 m:Nat} {vp:Value} {ss:List ByteArray}(hc:Cur u B b k) (ha:ba u pa ⟨#[]⟩ (.slice none 0 0) ⟨#[]⟩ 0) (hs:ak u w.heap.size vp ss) (hg:w.grownBy u (some b)) (la:B≤pa) (lw:w.heap.size≤pa) (hk:k≤k0+m) (a1 a2 a3 a4:Value) :
  ak (s4D u pa a1 a2 a3 a4) w.heap.size vp ss∧ed w (s4D u pa a1 a2 a3 a4) B b k0 m :=
 have g:=lu u pa a1 a2 a3 a4;⟨hs.box ha (by decide) g,⟨k,hk,hc.kept g (fun j hj=>by have:=Option.some.inj hj;omega)⟩,fd hg g (fun j hj=>by have:=Option.some.inj hj;omega)⟩
def IxR (w:World) (B b K pa pb:Nat) (vp:Value) (d:Ds7) (v6 v7:Value) (wx:World):Prop :=
 ∃ (q k':Nat) (cde:Int) (vp':Value) (d':Ds7),v6=.pointer (some ⟨q,0,none⟩)∧v7=.int .i64 cde∧ba wx q d'.r vp' d'.log d'.syn∧ak wx w.heap.size vp' d'.ss∧Ok7 d'∧Lg7 d'∧k'≤K+200∧q≠pb∧pa<q∧Di7 w wx B b k' pa pb vp d
theorem Sy {w u:World} {B b K k' pa pb q:Nat} {vp a0:Value} {d d':Ds7} {cde:Int}(hz:ba u q ⟨#[]⟩ (.slice none 0 0) ⟨#[]⟩ 0) (hs:ak u w.heap.size a0 d'.ss) (ho:Ok7 d') (hl:Lg7 d') (hk:k'≤K+200) (hq:q≠pb) (a1:pa<q) (h:Di7 w u B b k' pa pb vp d) :
  IxR w B b K pa pb vp d (.pointer (some ⟨q,0,none⟩)) (.int .i64 cde) (s4D u q (.string d'.r) a0 (.string d'.log) (.int .i64 d'.syn)) :=
 have g:=lu u q (.string d'.r) a0 (.string d'.log) (.int .i64 d'.syn);have h1:=h.la;have h2:=h.lb;have h3:=h.lw;⟨q,k',cde,a0,d',rfl,rfl,Iu hz _ _ _ _,hs.box hz (by decide) g,ho,hl,hk,hq,a1,h.cur.kept g (fun j hj=>by have:=Option.some.inj hj;omega),em g (by omega) h.ans,em g (fun e=>hq e.symm) h.box,h.pages.box hz (by decide) g,h.ok,h.lg,fd h.gr g (fun j hj=>by have:=Option.some.inj hj;omega),h.la,h.lw,h.lb⟩
theorem an7 {w u:World} {B b K k' pa pb:Nat} {vp a0:Value} {d d':Ds7} {cde:Int}(hs:ak u w.heap.size a0 d'.ss) (ho:Ok7 d') (hl:Lg7 d') (hk:k'≤K+200) (h:Di7 w u B b k' pa pb vp d) :
  IxR w B b K pa pb vp d (.pointer (some ⟨u.heap.size,0,none⟩)) (.int .i64 cde) (u.alloc (.cells #[.string d'.r,a0,.string d'.log,.int .i64 d'.syn] 25)) :=
 have b:=(Below.refl u.heap.size u).alloc bR (.cells #[.string d'.r,a0,.string d'.log,.int .i64 d'.syn] 25);have h1:=h.box.lt;have h2:=h.ans.lt;⟨u.heap.size,k',cde,a0,d',rfl,rfl,ba.new u _ _ _ _,hs.below b,ho,hl,hk,by omega,h2,h.below b⟩
def aj5 (w:World) (B b K pa pb:Nat) (v5:Value) (wr:World):Prop :=
 ∃ (n k':Nat) (vp:Value) (d:Ds7),v5=.int .i64 (n:Int)∧n≤50∧k'+200*n≤K∧Di7 w wr B b k' pa pb vp d
def ixL:List ByteArray:=[⟨#[120]⟩,⟨#[91,108,101,118,101,108,115,32,52,93]⟩,⟨#[38,32,97,32,60,32,98]⟩]
theorem au2:∀ s ∈ ixL,s.size≤10:=by decide
theorem ao7 {s:ByteArray}(h:s.size≤300):(Co s).size≤300:=by
 unfold Co;split
 .exact h
 .exact Nat.zero_le _
theorem a01 {r:ByteArray}(h:r.size≤300):Ok7 ⟨r,[],⟨#[]⟩,0⟩:=⟨by show r.size≤_;omega,Nat.zero_le _,fun s hs=>(by cases hs),Pb,Nat.zero_le _⟩
theorem U3 (w:World) (B b k:Nat) (h:Cur w B b k) (hk:k≤400000000) :
  Calls prog 27 #[.pointer (some ⟨b,0,none⟩)] w fun e w'=>∃ (d:Ds7) (vp:Value),e=.returned (.agg #[.string d.r,vp,.string d.log,.int .i64 d.syn])∧ak w' w.heap.size vp d.ss∧Ok7 d∧ed w w' B b k 20000:=by
 have bb:=h.lt;have ai:b<w.heap.size:=by omega
 have bA:Below w.heap.size w (w.alloc (.cells #[.string ⟨#[]⟩,.slice none 0 0,.string ⟨#[]⟩,.int .i64 0] 25)):=bY _;have gA:w.grownBy (w.alloc (.cells #[.string ⟨#[]⟩,.slice none 0 0,.string ⟨#[]⟩,.int .i64 0] 25)) none:=⟨bA.os,bA.tape,bA.output,bA.size,fun i hi _=>bA.block i hi⟩;have RT:=Oq (w.alloc (.cells #[.string ⟨#[]⟩,.slice none 0 0,.string ⟨#[]⟩,.int .i64 0] 25)) B b k (h.kept gA (fun _ hj=>by cases hj)) (by omega);have aQ:Hid (ba (w.alloc (.cells #[.string ⟨#[]⟩,.slice none 0 0,.string ⟨#[]⟩,.int .i64 0] 25)) w.heap.size ⟨#[]⟩ (.slice none 0 0) ⟨#[]⟩ 0):=ba.new w _ _ _ _;have ah:Hid (w.grownBy (w.alloc (.cells #[.string ⟨#[]⟩,.slice none 0 0,.string ⟨#[]⟩,.int .i64 0] 25)) none):=gA;clear h bA gA;go_enter func27,ntmps27;go_wp2_with fail;refine RT.mono ?_;rintro e w1 ⟨s,rfl,hs,⟨k1,ce,b0⟩,g1⟩
 have aY:w.grownBy w1 (some b):=⟨g1.os.trans ah.out.os,g1.tape.trans ah.out.tape,g1.output.trans ah.out.output,Nat.le_trans ah.out.size g1.size,fun i hi hn=>(g1.block i (Nat.lt_of_lt_of_le hi ah.out.size) hn).trans (ah.out.block i hi (by simp))⟩;have aZ:ba w1 w.heap.size ⟨#[]⟩ (.slice none 0 0) ⟨#[]⟩ 0:=em g1 (by omega) aQ.out;have NW:=ad2 w1 s (by omega);have aP:Hid (ba w1 w.heap.size ⟨#[]⟩ (.slice none 0 0) ⟨#[]⟩ 0):=aZ;have aR:Hid (Cur w1 B b k1):=b0;have aS:Hid (w.grownBy w1 (some b)):=aY;have bh:=ao7 hs;generalize Co s=r at *;clear RT aQ ah b0 g1 aY aZ;go_wp2_with fail;refine NW.mono ?_;rintro e w2 ⟨bo,rfl,b2⟩;have g2:w1.grownBy w2 none:=⟨b2.os,b2.tape,b2.output,b2.size,fun i hi _=>b2.block i hi⟩;have b1:=aR.out.kept g2 (fun _ hj=>by cases hj);have aF:=aP.out.below b2;have b7:=fd aS.out g2 (fun _ hj=>by cases hj)
 obtain⟨pb,ar⟩:∃ pb,pb=w2.heap.size:=⟨_,rfl⟩
 obtain⟨w3,aw⟩:∃ w3,w3=w2.alloc (.cells #[.string r,.slice none 0 0,.string ⟨#[]⟩,.int .i64 0] 25):=⟨_,rfl⟩
 have b3:Below w2.heap.size w2 w3:=by rw[aw];exact bY _
 have g3:w2.grownBy w3 none:=⟨b3.os,b3.tape,b3.output,b3.size,fun i hi _=>b3.block i hi⟩;have S3:Di7 w w3 B b k1 w.heap.size pb (.slice none 0 0) ⟨r,[],⟨#[]⟩,0⟩:=⟨b1.kept g3 (fun _ hj=>by cases hj),aF.below b3,by rw[ar,aw];exact heap_alloc_new w2 _,ez _ _,a01 bh,⟨Nat.zero_le _,Nat.zero_le _⟩,fd b7 g3 (fun _ hj=>by cases hj),bb.2,bR,by rw[ar];exact aF.lt⟩;have aD:Hid (Di7 w w3 B b k1 w.heap.size pb (.slice none 0 0) ⟨r,[],⟨#[]⟩,0⟩):=S3;have aX:Hid (w2.alloc (.cells #[.string r,.slice none 0 0,.string ⟨#[]⟩,.int .i64 0] 25)=w3):=aw.symm;have aU:Hid (w2.heap.size=pb):=ar.symm;clear NW g2 b1 aF b7 b2 b3 g3 aw ar aP aR aS;go_upto_if 15 with fail
 rw[aX.out,aU.out];clear aX aU;obtain⟨a2,a7,a8,aa,ab,ac⟩:=S3.box.facts;clear S3;go_cut [] from 9 to 20 (fun wx=>∃ r',r'.size≤300∧Di7 w wx B b k1 w.heap.size pb (.slice none 0 0) ⟨r',[],⟨#[]⟩,0⟩)
 case first =>
  cases bo
  .have ao:Hid (Di7 w _ B b k1 w.heap.size pb (.slice none 0 0) ⟨⟨#[]⟩,[],⟨#[]⟩,0⟩):=aD.out.put (d':=⟨⟨#[]⟩,[],⟨#[]⟩,0⟩) (ez _ _) (a01 (Nat.zero_le _)) ⟨Nat.zero_le _,Nat.zero_le _⟩
   go_wp2;go_meet
   case rel=>exact⟨⟨#[]⟩,Nat.zero_le _,ao.out⟩
  .go_wp2
   go_meet
   case rel=>exact⟨r,bh,aD.out⟩
 case rest =>
  obtain⟨r',co,S4⟩:=hcut;obtain⟨w4,rfl⟩:∃ w4,w4=wc:=⟨_,rfl⟩
  have ao:Hid (Di7 w w4 B b k1 w.heap.size pb (.slice none 0 0) ⟨r',[],⟨#[]⟩,0⟩):=S4;have P5:=ep w4 B b k1 S4.cur (by omega) 12 (by omega) (by omega);clear S4 aD a7 a8 aa ab ac a2;go_wp2_with fail;refine P5.mono ?_;rintro e w5 ⟨n0,rfl,bi,bQ,hM⟩;obtain⟨n0,rfl⟩:=Int.eq_ofNat_of_zero_le bi;obtain⟨k5,cf,S5⟩:=ao.out.moved ai hM;have aV:Hid (Di7 w w5 B b k5 w.heap.size pb (.slice none 0 0) ⟨r',[],⟨#[]⟩,0⟩):=S5;have O6:=uj w5 B b k5 S5.cur (by omega) 12 (by omega) (by omega);have cj:n0≤11:=by omega
  clear P5 hM ao S5 bi bQ;go_wp2_with fail;refine O6.mono ?_;rintro e w6 ⟨b6,rfl,hM⟩;obtain⟨k6,cg,S6⟩:=aV.out.moved ai hM;have aW:Hid (Di7 w w6 B b k6 w.heap.size pb (.slice none 0 0) ⟨r',[],⟨#[]⟩,0⟩):=S6;clear O6 hM aV S6;go_upto_if 20 with fail
  go_cut [5] from 9 to 20 (fun v5 wx=>∃ n:Nat,v5=.int .i64 (n:Int)∧n≤50∧wx=w6)
  case first =>
   cases b6
   .go_wp2
    go_meet
    case rel=>exact⟨n0,rfl,by omega,rfl⟩
   .go_wp2
    go_meet
    case rel=>exact⟨50,rfl,by omega,rfl⟩
  case rest =>
   obtain⟨n,bI,aK,aN⟩:=hcut;subst bI;replace aN:=aN.symm;subst aN;have aC:Hid (aj5 w B b (k6+200*50) w.heap.size pb (.int .i64 (n:Int)) w6):=⟨n,k6,_,_,rfl,aK,by omega,aW.out⟩;clear aW;go_wp2_with fail;go_loopw [5] (fun v5 wr=>aj5 w B b (k6+200*50) w.heap.size pb v5 wr) (fun v5 _=>(intOf v5).toNat)
   case atStart=>exact aC.out
   case round =>
    obtain⟨m,k7,vp,d,rfl,bC,ch,S7⟩:=hrel;obtain⟨ap,cp,bN⟩:=ip S7.pages;subst bN;by_cases hm:0<m
    .have bD:(0:Int)<(m:Int):=by omega
     obtain⟨w7,cv⟩:∃ w7,w7=wr:=⟨_,rfl⟩
     have aj:Hid (Di7 w wr B b k7 w.heap.size pb (.slice ap d.ss.length cp) d):=S7;have bj:Hid (∀ u,Below wr.heap.size wr u→Calls prog 28 #[.pointer (some ⟨b,0,none⟩)] u fun e w'=>∃ (kd:Int) (x v:ByteArray),e=.returned (.agg #[.int .i64 kd,.string x,.string v])∧x.size≤300∧v.size≤300∧ed u w' B b k7 200):=fun u hu=>Io u B b k7 (aj.out.below hu).cur (by omega)
     obtain⟨bx,bS,bU,bW,c0,c2⟩:=S7.box.facts;have cw:w.heap.size<wr.heap.size:=S7.ans.lt;have cl:pb<wr.heap.size:=S7.box.lt;have c7:=S7.cur.lt;clear S7 aC;go_upto_region 9 with fail
     go_cut [6,7] from 21 to 34 (fun v6 v7 wx=>IxR w B b k7 w.heap.size pb (.slice ap d.ss.length cp) d v6 v7 wx)
     case first =>
      go_region_law (go_simp;first|(go_at_call 28;refine (bj.out _ (by repeat (first|with_reducible exact bX|with_reducible refine Below.drew ?_|with_reducible refine Below.alloc ?_ bR _))).mono ?_;rintro e w8 ⟨kd,x,v,rfl,cx,cu,hM⟩;obtain⟨k8,an,S8⟩:=Di7.moved (aj.out.below (by repeat (first|with_reducible exact bX|with_reducible refine Below.drew ?_|with_reducible refine Below.alloc ?_ bR _))) ai hM;have a0:Hid (Di7 w w8 B b k8 w.heap.size pb (.slice ap d.ss.length cp) d):=S8;have bO:w.heap.size<w8.heap.size:=S8.ans.lt;have bE:pb<w8.heap.size:=S8.box.lt;have cr:wr.heap.size≤w8.heap.size:=(by first|exact hM.2.size|exact Nat.le_trans (Nat.le_of_lt (by simp)) hM.2.size);obtain⟨bz,bT,bV,bZ,c1,c3⟩:=S8.box.facts;(try (have x8:ba w8 wr.heap.size ⟨#[]⟩ (.slice none 0 0) ⟨#[]⟩ 0:=em (u:=wr.alloc (.cells #[.string ⟨#[]⟩,.slice none 0 0,.string ⟨#[]⟩,.int .i64 0] 25)) ⟨hM.2.os,hM.2.tape,hM.2.output,hM.2.size,hM.2.block⟩ (by omega) (ba.new wr _ _ _ _);obtain⟨cy,bk,bn,br,bu,c4⟩:=x8.facts));clear S8 hM)|(go_at_call 8;refine (am4 (d:=d) kd x v (by omega) (by omega) (⟨a0.out.pages.below (by repeat (first|with_reducible exact bX|with_reducible refine Below.drew ?_|with_reducible refine Below.alloc ?_ bR _)),a0.out.ok⟩:Dk7 _ w.heap.size (.slice ap d.ss.length cp) d)).mono ?_;rintro e w9 ⟨vq,rfl,s9,b9⟩;obtain⟨aq,cq,aM⟩:=ip s9;subst aM;have aO:Below w8.heap.size w8 w9:=(by first|exact⟨b9.os,b9.tape,b9.output,b9.size,b9.block⟩|exact ((Below.refl w8.heap.size w8).alloc bR (.cells #[.string ⟨#[]⟩,.slice none 0 0,.string ⟨#[]⟩,.int .i64 0] 25)).trans (Below.mono (B:=(w8.alloc (.cells #[.string ⟨#[]⟩,.slice none 0 0,.string ⟨#[]⟩,.int .i64 0] 25)).heap.size) (w:=w8.alloc (.cells #[.string ⟨#[]⟩,.slice none 0 0,.string ⟨#[]⟩,.int .i64 0] 25)) ⟨b9.os,b9.tape,b9.output,b9.size,b9.block⟩ (by simp)));have S9:=a0.out.below aO;have t9:ak w9 w.heap.size (.slice aq (do7 d kd x v).2.ss.length cq) (do7 d kd x v).2.ss:=kq s9 (by first|omega|(simp;omega));have o9:=as8 a0.out.ok kd x v;have l9:=as7 a0.out.lg kd x v;(try (have x9:ba w9 wr.heap.size ⟨#[]⟩ (.slice none 0 0) ⟨#[]⟩ 0:=x8.below aO;obtain⟨cz,bl,bp,bs,bv,c5⟩:=x9.facts));(try (have y9:ba w9 w8.heap.size ⟨#[]⟩ (.slice none 0 0) ⟨#[]⟩ 0:=(ba.new w8 ⟨#[]⟩ (.slice none 0 0) ⟨#[]⟩ 0).below ⟨b9.os,b9.tape,b9.output,b9.size,b9.block⟩;obtain⟨cA,bm,bq,bt,bw,c6⟩:=y9.facts));generalize do7 d kd x v=P at *;obtain⟨cde,D⟩:=P;clear s9 b9))
      all_goals
       have bP:=aO.size;go_wp2_with fail;go_meet
       case rel=>first
        | (
          have R:=Sy (K:=k7) (cde:=cde) x9 t9 o9 l9 an (show wr.heap.size≠pb by omega) (show w.heap.size<wr.heap.size by omega) S9;unfold s4D at R;exact R)
        | (
          have R:=Sy (K:=k7) (cde:=cde) y9 t9 o9 l9 an (show w8.heap.size≠pb by omega) (show w.heap.size<w8.heap.size by omega) S9;unfold s4D at R;exact R)
        | exact an7 (K:=k7) (cde:=cde) t9 o9 l9 an S9
     case rest =>
      obtain⟨q,k8,cde,cG,d',bJ,bK,aI,au,aL,aJ,an,cm,cn,S8⟩:=hcut;subst bJ;subst bK;obtain⟨aq,cq,aM⟩:=ip au;subst aM;obtain⟨a2,a7,a8,aa,ab,ac⟩:=S8.box.facts;obtain⟨bF,cB,cC,cD,cE,cF⟩:=aI.facts;by_cases hc:cde=0
      .subst hc
       have aE:Hid (Di7 w _ B b k8 w.heap.size pb _ d'):=S8.put au aL aJ;clear S8 aI au aL aJ;go_wp2;exact⟨⟨m-1,k8,_,d',by go_num,by omega,by omega,aE.out⟩,by simp[intOf];omega⟩
      .have cd:(cde == 0)=false:=by simpa using hc
       have aE:Hid (Di7 w wc B b k8 w.heap.size pb (.slice ap d.ss.length cp) d):=S8;clear S8 aI au aL aJ hc;go_wp2;exact⟨⟨m-1,k8,_,d,by go_num,by omega,by omega,aE.out⟩,by simp[intOf];omega⟩
    .have bD:¬ (0:Int)<(m:Int):=by omega
     obtain⟨w7,rfl⟩:∃ w7,w7=wr:=⟨_,rfl⟩
     have aj:Hid (Di7 w w7 B b k7 w.heap.size pb (.slice ap d.ss.length cp) d):=S7;have P8:=ep w7 B b k7 S7.cur (by omega) 40 (by omega) (by omega);clear S7 aC;go_wp2_with fail;refine P8.mono ?_;rintro e w8 ⟨q,rfl,q0,q1,hM⟩;obtain⟨k8,an,S8⟩:=aj.out.moved ai hM;have a0:Hid (Di7 w w8 B b k8 w.heap.size pb (.slice ap d.ss.length cp) d):=S8;clear P8 hM aj S8;by_cases bc:q=0
     .subst bc
      have SP:=Ie w8 B b k8 a0.out.cur (by omega) d.log ⟨#[112,100,1,46]⟩ (by have:=a0.out.lg.1;omega) (by decide) (by decide);obtain⟨a2,a7,a8,aa,ab,ac⟩:=a0.out.box.facts;go_wp2_with fail;refine SP.mono ?_;rintro e w9 ⟨lg,rfl,ci,hM⟩;obtain⟨k9,b8,S9⟩:=a0.out.moved ai hM;obtain⟨a2,a7,a8,aa,ab,ac⟩:=S9.box.facts;obtain⟨ag,ax,ay,az,aA,aB⟩:=S9.ans.facts;have a3:¬ pb=w.heap.size:=by have:=S9.lb;omega
      have a4:¬ w.heap.size=pb:=fun e=>a3 e.symm
      have g9:=dq w9 pb 2 (.string lg);have ae:Hid (Ok7 { d with log:=lg }):=⟨S9.ok.rules,S9.ok.pages,S9.ok.page,S9.ok.side,by have:=S9.lg.1;show lg.size≤_;omega⟩;obtain⟨a5,a6⟩:=zq (k0:=k) (m:=20000) (S9.cur.kept g9 (fun j hj=>by have:=Option.some.inj hj;have:=S9.la;have:=S9.lb;omega)) (em g9 a4 S9.ans) (S9.pages.box S9.box (by decide) g9) (fd S9.gr g9 (fun j hj=>by have:=Option.some.inj hj;have:=S9.lw;have:=S9.lb;omega)) S9.la S9.lw (by omega) (.string d.r) (.slice ap d.ss.length cp) (.string lg) (.int .i64 d.syn);have af:Hid (ak _ _ _ _):=a5;have ad:Hid (ed _ _ _ _ _ _):=a6;clear SP hM a0 S9 g9 a5 a6;go_wp2;refine bodyPost_ret (v:=.agg #[.string d.r,(.slice ap d.ss.length cp),.string lg,.int .i64 d.syn]) ?_ rfl ⟨{ d with log:=lg },(.slice ap d.ss.length cp),rfl,af.out,ae.out,ad.out⟩;rw[av rfl];go_simp
     by_cases bd:q=1
     .subst bd
      obtain⟨a2,a7,a8,aa,ab,ac⟩:=a0.out.box.facts;have bB:=a0.out.lg.1;have bL:Below w8.heap.size w8 (w8.alloc (.cells #[.int .i64 (-1),.int .i64 ((d.log.size:Int)+1)] 3)):=bY _;have SL:=a0.out.below bL;have hL:=heap_alloc_new w8 (.cells #[.int .i64 (-1),.int .i64 ((d.log.size:Int)+1)] 3);have bG:=SL.cur.lt;have ct:=a0.out.cur.lt;have A9:=qj (w8.alloc (.cells #[.int .i64 (-1),.int .i64 ((d.log.size:Int)+1)] 3)) B b k8 SL.cur (by omega) w8.heap.size 2 2 [-1,(d.log.size:Int)+1] rfl (by omega) (by omega) (by simp) (by omega) (fun j hj=>by rcases (show j=0∨j=1 by omega) with rfl|rfl <;> exact cell_of_row _ _ _ _ _ _ hL);have a1:Hid (Di7 w _ B b k8 w.heap.size pb (.slice ap d.ss.length cp) d):=SL;clear bL SL hL bG;go_wp2_with fail;refine A9.mono ?_;rintro e w9 ⟨sy,rfl,bH,hM⟩;obtain⟨k9,b8,S9⟩:=a1.out.moved ai hM
      obtain⟨a2,a7,a8,aa,ab,ac⟩:=S9.box.facts;obtain⟨ag,ax,ay,az,aA,aB⟩:=S9.ans.facts;have a3:¬ pb=w.heap.size:=by have:=S9.lb;omega
      have a4:¬ w.heap.size=pb:=fun e=>a3 e.symm
      have g9:=dq w9 pb 3 (.int .i64 sy);have ae:Hid (Ok7 { d with syn:=sy }):=⟨S9.ok.rules,S9.ok.pages,S9.ok.page,S9.ok.side,S9.ok.log⟩;obtain⟨a5,a6⟩:=zq (k0:=k) (m:=20000) (S9.cur.kept g9 (fun j hj=>by have:=Option.some.inj hj;have:=S9.la;have:=S9.lb;omega)) (em g9 a4 S9.ans) (S9.pages.box S9.box (by decide) g9) (fd S9.gr g9 (fun j hj=>by have:=Option.some.inj hj;have:=S9.lw;have:=S9.lb;omega)) S9.la S9.lw (by omega) (.string d.r) (.slice ap d.ss.length cp) (.string d.log) (.int .i64 sy);have af:Hid (ak _ _ _ _):=a5;have ad:Hid (ed _ _ _ _ _ _):=a6;clear A9 hM a0 a1 S9 g9 a5 a6 bH;go_wp2;refine bodyPost_ret (v:=.agg #[.string d.r,(.slice ap d.ss.length cp),.string d.log,.int .i64 sy]) ?_ rfl ⟨{ d with syn:=sy },(.slice ap d.ss.length cp),rfl,af.out,ae.out,ad.out⟩;rw[av rfl];go_simp
     have c8:(q == 0)=false:=by simpa using bc
     have ca:(q == 1)=false:=by simpa using bd
     by_cases be:q=2
     .subst be
      have OF:=uh w8 B b k8 a0.out.cur (by omega) ixL 3 rfl (by omega) (by omega) _ rfl;go_wp2_with fail;refine OF.mono ?_;rintro e w9 ⟨rr,rfl,bg,hM⟩;obtain⟨k9,b8,S9⟩:=a0.out.moved ai hM;have cs:=au2 rr bg;obtain⟨a2,a7,a8,aa,ab,ac⟩:=S9.box.facts;obtain⟨ag,ax,ay,az,aA,aB⟩:=S9.ans.facts;have a3:¬ pb=w.heap.size:=by have:=S9.lb;omega
      have a4:¬ w.heap.size=pb:=fun e=>a3 e.symm
      have g9:=dq w9 pb 0 (.string rr);have ae:Hid (Ok7 { d with r:=rr }):=⟨by show rr.size≤_;omega,S9.ok.pages,S9.ok.page,S9.ok.side,S9.ok.log⟩;obtain⟨a5,a6⟩:=zq (k0:=k) (m:=20000) (S9.cur.kept g9 (fun j hj=>by have:=Option.some.inj hj;have:=S9.la;have:=S9.lb;omega)) (em g9 a4 S9.ans) (S9.pages.box S9.box (by decide) g9) (fd S9.gr g9 (fun j hj=>by have:=Option.some.inj hj;have:=S9.lw;have:=S9.lb;omega)) S9.la S9.lw (by omega) (.string rr) (.slice ap d.ss.length cp) (.string d.log) (.int .i64 d.syn);have af:Hid (ak _ _ _ _):=a5;have ad:Hid (ed _ _ _ _ _ _):=a6;clear OF hM a0 S9 g9 a5 a6 bg;go_wp2;refine bodyPost_ret (v:=.agg #[.string rr,(.slice ap d.ss.length cp),.string d.log,.int .i64 d.syn]) ?_ rfl ⟨{ d with r:=rr },(.slice ap d.ss.length cp),rfl,af.out,ae.out,ad.out⟩;rw[av rfl];go_simp
     have cb:(q == 2)=false:=by simpa using be
     by_cases bf:q=3
     .subst bf
      have bL:Below w8.heap.size w8 (w8.alloc (.cells #[.string pg7] 9)):=bY _;have a1:Hid (Di7 w (w8.alloc (.cells #[.string pg7] 9)) B b k8 w.heap.size pb (.slice ap d.ss.length cp) d):=a0.out.below bL;have aT:Hid (ak (w8.alloc (.cells #[.string pg7] 9)) w.heap.size (.slice (some ⟨w8.heap.size,0,none⟩) 1 1) [pg7]):=a53 w8 _ _ pg7 rfl (a0.out.gr.size);have ck:=a0.out.ok.pages;have bO:=a0.out.gr.size;obtain⟨a2,a7,a8,aa,ab,ac⟩:=a0.out.box.facts;clear bL;go_wp2_with (at_builtin;refine E9 rfl _ _ rfl w.heap.size w.heap.size (.slice ap d.ss.length cp) (.slice (some ⟨w8.heap.size,0,none⟩) 1 1) d.ss [pg7] rfl rfl a1.out.pages aT.out (by simp;omega) a1.out.gr.size ?_)
      intro v9 w9 r9 g9;obtain⟨a9,c9,bM⟩:=ip r9;subst bM;have b4:Cur w9 B b k8:=a1.out.cur.kept g9 (fun j hj=>Nat.le_trans bb.2 (World.ownsRow.lt a1.out.pages j hj).1);have aG:ba w9 w.heap.size ⟨#[]⟩ (.slice none 0 0) ⟨#[]⟩ 0:=Do a1.out.ans a1.out.pages (by decide) g9;have aH:ba w9 pb d.r (.slice ap d.ss.length cp) d.log d.syn:=Do a1.out.box a1.out.pages (by decide) g9;have b5:w.grownBy w9 (some b):=fd a1.out.gr g9 (fun j hj=>(World.ownsRow.lt a1.out.pages j hj).1);obtain⟨a2,a7,a8,aa,ab,ac⟩:=aH.facts;obtain⟨ag,ax,ay,az,aA,aB⟩:=aG.facts;have a3:¬ pb=w.heap.size:=by have:=a1.out.lb;omega
      have a4:¬ w.heap.size=pb:=fun e=>a3 e.symm
      obtain⟨SS,am⟩:∃ SS,SS=d.ss++[pg7]:=⟨_,rfl⟩
      rw[<- am]at r9 ⊢;have al:=dq w9 pb 1 (.slice a9 SS.length c9);have ae:Hid (Ok7 { d with ss:=SS }):=⟨a1.out.ok.rules,by show SS.length≤_;rw[am];have:=a1.out.lg.2;simp;omega,fun s hs=>by rw[am]at hs;rcases List.mem_append.1 hs with h|h;exact a1.out.ok.page s h;(have:s=pg7:=by simpa using h);subst this;decide,by show q9 SS;rw[am];exact ah0 a1.out.ok.side,a1.out.ok.log⟩;obtain⟨a5,a6⟩:=zq (k0:=k) (m:=20000) (b4.kept al (fun j hj=>by have:=Option.some.inj hj;have:=a1.out.la;have:=a1.out.lb;omega)) (em al a4 aG) (r9.box aH (by decide) al) (fd b5 al (fun j hj=>by have:=Option.some.inj hj;have:=a1.out.lw;have:=a1.out.lb;omega)) a1.out.la a1.out.lw (by omega) (.string d.r) (.slice a9 SS.length c9) (.string d.log) (.int .i64 d.syn);have af:Hid (ak _ _ _ _):=a5;have ad:Hid (ed _ _ _ _ _ _):=a6
      clear a0 a1 aT r9 g9 al a5 a6 b4 aG aH b5 am;go_wp2;refine bodyPost_ret (v:=.agg #[.string d.r,(.slice a9 SS.length c9),.string d.log,.int .i64 d.syn]) ?_ rfl ⟨{ d with ss:=SS },(.slice a9 SS.length c9),rfl,af.out,ae.out,ad.out⟩;rw[av rfl];go_simp
     have cc:(q == 3)=false:=by simpa using bf
     obtain⟨a2,a7,a8,aa,ab,ac⟩:=a0.out.box.facts;obtain⟨ag,ax,ay,az,aA,aB⟩:=a0.out.ans.facts;have a3:¬ pb=w.heap.size:=by have:=a0.out.lb;omega
     have a4:¬ w.heap.size=pb:=fun e=>a3 e.symm
     have ae:Hid (Ok7 d):=a0.out.ok;obtain⟨a5,a6⟩:=zq (k0:=k) (m:=20000) a0.out.cur a0.out.ans a0.out.pages a0.out.gr a0.out.la a0.out.lw (by omega) (.string d.r) (.slice ap d.ss.length cp) (.string d.log) (.int .i64 d.syn);have af:Hid (ak _ _ _ _):=a5;have ad:Hid (ed _ _ _ _ _ _):=a6;clear a5 a6;clear a0;go_wp2;refine bodyPost_ret (v:=.agg #[.string d.r,(.slice ap d.ss.length cp),.string d.log,.int .i64 d.syn]) ?_ rfl ⟨d,(.slice ap d.ss.length cp),rfl,af.out,ae.out,ad.out⟩;rw[av rfl];go_simp
theorem Z1 (kd:Int) (x v:ByteArray) (u:World):(Instr.field 27 (.agg #[.int .i64 kd,.string x,.string v]) 1).run prog u=.ok (.string x) u:=by kernel_rfl
theorem L3 (w:World) (a:Option Addr) (n cap:Nat) (hn:n≤1048576) (h:Ff w a n) :
  Calls prog 20 #[.slice a n cap] w fun e w'=>∃ (d:Ds7) (vp:Value) (lo hi:ByteArray),e=.returned (.tuple #[.agg #[.string d.r,vp,.string d.log,.int .i64 d.syn],.string lo,.string hi])∧ak w' w.heap.size vp d.ss∧Ok7 d∧lo.size≤300∧hi.size≤300∧Below w.heap.size w w':=by
 have bA:Below w.heap.size w (w.alloc (.cells #[.string ⟨#[]⟩,.slice none 0 0,.string ⟨#[]⟩,.int .i64 0] 25)):=bY _;have ah:(w.alloc (.cells #[.string ⟨#[]⟩,.slice none 0 0,.string ⟨#[]⟩,.int .i64 0] 25)).heap.size=w.heap.size+1:=by simp
 have hC:=am0 (w.alloc (.cells #[.string ⟨#[]⟩,.slice none 0 0,.string ⟨#[]⟩,.int .i64 0] 25)) a n cap hn (h.below bA);rw[ah]at hC;obtain⟨W1,a0⟩:∃ W1,W1=(w.alloc (.cells #[.string ⟨#[]⟩,.slice none 0 0,.string ⟨#[]⟩,.int .i64 0] 25)).alloc (.cells #[.slice a n cap,.int .i64 0,.int .u64 0] 67):=⟨_,rfl⟩
 rw[<- a0]at hC;have b1:Below w.heap.size w W1:=by rw[a0];exact bA.alloc (by simp) _
 have ab:ba W1 w.heap.size ⟨#[]⟩ (.slice none 0 0) ⟨#[]⟩ 0:=by
  show _=_
  rw[a0,Below.heap_alloc _ _ _ (by simp)];exact heap_alloc_new w _
 have IX:=U3 W1 (w.heap.size+1+1) (w.heap.size+1) 0 hC (by omega);have a7:Hid (ba W1 w.heap.size ⟨#[]⟩ (.slice none 0 0) ⟨#[]⟩ 0):=ab;have a1:Hid (Below w.heap.size w W1):=b1;have az:W1.heap.size=w.heap.size+2:=by rw[a0];simp
 have aa:Hid (W1=(w.alloc (.cells #[.string ⟨#[]⟩,.slice none 0 0,.string ⟨#[]⟩,.int .i64 0] 25)).alloc (.cells #[.slice a n cap,.int .i64 0,.int .u64 0] 67)):=a0;have av:=Z1;clear h bA ah hC b1 ab a0;go_enter func20,ntmps20;go_wp2_with fail;rw[<- aa.out];refine IX.mono ?_;rintro e w2 ⟨d,vp,rfl,s2,ai,⟨k2,aw,ae⟩,g2⟩;obtain⟨ap,cp,aq⟩:=ip s2;subst aq;have D3:=Io w2 (w.heap.size+1+1) (w.heap.size+1) k2 ae (by omega);have ac:ba w2 w.heap.size ⟨#[]⟩ (.slice none 0 0) ⟨#[]⟩ 0:=em g2 (by omega) a7.out;have a8:Hid (ba w2 w.heap.size ⟨#[]⟩ (.slice none 0 0) ⟨#[]⟩ 0):=ac;have a2:Hid (Below w.heap.size w w2):=Below.grown a1.out g2 a1.out.size (fun j hj=>by have:=Option.some.inj hj;omega);have a4:Hid (ak w2 W1.heap.size (.slice ap d.ss.length cp) d.ss):=s2;have al:Hid (Ok7 d):=ai;clear IX aa a7 a1 s2 g2 ae ac ai;go_wp2_with fail
 refine D3.mono ?_;rintro e w3 ⟨aC,x3,v3,rfl,ar,aA,⟨k3,ax,af⟩,g3⟩;have D4:=Io w3 (w.heap.size+1+1) (w.heap.size+1) k3 af (by omega);have a9:Hid (ba w3 w.heap.size ⟨#[]⟩ (.slice none 0 0) ⟨#[]⟩ 0):=em g3 (by omega) a8.out;have a3:Hid (Below w.heap.size w w3):=Below.grown a2.out g3 a2.out.size (fun j hj=>by have:=Option.some.inj hj;omega);have a5:Hid (ak w3 W1.heap.size (.slice ap d.ss.length cp) d.ss):=World.ownsRow.kept a4.out g3 (J3 a4.out (by omega));clear D3 g3 af a8 a2 a4;go_wp2_with fail;refine D4.mono ?_;rintro e w4 ⟨aD,x4,v4,rfl,au,aB,⟨k4,ay,an⟩,g4⟩;have a6:ba w4 w.heap.size ⟨#[]⟩ (.slice none 0 0) ⟨#[]⟩ 0:=em g4 (by omega) a9.out;have ad:Below w.heap.size w w4:=Below.grown a3.out g4 a3.out.size (fun j hj=>by have:=Option.some.inj hj;omega)
 have ag:ak w4 w.heap.size (.slice ap d.ss.length cp) d.ss:=kq (World.ownsRow.kept a5.out g4 (J3 a5.out (by omega))) (by omega);have am:Hid (ak _ _ _ _):=ag.box a6 (by decide) (lu w4 w.heap.size (.string d.r) (.slice ap d.ss.length cp) (.string d.log) (.int .i64 d.syn));have aj:Hid (Below _ _ _):=jk (p:=w.heap.size) ad bR (.string d.r) (.slice ap d.ss.length cp) (.string d.log) (.int .i64 d.syn);obtain⟨ao,aE,aF,aG,aH,aI⟩:=a6.facts;clear D4 g4 an a9 a3 a5 a6 ad ag;go_wp2;refine bodyPost_ret (v:=.tuple #[.agg #[.string d.r,.slice ap d.ss.length cp,.string d.log,.int .i64 d.syn],.string x3,.string x4]) ?_ rfl ⟨d,.slice ap d.ss.length cp,x3,x4,rfl,am.out,al.out,ar,au,aj.out⟩;rw[f6 rfl];go_simp
theorem ac7 {a b:ByteArray}(h:a.toList=b.toList):a=b:=by
 rw[ByteArray.toList_eq,ByteArray.toList_eq]at h;rcases a with ⟨⟨a⟩⟩;rcases b with ⟨⟨b⟩⟩;simpa using h
theorem Sl {R:RA}(h:ay R.es R.lv=true){x y:ByteArray}(hx:x.size≤200) (hy:y.size≤200):U4 R.es R.sh R.lv x y=mp (bh R x) (bh R y):=by
 unfold U4;rw[gd h hx,gd h hy];rfl
theorem Sk {a b:ByteArray}(h:ltK a b=true):mp a b=-1:=by
 unfold mp;rw[if_pos (show ltS a b=true from h)]
theorem Sj {a b:ByteArray}(h:ltK a b=false):0≤mp a b∧mp a b≤1:=by
 unfold mp;rw[if_neg (show ¬ ltS a b=true from fun c=>by rw[show ltS a b=false from h]at c;cases c)];split <;> omega
structure Hq7 (w u:World) (pd br:Nat) (d:Ds7) (vp ve vL vA:Value) (L l:List Rw) (ty:TypeId) (pv:Value) (pb pl pf pn:Addr):Prop where
 disk:ba u pd d.r vp d.log d.syn
 rul:jf u br ve (aa d.r).sh (aa d.r).lv
 ents:ac u w.heap.size ve (aa d.r).es
 rowsL:Rws u w.heap.size vL L
 rowsA:Rws u w.heap.size vA l
 dk:Dk7 u w.heap.size vp d
 env:qt u ty pv pb pl pf pn
 bel:Below w.heap.size w u
theorem Hq7.below {w u u':World} {pd br:Nat} {d:Ds7} {vp ve vL vA:Value} {L l:List Rw} {ty:TypeId} {pv:Value} {pb pl pf pn:Addr}(h:Hq7 w u pd br d vp ve vL vA L l ty pv pb pl pf pn) (hb:Below u.heap.size u u'):Hq7 w u' pd br d vp ve vL vA L l ty pv pb pl pf pn :=
 ⟨h.disk.below hb,h.rul.below hb,h.ents.below hb,h.rowsL.below hb,h.rowsA.below hb,h.dk.below hb,h.env.below hb,h.bel.trans (hb.mono h.bel.size)⟩
theorem F6 {d:Ds7} {lo hi:ByteArray} {L:List Rw}(h:dw d lo hi=some L):∃ l,cm d=some l∧lo.size≤60∧hi.size≤60∧L=l.filter (inK (bh (aa d.r) lo) (bh (aa d.r) hi)):=by
 unfold dw at h
 cases ho:cm d with
 | none=>rw[ho]at h;cases h
 | some l =>
  rw[ho]at h;have h':(if lo.size≤60∧hi.size≤60 then some (l.filter (inK (bh (aa d.r) lo) (bh (aa d.r) hi))) else none)=some L:=h;split at h'
  .rename_i hc
   cases h'
   exact⟨l,rfl,hc.1,hc.2,rfl⟩
  .cases h'
def qw (L:List Rw) (x:Rw) (j:Nat):Bool:=(L.take j).any (fun y=>decide (y.key=x.key∧y.text=x.text∧y.val=x.val))
theorem a35 {x y:Rw}(h:y.key=x.key∧y.text=x.text∧y.val=x.val):y=x:=by
 cases x;cases y
 obtain⟨h1,h2,h3⟩:=h;simp only at h1 h2 h3;subst h1;subst h2;subst h3;rfl
theorem Xv {L:List Rw} {x y:Rw} {j:Nat}(h:L[j]? = some y):qw L x (j+1)=(qw L x j || decide (y.key=x.key∧y.text=x.text∧y.val=x.val)):=by
 unfold qw;rw[List.take_add_one,h];simp
theorem a66 {l:List Rw} {p:Rw→Bool} {x:Rw}(hx:x ∈ l):qw (l.filter p) x (l.filter p).length=p x:=by
 unfold qw;rw[List.take_length]
 cases hp:p x
 .rw[List.any_eq_false]
  intro y hy;have:=(List.mem_filter.1 hy).2;rw[decide_eq_true_eq];intro c;rw[a35 c,hp]at this
  cases this
 .rw[List.any_eq_true]
  exact⟨x,List.mem_filter.2 ⟨hx,hp⟩,by simp⟩
theorem Rk (w:World) (a:Option Addr) (n cap:Nat) (hn:1048576<n) (_:n≤9223372036854775807):Calls prog 5 #[.slice a n cap] w fun e w'=>e=.returned (.bool true)∧Below w.heap.size w w':=by
 have a0:(1048576:Int)<(n:Int):=by omega
 go_enter func5,ntmps5;go_wp2;go_ret;exact⟨rfl,bX⟩
theorem Rl (w:World) (a:Option Addr) (n cap:Nat) (hn:n≤1048576) (h:Ff w a n){ty:TypeId} {pv:Value} {pb pl pf pn:Addr}(hE:qt w ty pv pb pl pf pn) :
  Calls prog 5 #[.slice a n cap] w fun e w'=>e=.returned (.bool true)∧Below w.heap.size w w':=by
 have DR:=L3 w a n cap hn h;have aB:Hid (∀ u,Below w.heap.size w u→qt u ty pv pb pl pf pn):=fun u hu=>hE.below hu
 have cq:¬ (1048576:Int)<(n:Int):=by omega
 clear h hE;go_enter func5,ntmps5;go_wp2_with fail;refine DR.mono ?_;rintro e w1 ⟨d,vp,lo,hi,rfl,s1,c2,co,cn,b1⟩;obtain⟨ap,cp,ci⟩:=ip s1;subst ci;obtain⟨pd,bo⟩:∃ pd,pd=w1.heap.size:=⟨_,rfl⟩
 obtain⟨w2,aJ⟩:∃ w2,w2=w1.alloc (.cells #[.string d.r,.slice ap d.ss.length cp,.string d.log,.int .i64 d.syn] 25):=⟨_,rfl⟩
 have a9:Below w1.heap.size w1 w2:=by rw[aJ];exact bY _
 have bi:ba w2 pd d.r (.slice ap d.ss.length cp) d.log d.syn:=by rw[aJ,bo];exact ba.new w1 _ _ _ _
 have bg:Below w.heap.size w w2:=b1.trans (a9.mono b1.size);have aV:Hid (Dk7 w2 w.heap.size (.slice ap d.ss.length cp) d):=⟨s1.below a9,c2⟩;have bF:Hid (ba w2 pd d.r (.slice ap d.ss.length cp) d.log d.syn):=bi;have az:Hid (Below w.heap.size w w2):=bg;have bR:Hid (w1.alloc (.cells #[.string d.r,.slice ap d.ss.length cp,.string d.log,.int .i64 d.syn] 25)=w2):=aJ.symm;have bK:Hid (w1.heap.size=pd):=bo.symm;have IR:=L9 Oc lo hi (by omega) (by omega) aV.out (aB.out w2 bg);obtain⟨ah,d0,d1,d2,d3,df⟩:=bi.facts;clear DR s1 c2 b1 a9 bo aJ bi bg;go_upto_region 4 with fail
 rw[bR.out,bK.out];clear bR bK;go_wp2_with fail;refine IR.mono ?_;rintro e w3 ⟨v3,rfl,r3,b3⟩;have aW:Hid (Dk7 w3 w.heap.size (.slice ap d.ss.length cp) d):=aV.out.below b3;have aS:Hid (ba w3 pd d.r (.slice ap d.ss.length cp) d.log d.syn):=bF.out.below b3;have aR:Hid (Below w.heap.size w w3):=az.out.trans (b3.mono az.out.size);have bO:Hid (Rws w3 w.heap.size v3 ((dw d lo hi).getD [])):=cz r3 az.out.size;have SR:=Lj lo hi (by omega) (by omega) aW.out;obtain⟨ah,d0,d1,d2,d3,df⟩:=aS.out.facts;clear IR r3 b3 aV bF az;go_wp2_with fail;refine SR.mono ?_;rintro e w4 ⟨v4,rfl,r4,b4⟩;have an:Hid (Dk7 w4 w.heap.size (.slice ap d.ss.length cp) d):=aW.out.below b4;have bG:Hid (ba w4 pd d.r (.slice ap d.ss.length cp) d.log d.syn):=aS.out.below b4;have al:Hid (Below w.heap.size w w4):=aR.out.trans (b4.mono aR.out.size)
 have aC:Hid (Rws w4 w.heap.size v3 ((dw d lo hi).getD [])):=bO.out.below b4;have a8:Hid (((dw d lo hi).getD []).length≤60):=by
  show _≤_
  cases ho:dw d lo hi with
  | none=>simp
  | some L =>
   obtain⟨l,h1,_,_,h4⟩:=F6 ho;rw[h4];exact Nat.le_trans (List.length_filter_le _ _) (jz an.out.ok (l8 h1).2).len
 have aG:=a8.out;have SM:=a39 (by omega) aC.out r4;clear SR r4 b4 aW aS aR bO
 cases ho:dw d lo hi with
 | none =>
  have hz:((none:Option (List Rw)).isSome)=false:=rfl;clear ho a8 aG aB;go_wp2_with fail;refine SM.mono ?_;rintro e w5 ⟨rfl,b5⟩;have ab:Hid (Below w.heap.size w w5):=al.out.trans (b5.mono al.out.size);clear SM b5;go_wp2;go_ret;exact⟨rfl,ab.out⟩
 | some L =>
  rw[ho]at aC aG;have hz:((some L:Option (List Rw)).isSome)=true:=rfl;obtain⟨l,aH,cd,cl,bX⟩:=F6 ho;have bj:=jz an.out.ok (l8 aH).2;have a5:=nu (l8 aH).2;have bJ:Hid (cm d=some l):=aH;have c7:Hid (L=l.filter (inK (bh (aa d.r) lo) (bh (aa d.r) hi))):=bX;have bb:Hid (im (aa d.r) l):=bj;have ca:L.length≤60:=aG;have bn:=bj.len;have bp:Rws w4 w.heap.size v3 L:=aC.out;obtain⟨aL,cL,cg⟩:=bz bp;subst cg;have bP:Hid (Rws w4 w.heap.size (.slice aL L.length cL) L):=bp;have bQ:Hid (∀ u,Below w4.heap.size w4 u→Calls prog 23 #[.string d.r] u fun e w'=>∃ vE,e=.returned (.tuple #[.agg #[vE,.bool (aa d.r).sh,.int .i64 (aa d.r).lv],.int .i64 (aa d.r).code])∧ac w' u.heap.size vE (aa d.r).es∧Below u.heap.size u w'):=fun u _=>Fy d.r u (by have:=an.out.ok.rules;omega)
  clear ho a8 aG aH bX bj bp aC;go_wp2_with fail;refine SM.mono ?_;rintro e w5 ⟨rfl,b5⟩;have RR:=bQ.out w5 b5;have bI:Hid (Dk7 w5 w.heap.size (.slice ap d.ss.length cp) d):=an.out.below b5;have aT:Hid (ba w5 pd d.r (.slice ap d.ss.length cp) d.log d.syn):=bG.out.below b5;have ab:Hid (Below w.heap.size w w5):=al.out.trans (b5.mono al.out.size);have aq:Hid (Rws w5 w.heap.size (.slice aL L.length cL) L):=bP.out.below b5;obtain⟨ah,d0,d1,d2,d3,df⟩:=aT.out.facts;generalize (aa d.r).code=cde at *;clear SM b5 bQ an bG al bP;go_wp2_with fail;refine RR.mono ?_;rintro e w6 ⟨ve,rfl,e6,b6⟩;obtain⟨va,vc,ch⟩:=cu e6;subst ch;obtain⟨br,hbr⟩:∃ br,br=w6.heap.size:=⟨_,rfl⟩
  obtain⟨w7,aK⟩:∃ w7,w7=w6.alloc (.cells #[.slice va (aa d.r).es.length vc,.bool (aa d.r).sh,.int .i64 (aa d.r).lv] 56):=⟨_,rfl⟩
  have bf:Below w6.heap.size w6 w7:=by rw[aK];exact bY _
  have ax:=b6.trans (bf.mono b6.size);have au:Hid (jf w7 br (.slice va (aa d.r).es.length vc) (aa d.r).sh (aa d.r).lv):=by show _=_;rw[aK,hbr];exact heap_alloc_new w6 _
  have bH:Hid (ac w7 w.heap.size (.slice va (aa d.r).es.length vc) (aa d.r).es):=(ac.low e6 ab.out.size).below bf;have aX:Hid (Dk7 w7 w.heap.size (.slice ap d.ss.length cp) d):=bI.out.below ax;have aU:Hid (ba w7 pd d.r (.slice ap d.ss.length cp) d.log d.syn):=aT.out.below ax;have ad:Hid (Below w.heap.size w w7):=ab.out.trans (ax.mono ab.out.size);have ar:Hid (Rws w7 w.heap.size (.slice aL L.length cL) L):=aq.out.below ax;have OR:=Vy aX.out;rw[show fu d=some l from (l8 bJ.out).2]at OR;have bU:Calls prog 11 #[.agg #[.string d.r,(.slice ap d.ss.length cp),.string d.log,.int .i64 d.syn]] w7 fun e w'=>∃ v,e=.returned (.tuple #[v,.bool true])∧Rws w' w7.heap.size v l∧Below w7.heap.size w7 w':=OR
  have bS:Hid (w6.alloc (.cells #[.slice va (aa d.r).es.length vc,.bool (aa d.r).sh,.int .i64 (aa d.r).lv] 56)=w7):=aK.symm;have bC:Hid (w6.heap.size=br):=hbr.symm;obtain⟨ah,d0,d1,d2,d3,df⟩:=aU.out.facts;clear RR e6 b6 bf ax aK hbr OR bI aT ab aq;go_upto_region 11 with fail
  rw[bS.out,bC.out];clear bS bC;go_wp2_with fail;refine bU.mono ?_;rintro e w8 ⟨v8,rfl,r8,b8⟩;obtain⟨aA,cA,ce⟩:=bz r8;subst ce;have c8:Hid (Hq7 w w8 pd br d (.slice ap d.ss.length cp) (.slice va (aa d.r).es.length vc) (.slice aL L.length cL) (.slice aA l.length cA) L l ty pv pb pl pf pn):=⟨aU.out.below b8,au.out.below b8,bH.out.below b8,ar.out.below b8,cz r8 ad.out.size,aX.out.below b8,aB.out w8 (ad.out.trans (b8.mono ad.out.size)),ad.out.trans (b8.mono ad.out.size)⟩;clear bU r8 b8 aB au bH aX aU ad ar d0 d1 d2 d3 df ah;go_wp2_with fail;go_loopw [76] (fun i wr=>∃ k:Nat,k≤l.length∧i=.int .i64 (k:Int)∧Hq7 w wr pd br d (.slice ap d.ss.length cp) (.slice va (aa d.r).es.length vc) (.slice aL L.length cL) (.slice aA l.length cA) L l ty pv pb pl pf pn) (fun i _=>l.length-(intOf i).toNat)
  case atStart=>exact⟨0,Nat.zero_le _,rfl,c8.out⟩
  case round =>
   obtain⟨k,hk,rfl,hQ⟩:=hrel;by_cases cc:k<l.length
   .obtain⟨x,hx⟩:∃ x,l[k]? = some x:=by exact⟨_,List.getElem?_eq_getElem cc⟩
    have aN:=List.mem_of_getElem? hx;rcases ew hQ.rowsA with h0|⟨bA,oA,rfl,bW⟩
    .rw[h0]at hx;simp at hx
    obtain⟨a0,a1,a2⟩:=bW k x hx;have aE:=ag a0;have cb:(k:Int)<(l.length:Int):=by omega
    have cr:=(bb.out.sz x aN).1;have bt:=bb.out.key x aN;have b1:Below wr.heap.size wr (wr.alloc (.cells #[.string x.key,.string x.text,.string x.val] 37)):=bY _;have a4:=hQ.below b1;obtain⟨w9,aM⟩:∃ w9,w9=wr.alloc (.cells #[.string x.key,.string x.text,.string x.val] 37):=⟨_,rfl⟩
    rw[<- aM]at a4;have ao:Hid (Hq7 w w9 pd br d (.slice ap d.ss.length cp) (.slice va (aa d.r).es.length vc) (.slice aL L.length cL) (.slice (some ⟨bA,oA,none⟩) l.length cA) L l ty pv pb pl pf pn):=a4;obtain⟨bx,bk⟩:∃ bx,bx=wr.heap.size:=⟨_,rfl⟩
    have aD:Hid (di w9 bx x):=by show di w9 bx x;rw[aM,bk];exact ky wr x
    have bT:Hid (wr.alloc (.cells #[.string x.key,.string x.text,.string x.val] 37)=w9):=aM.symm;have bD:Hid (wr.heap.size=bx):=bk.symm;have C1:=Ep (sh:=(aa d.r).sh) (lv:=(aa d.r).lv) x.text (by omega) lo (by omega) a4.ents (nd a5) a4.env.tabs;rw[gd a5 (show x.text.size≤200 by omega),gd a5 (show lo.size≤200 by omega),Sl a5 (by omega) (by omega),bt]at C1;have bE:Hid (∀ u,Hq7 w u pd br d (.slice ap d.ss.length cp) (.slice va (aa d.r).es.length vc) (.slice aL L.length cL) (.slice (some ⟨bA,oA,none⟩) l.length cA) L l ty pv pb pl pf pn→Calls prog 24 #[.agg #[(.slice va (aa d.r).es.length vc),.bool (aa d.r).sh,.int .i64 (aa d.r).lv],.string x.text,.string hi] u fun e w'=>e=.returned (.tuple #[.int .i64 (mp x.key (bh (aa d.r) hi)),.bool true])∧Below u.heap.size u w'):=fun u hu=>by
     have q:=Ep (sh:=(aa d.r).sh) (lv:=(aa d.r).lv) x.text (by omega) hi (by omega) hu.ents (nd a5) hu.env.tabs;rw[gd a5 (show x.text.size≤200 by omega),gd a5 (show hi.size≤200 by omega),Sl a5 (by omega) (by omega),bt]at q;exact q
    have bw:Calls prog 24 #[.agg #[(.slice va (aa d.r).es.length vc),.bool (aa d.r).sh,.int .i64 (aa d.r).lv],.string x.text,.string lo] w9 fun e w'=>e=.returned (.tuple #[.int .i64 (mp x.key (bh (aa d.r) lo)),.bool true])∧Below w9.heap.size w9 w':=C1
    have bB:Hid (qw L x L.length=inK (bh (aa d.r) lo) (bh (aa d.r) hi) x):=by show _=_;rw[c7.out];exact a66 aN
    generalize bh (aa d.r) lo=from_ at *;generalize bh (aa d.r) hi=to_ at *;obtain⟨aI,aO,aP,aQ⟩:=a4.rul.facts;obtain⟨e0,e1,e2⟩:=aD.out.cells;have bl:=aD.out.lt;clear hQ a4 b1 hx bW C1 bt aM bk aN;go_upto_region 15 with fail
    rw[bT.out,bD.out];clear bT bD;go_wp2_with fail;refine bw.mono ?_;rintro e aj ⟨rfl,af⟩;have a3:Hid (Hq7 w aj pd br d (.slice ap d.ss.length cp) (.slice va (aa d.r).es.length vc) (.slice aL L.length cL) (.slice (some ⟨bA,oA,none⟩) l.length cA) L l ty pv pb pl pf pn):=ao.out.below af;have a6:Hid (di aj bx x):=aD.out.below af;have C2:=bE.out aj a3.out;obtain⟨aI,aO,aP,aQ⟩:=a3.out.rul.facts;obtain⟨e0,e1,e2⟩:=a6.out.cells;have bl:=a6.out.lt;obtain⟨sa,bq⟩:∃ sa,sa=mp x.key from_:=⟨_,rfl⟩
    rw[<- bq];have av:Hid (sa=mp x.key from_):=bq;clear bw af ao aD bE bq;go_wp2_with fail;refine C2.mono ?_;rintro e c3 ⟨rfl,be⟩;have aY:Hid (Hq7 w c3 pd br d (.slice ap d.ss.length cp) (.slice va (aa d.r).es.length vc) (.slice aL L.length cL) (.slice (some ⟨bA,oA,none⟩) l.length cA) L l ty pv pb pl pf pn):=a3.out.below be;have bc:Hid (di c3 bx x):=a6.out.below be;obtain⟨sb,bs⟩:∃ sb,sb=mp x.key to_:=⟨_,rfl⟩
    rw[<- bs];have aw:Hid (sb=mp x.key to_):=bs;clear C2 be a3 a6 bs aO aP aQ aI e0 e1 e2 bl a0 a1 a2 aE;go_wp2_with fail;go_loopw [20,98] (fun vi i wr=>∃ j:Nat,j≤L.length∧i=.int .i64 (j:Int)∧vi=.bool (qw L x j)∧di wr bx x∧Hq7 w wr pd br d (.slice ap d.ss.length cp) (.slice va (aa d.r).es.length vc) (.slice aL L.length cL) (.slice (some ⟨bA,oA,none⟩) l.length cA) L l ty pv pb pl pf pn) (fun _ i _=>L.length-(intOf i).toNat)
    case atStart=>exact⟨0,Nat.zero_le _,rfl,by simp[qw],bc.out,aY.out⟩
    case round =>
     obtain⟨j,hj,rfl,rfl,hX,hQ⟩:=hrel;by_cases bm:j<L.length
     .obtain⟨y,hy⟩:∃ y,L[j]? = some y:=by exact⟨_,List.getElem?_eq_getElem bm⟩
      rcases ew hQ.rowsL with h0|⟨bL,oL,rfl,ay⟩
      .rw[h0]at hy;simp at hy
      obtain⟨a0,a1,a2⟩:=ay j y hy;have aE:=ag a0;have bZ:(j:Int)<(L.length:Int):=by omega
      obtain⟨e0,e1,e2⟩:=hX.cells;have bl:=hX.lt;have ae:Hid (qw L x (j+1)=(qw L x j || decide (y.key=x.key∧y.text=x.text∧y.val=x.val))):=Xv hy;have bd:Hid (∀ o,di (wr.alloc o) bx x):=fun o=>hX.below (bY o)
      have b2:Hid (∀ o,Hq7 w (wr.alloc o) pd br d (.slice ap d.ss.length cp) (.slice va (aa d.r).es.length vc) (.slice (some ⟨bL,oL,none⟩) L.length cL) (.slice (some ⟨bA,oA,none⟩) l.length cA) L l ty pv pb pl pf pn):=fun o=>hQ.below (bY o)
      clear hQ hX hy ay;generalize qw L x j=am at *
      cases am
      .by_cases ai:y.key=x.key∧y.text=x.text∧y.val=x.val
       .have HV:Hid (qw L x (j+1)=true):=by show _=_;rw[ae.out,decide_eq_true ai];rfl
        have cj:=a35 ai;subst cj;clear ae ai;go_wp2;exact⟨⟨j+1,by omega,by go_num,by rw[HV.out],bd.out _,b2.out _⟩,by simp[intOf];omega⟩
       .have HV:Hid (qw L x (j+1)=false):=by show _=_;rw[ae.out,decide_eq_false ai];rfl
        have c9:Hid (¬ (y.key=x.key∧y.text=x.text∧y.val=x.val)):=ai;clear ae ai;go_wp2;all_goals first
         | (exfalso;refine c9.out ⟨?_,?_,?_⟩ <;> (apply ac7;assumption))
         | exact⟨⟨j+1,by omega,by go_num,by rw[HV.out],bd.out _,b2.out _⟩,by simp[intOf];omega⟩
      .have HV:Hid (qw L x (j+1)=true):=by show _=_;rw[ae.out];rfl
       clear ae;go_wp2;exact⟨⟨j+1,by omega,by go_num,by rw[HV.out],bd.out _,b2.out _⟩,by simp[intOf];omega⟩
     .obtain rfl:j=L.length:=by omega
      have b0:Hid (Hq7 w wr pd br d (.slice ap d.ss.length cp) (.slice va (aa d.r).es.length vc) (.slice aL L.length cL) (.slice (some ⟨bA,oA,none⟩) l.length cA) L l ty pv pb pl pf pn):=hQ;have ak:=bB.out;rw[ak];clear hQ hX bB ak
      cases hlo_:ltK x.key from_
      .obtain⟨g1,g2⟩:=Sj hlo_
       rw[<- av.out]at g1 g2
       cases hhi_:ltK x.key to_
       .obtain⟨g3,g4⟩:=Sj hhi_
        rw[<- aw.out]at g3 g4;have a7:inK from_ to_ x=false:=by unfold inK;rw[hlo_,hhi_];rfl
        rw[a7];clear hlo_ hhi_ a7 av aw;go_wp2;exact⟨⟨k+1,by omega,by go_num,b0.out⟩,by simp[intOf];omega⟩
       .have g3:=Sk hhi_
        rw[<- aw.out]at g3;have a7:inK from_ to_ x=true:=by unfold inK;rw[hlo_,hhi_];rfl
        rw[a7];clear av aw;subst g3;clear hlo_ hhi_ a7;go_wp2;exact⟨⟨k+1,by omega,by go_num,b0.out⟩,by simp[intOf];omega⟩
      .have g3:=Sk hlo_
       rw[<- av.out]at g3;have a7:inK from_ to_ x=false:=by unfold inK;rw[hlo_];rfl
       rw[a7];clear av aw;subst g3;clear hlo_ a7;go_wp2;exact⟨⟨k+1,by omega,by go_num,b0.out⟩,by simp[intOf];omega⟩
   .have cb:¬ (k:Int)<(l.length:Int):=by omega
    obtain⟨w9,rfl⟩:∃ w9,w9=wr:=⟨_,rfl⟩
    have bM:Hid (Hq7 w w9 pd br d (.slice ap d.ss.length cp) (.slice va (aa d.r).es.length vc) (.slice aL L.length cL) (.slice aA l.length cA) L l ty pv pb pl pf pn):=hQ;have PR:=Nf Oc lo (by omega) hQ.dk hQ.env;have c0:te d lo=some (l.filter (fun x=>ww (aa d.r).es (aa d.r).sh (aa d.r).lv x.text lo)):=by
     unfold te;rw[bJ.out];show (if _ then _ else _)=_
     rw[if_pos cd]
    rw[c0]at PR;obtain⟨F,hF⟩:∃ F,F=l.filter (fun x=>ww (aa d.r).es (aa d.r).sh (aa d.r).lv x.text lo):=⟨_,rfl⟩
    rw[<- hF]at PR;have bV:Calls prog 25 #[.agg #[.string d.r,(.slice ap d.ss.length cp),.string d.log,.int .i64 d.syn],.string lo] w9 fun e w'=>∃ v,e=.returned (.tuple #[v,.bool true])∧Rws w' w9.heap.size v F∧Below w9.heap.size w9 w':=PR
    have c6:Hid (∀ x ∈ F,x.text.size≤60∧ww (aa d.r).es (aa d.r).sh (aa d.r).lv x.text lo=true):=fun x hx=>by
     rw[hF]at hx;exact⟨(bb.out.sz x (List.mem_filter.1 hx).1).1,(List.mem_filter.1 hx).2⟩
    have ck:F.length≤60:=by rw[hF];exact Nat.le_trans (List.length_filter_le _ _) bn
    obtain⟨ah,d0,d1,d2,d3,df⟩:=hQ.disk.facts;clear hQ PR c0 hF;go_wp2_with fail;refine bV.mono ?_;rintro e aj ⟨ct,rfl,bu,af⟩;obtain⟨aF,cF,cf⟩:=bz bu;subst cf;have a3:Hid (Hq7 w aj pd br d (.slice ap d.ss.length cp) (.slice va (aa d.r).es.length vc) (.slice aL L.length cL) (.slice aA l.length cA) L l ty pv pb pl pf pn):=bM.out.below af;have b7:Hid (Rws aj w9.heap.size (.slice aF F.length cF) F):=bu;clear bV bu af bM d0 d1 d2 d3 df ah;go_wp2_with fail;go_loopw [136] (fun i wr=>∃ j:Nat,j≤F.length∧i=.int .i64 (j:Int)∧Rws wr w9.heap.size (.slice aF F.length cF) F∧Hq7 w wr pd br d (.slice ap d.ss.length cp) (.slice va (aa d.r).es.length vc) (.slice aL L.length cL) (.slice aA l.length cA) L l ty pv pb pl pf pn) (fun i _=>F.length-(intOf i).toNat)
    case atStart=>exact⟨0,Nat.zero_le _,rfl,b7.out,a3.out⟩
    case round =>
     obtain⟨j,hj,rfl,hR,hQ⟩:=hrel;by_cases bm:j<F.length
     .obtain⟨y,hy⟩:∃ y,F[j]? = some y:=by exact⟨_,List.getElem?_eq_getElem bm⟩
      rcases ew hR with h0|⟨b,o,rfl,ay⟩
      .rw[h0]at hy;simp at hy
      obtain⟨a0,a1,a2⟩:=ay j y hy;have aE:=ag a0;have bZ:(j:Int)<(F.length:Int):=by omega
      obtain⟨cs,c1⟩:=c6.out y (List.mem_of_getElem? hy);have b1:Below wr.heap.size wr (wr.alloc (.cells #[.string y.key,.string y.text,.string y.val] 37)):=bY _;have a4:=hQ.below b1;have BG:=Bo (sh:=(aa d.r).sh) (lv:=(aa d.r).lv) y.text (by omega) lo (by omega) a4.ents (nd a5) a4.env.tabs;rw[gd a5 (show y.text.size≤200 by omega),gd a5 (show lo.size≤200 by omega),c1]at BG;have bv:Calls prog 26 #[.agg #[(.slice va (aa d.r).es.length vc),.bool (aa d.r).sh,.int .i64 (aa d.r).lv],.string y.text,.string lo] (wr.alloc (.cells #[.string y.key,.string y.text,.string y.val] 37)) fun e w'=>e=.returned (.tuple #[.bool true,.bool true])∧Below (wr.alloc (.cells #[.string y.key,.string y.text,.string y.val] 37)).heap.size (wr.alloc (.cells #[.string y.key,.string y.text,.string y.val] 37)) w':=BG
      obtain⟨aI,aO,aP,aQ⟩:=hQ.rul.facts;have ao:Hid (Hq7 w (wr.alloc (.cells #[.string y.key,.string y.text,.string y.val] 37)) pd br d (.slice ap d.ss.length cp) (.slice va (aa d.r).es.length vc) (.slice aL L.length cL) (.slice aA l.length cA) L l ty pv pb pl pf pn):=a4;have bN:Hid (Rws (wr.alloc (.cells #[.string y.key,.string y.text,.string y.val] 37)) w9.heap.size (.slice (some ⟨b,o,none⟩) F.length cF) F):=hR.below b1;clear hQ a4 hR b1 BG hy ay c1;go_wp2_with fail;refine bv.mono ?_;rintro e c4 ⟨rfl,a9⟩;have aZ:Hid (Hq7 w c4 pd br d (.slice ap d.ss.length cp) (.slice va (aa d.r).es.length vc) (.slice aL L.length cL) (.slice aA l.length cA) L l ty pv pb pl pf pn):=ao.out.below a9;have b9:Hid (Rws c4 w9.heap.size (.slice (some ⟨b,o,none⟩) F.length cF) F):=bN.out.below a9;clear bv a9 ao bN aO aP aQ aI a0 a1 a2 aE;go_wp2
      exact⟨⟨j+1,by omega,by go_num,b9.out,aZ.out⟩,by simp[intOf];omega⟩
     .have bZ:¬ (j:Int)<(F.length:Int):=by omega
      have c5:Hid (Below w.heap.size w wr):=hQ.bel;clear hQ hR;go_wp2;go_ret;exact⟨rfl,c5.out⟩
end Go.Proofs.YtjbmgghehdemdaaGreatDoor
