/- DrawDo7 -/
import Derived.Test.YtjbmgghehdemdaaGreatDoorMT38
namespace Go.Proofs.YtjbmgghehdemdaaGreatDoor
set_option maxRecDepth 100000
set_option maxHeartbeats 16000000
open _root_.Go.Proofs.Tryz
open Go.RowKit
structure Dd7 (w u:World) (B b k pa pb:Nat) (kd:Int) (x v:ByteArray):Prop where
 cur:Cur u B b k
 ans:gi u pa 0 ⟨#[]⟩ ⟨#[]⟩
 box:gi u pb kd x v
 gr:w.grownBy u (some b)
 la:B≤pa
 lw:w.heap.size≤pa
 lb:pa<pb
theorem Dd7.moved {w u u':World} {B b k pa pb m:Nat} {kd:Int} {x v:ByteArray}(h:Dd7 w u B b k pa pb kd x v) (hM:ed u u' B b k m):∃ k',k'≤k+m∧Dd7 w u' B b k' pa pb kd x v:=by
 obtain⟨⟨k',hk,hC⟩,g⟩:=hM;have hl:=h.cur.lt;have h1:=h.la;have h2:=h.lb;exact⟨k',hk,hC,em g (by omega) h.ans,em g (by omega) h.box,bu h.gr g,h.la,h.lw,h.lb⟩
theorem Dd7.below {w u u':World} {B b k pa pb:Nat} {kd:Int} {x v:ByteArray}(h:Dd7 w u B b k pa pb kd x v) (hb:Below u.heap.size u u'):Dd7 w u' B b k pa pb kd x v :=
 have g:u.grownBy u' none:=⟨hb.os,hb.tape,hb.output,hb.size,fun i hi _=>hb.block i hi⟩;⟨h.cur.kept g (fun _ hj=>by cases hj),h.ans.below hb,h.box.below hb,fd h.gr g (fun _ hj=>by cases hj),h.la,h.lw,h.lb⟩
theorem Dd7.grew {w u u':World} {B b k pa pb p:Nat} {kd a0:Int} {x v x' v':ByteArray}(h:Dd7 w u B b k pa pb kd x v) (g:u.grownBy u' (some p)) (hp:p=pb) (hb:gi u' pb a0 x' v'):Dd7 w u' B b k pa pb a0 x' v' :=
 have h1:=h.la;have h2:=h.lb;have h3:=h.lw;⟨h.cur.kept g (fun j hj=>by have:=Option.some.inj hj;omega),em g (by omega) h.ans,hb,fd h.gr g (fun j hj=>by have:=Option.some.inj hj;omega),h.la,h.lw,h.lb⟩
theorem gi.setN {u:World} {p:Nat} {k:Int} {x y:ByteArray}(h:gi u p k x y) (k':Int):gi (u.setCell ⟨p,0,none⟩ (.int .i64 k')) p k' x y:=by
 have e:=heap_setCell_same u p 0 _ _ (.int .i64 k') h;show _=_
 rw[e];simp
theorem gi.setX {u:World} {p:Nat} {k:Int} {x y:ByteArray}(h:gi u p k x y) (x':ByteArray):gi (u.setCell ⟨p,1,none⟩ (.string x')) p k x' y:=by
 have e:=heap_setCell_same u p 1 _ _ (.string x') h;show _=_
 rw[e];simp
theorem gi.setV {u:World} {p:Nat} {k:Int} {x y:ByteArray}(h:gi u p k x y) (y':ByteArray):gi (u.setCell ⟨p,2,none⟩ (.string y')) p k x y':=by
 have e:=heap_setCell_same u p 2 _ _ (.string y') h;show _=_
 rw[e];simp
theorem gi.free {u:World} {p:Nat} {k:Int} {x y:ByteArray}(h:gi u p k x y) (j:Nat):u.frozen? ⟨p,j,none⟩=false:=frozen_of_row _ _ j _ _ h
theorem Dd7.setN {w u:World} {B b k pa pb:Nat} {kd:Int} {x v:ByteArray}(h:Dd7 w u B b k pa pb kd x v) (k':Int):Dd7 w (u.setCell ⟨pb,0,none⟩ (.int .i64 k')) B b k pa pb k' x v:=h.grew (dq u pb 0 _) rfl (h.box.setN k')
theorem Dd7.setX {w u:World} {B b k pa pb:Nat} {kd:Int} {x v:ByteArray}(h:Dd7 w u B b k pa pb kd x v) (x':ByteArray):Dd7 w (u.setCell ⟨pb,1,none⟩ (.string x')) B b k pa pb kd x' v:=h.grew (dq u pb 1 _) rfl (h.box.setX x')
theorem Dd7.setV {w u:World} {B b k pa pb:Nat} {kd:Int} {x v:ByteArray}(h:Dd7 w u B b k pa pb kd x v) (v':ByteArray):Dd7 w (u.setCell ⟨pb,2,none⟩ (.string v')) B b k pa pb kd x v':=h.grew (dq u pb 2 _) rfl (h.box.setV v')
theorem Dd7.done {w u:World} {B b k pa pb k0 m:Nat} {kd:Int} {x v:ByteArray}(h:Dd7 w u B b k pa pb kd x v) (hk:k≤k0+m) (a1 a2 a3:Value):ed w (Gb u pa a1 a2 a3) B b k0 m :=
 have g:=Ib u pa a1 a2 a3;have h1:=h.la;have h3:=h.lw;⟨⟨k,hk,h.cur.kept g (fun j hj=>by have:=Option.some.inj hj;omega)⟩,fd h.gr g (fun j hj=>by have:=Option.some.inj hj;omega)⟩
theorem Re (n:Nat):(madeCells (Value.int .u8 0).cells (n*1)).toList=(List.replicate n (0:Int)).map (Value.int .u8):=by
 have h:=toList_madeCells_one (Value.int .u8 0) n;simpa [Value.cells] using h
theorem p8 {w:World} {B m g:Nat}(h:w.ownsRow B 5 1 (.slice (some ⟨g,0,none⟩) m m) m (madeCells (Value.int .u8 0).cells (m*1)).toList) :
  (convert 22 9 (.slice (some ⟨g,0,none⟩) m m)).run prog w=.ok (.string (ix (List.replicate m (0:Int)))) w:=by
 rw[Re]at h;exact xb (B:=B) (by unfold Bys;simpa using h)
theorem np (xs:List Int):(ix xs).size=xs.length:=by
 show (xs.map fun x=>x.toNat.toUInt8).toArray.size=xs.length
 simp
theorem Vi:(prog.info? 5).map (fun i=>(i.zero,i.size,i.bytes))=some (some (.int .u8 0),1,1):=by kernel_rfl
theorem Sr (zs:List Int):(jw zs).length≤4*zs.length:=by
 have:=C9 zs zs.length;rwa [List.take_length]at this
def doT:List ByteArray:=[⟨#[97]⟩,⟨#[65]⟩,⟨#[97,98]⟩,⟨#[195,169]⟩,⟨#[101,204,129]⟩,⟨#[99,104]⟩,⟨#[99]⟩]
def doV:List ByteArray:=[⟨#[]⟩,⟨#[49]⟩,⟨#[116,119,111]⟩,⟨#[118,97,108,117,101]⟩]
theorem Yi:∀ s ∈ doT,s.size≤10:=by decide
theorem at1:∀ s ∈ doV,s.size≤10:=by decide
theorem Io (w:World) (B b k:Nat) (h:Cur w B b k) (hk:k≤600000000) :
  Calls prog 28 #[.pointer (some ⟨b,0,none⟩)] w fun e w'=>∃ (kd:Int) (x v:ByteArray),e=.returned (.agg #[.int .i64 kd,.string x,.string v])∧x.size≤300∧v.size≤300∧ed w w' B b k 200:=by
 obtain⟨i0,hi,aH,aI,aJ⟩:=info_parts Vi;have bp:=h.lt;have bA:Below w.heap.size w (w.alloc (.cells #[.int .i64 0,.string ⟨#[]⟩,.string ⟨#[]⟩] 27)):=bY _;have bL:Below w.heap.size w ((w.alloc (.cells #[.int .i64 0,.string ⟨#[]⟩,.string ⟨#[]⟩] 27)).alloc (.cells #[.int .i64 1,.int .i64 1,.int .i64 1,.int .i64 1,.int .i64 2,.int .i64 3,.int .i64 4] 3)):=bA.alloc (by simp) _;have gL:w.grownBy ((w.alloc (.cells #[.int .i64 0,.string ⟨#[]⟩,.string ⟨#[]⟩] 27)).alloc (.cells #[.int .i64 1,.int .i64 1,.int .i64 1,.int .i64 1,.int .i64 2,.int .i64 3,.int .i64 4] 3)) none:=⟨bL.os,bL.tape,bL.output,bL.size,fun i hi _=>bL.block i hi⟩;have ba:=h.kept gL (fun _ hj=>by cases hj)
 have hL:((w.alloc (.cells #[.int .i64 0,.string ⟨#[]⟩,.string ⟨#[]⟩] 27)).alloc (.cells #[.int .i64 1,.int .i64 1,.int .i64 1,.int .i64 1,.int .i64 2,.int .i64 3,.int .i64 4] 3)).heap[w.heap.size+1]? = some (.cells #[.int .i64 1,.int .i64 1,.int .i64 1,.int .i64 1,.int .i64 2,.int .i64 3,.int .i64 4] 3):=by
  have q:=heap_alloc_new (w.alloc (.cells #[.int .i64 0,.string ⟨#[]⟩,.string ⟨#[]⟩] 27)) (.cells #[.int .i64 1,.int .i64 1,.int .i64 1,.int .i64 1,.int .i64 2,.int .i64 3,.int .i64 4] 3);rw[World.size_alloc]at q;exact q
 have b8:Hid (gi ((w.alloc (.cells #[.int .i64 0,.string ⟨#[]⟩,.string ⟨#[]⟩] 27)).alloc (.cells #[.int .i64 1,.int .i64 1,.int .i64 1,.int .i64 1,.int .i64 2,.int .i64 3,.int .i64 4] 3)) w.heap.size 0 ⟨#[]⟩ ⟨#[]⟩):=by
  show _=_
  rw[Below.heap_alloc _ _ _ (by simp)];exact heap_alloc_new w _
 have A1:=qj ((w.alloc (.cells #[.int .i64 0,.string ⟨#[]⟩,.string ⟨#[]⟩] 27)).alloc (.cells #[.int .i64 1,.int .i64 1,.int .i64 1,.int .i64 1,.int .i64 2,.int .i64 3,.int .i64 4] 3)) B b k ba (by omega) (w.heap.size+1) 7 7 [1,1,1,1,2,3,4] rfl (by omega) (by omega) (by simp) (by omega) (fun j hj=>by rcases (show j=0∨j=1∨j=2∨j=3∨j=4∨j=5∨j=6 by omega) with rfl|rfl|rfl|rfl|rfl|rfl|rfl <;> exact cell_of_row _ _ _ _ _ _ hL);have aF:Hid (w.grownBy ((w.alloc (.cells #[.int .i64 0,.string ⟨#[]⟩,.string ⟨#[]⟩] 27)).alloc (.cells #[.int .i64 1,.int .i64 1,.int .i64 1,.int .i64 1,.int .i64 2,.int .i64 3,.int .i64 4] 3)) none):=gL;clear h bA bL gL ba hL;go_enter func28,ntmps28;go_wp2_with fail;refine A1.mono ?_;rintro e w2 ⟨kd,rfl,aZ,⟨k2,bv,b2⟩,g2⟩;have bw:=b2.lt
 have b9:w.grownBy w2 (some b):=⟨g2.os.trans aF.out.os,g2.tape.trans aF.out.tape,g2.output.trans aF.out.output,Nat.le_trans aF.out.size g2.size,fun i hi hn=>(g2.block i (Nat.lt_of_lt_of_le hi aF.out.size) hn).trans (aF.out.block i hi (by simp))⟩;have b1:gi w2 w.heap.size 0 ⟨#[]⟩ ⟨#[]⟩:=em g2 (by omega) b8.out;have aL:=b1.facts.1;have aG:Hid (∀ kd:Int,Dd7 w (w2.alloc (.cells #[.int .i64 kd,.string ⟨#[]⟩,.string ⟨#[]⟩] 27)) B b k2 w.heap.size w2.heap.size kd ⟨#[]⟩ ⟨#[]⟩):=fun kd=>by
  have bB:Below w2.heap.size w2 (w2.alloc (.cells #[.int .i64 kd,.string ⟨#[]⟩,.string ⟨#[]⟩] 27)):=bY _;have gB:w2.grownBy (w2.alloc (.cells #[.int .i64 kd,.string ⟨#[]⟩,.string ⟨#[]⟩] 27)) none:=⟨bB.os,bB.tape,bB.output,bB.size,fun i hi _=>bB.block i hi⟩;exact⟨b2.kept gB (fun _ hj=>by cases hj),b1.below bB,heap_alloc_new w2 _,fd b9 gB (fun _ hj=>by cases hj),bp.2,bR,aL⟩
 obtain⟨pb,bg⟩:∃ pb,pb=w2.heap.size:=⟨_,rfl⟩
 have au:Hid (pb=w2.heap.size):=bg;clear A1 aF b8 b2 g2 b9 b1 aL bg;have b6:kd=1∨kd=2∨kd=3∨kd=4:=by
  simp at aZ;omega
 clear aZ;rcases b6 with rfl|rfl|aZ
 .have S3:=aG.out 1
  rw[<- au.out]at S3;have aM:∃ w3,w3=w2.alloc (.cells #[.int .i64 1,.string ⟨#[]⟩,.string ⟨#[]⟩] 27):=⟨_,rfl⟩
  obtain⟨w3,ar⟩:=aM;have ax:Hid (w2.alloc (.cells #[.int .i64 1,.string ⟨#[]⟩,.string ⟨#[]⟩] 27)=w3):=ar.symm;rw[<- ar]at S3;have ak:Hid (Dd7 w w3 B b k2 w.heap.size pb 1 ⟨#[]⟩ ⟨#[]⟩):=S3;clear aG ar;go_upto_region 2 with fail
  rw[ax.out,<- au.out];clear ax au;obtain⟨a3,ab,ac,ad⟩:=S3.box.facts;have a2:=S3.box.free;clear S3;have R3:=D0 _ B b k2 4 ak.out.cur (by omega) (by omega);go_wp2_with fail;refine R3.mono ?_;rintro e w4 ⟨v4,zs,rfl,i4,bt,aN,hM⟩;obtain⟨k4,bl,S4⟩:=ak.out.moved hM;have EN:=xm (by omega) i4 aN;have b3:=Sr zs;have aK:Hid (Dd7 w w4 B b k4 w.heap.size pb 1 ⟨#[]⟩ ⟨#[]⟩):=S4;clear R3 hM ak S4 i4 aN;go_wp2_with fail;refine EN.mono ?_;rintro e w5 ⟨rfl,b5⟩;have S5:=aK.out.below b5;obtain⟨a3,ab,ac,ad⟩:=S5.box.facts;have a2:=S5.box.free;have b7:(⟨(jw zs).toArray⟩:ByteArray).size≤16:=by show (jw zs).toArray.size≤16;simp;omega
  generalize (⟨(jw zs).toArray⟩:ByteArray)=tx at *;have a0:Hid (Dd7 w (w5.setCell ⟨pb,1,none⟩ (.string tx)) B b k4 w.heap.size pb 1 tx ⟨#[]⟩):=S5.setX tx;have O6:=uj _ B b k4 a0.out.cur (by omega) 2 (by omega) (by omega);clear EN b5 S5 aK b3;go_wp2_with fail;refine O6.mono ?_;rintro e w7 ⟨bo,rfl,hM⟩;obtain⟨k7,aj,S7⟩:=a0.out.moved hM;have aa:Hid (Dd7 w w7 B b k7 w.heap.size pb 1 tx ⟨#[]⟩):=S7;clear O6 hM a0 S7;go_upto_if 21 with fail
  go_cut [] from 22 to 25 (fun wx=>∃ (k8:Nat) (t8:ByteArray),k8≤k7+2∧t8.size≤16∧Dd7 w wx B b k8 w.heap.size pb 1 t8 ⟨#[]⟩)
  case first =>
   cases bo
   .go_wp2
    go_meet
    case rel=>exact⟨k7,tx,by omega,b7,aa.out⟩
   .have OF:=uh w7 B b k7 aa.out.cur (by omega) doT 7 rfl (by omega) (by omega) _ rfl
    go_wp2_with fail;refine OF.mono ?_;rintro e w8 ⟨s8,rfl,aP,hM⟩;obtain⟨k8,b4,S8⟩:=aa.out.moved hM;have br:=Yi s8 aP;obtain⟨a3,ab,ac,ad⟩:=S8.box.facts;have a2:=S8.box.free;have al:Hid (Dd7 w (w8.setCell ⟨pb,1,none⟩ (.string s8)) B b k8 w.heap.size pb 1 s8 ⟨#[]⟩):=S8.setX s8;clear OF hM S8 aa aP;go_wp2;go_meet
    case rel=>exact⟨k8,s8,by omega,by omega,al.out⟩
  case rest =>
   obtain⟨k8,t8,b4,bs,S8⟩:=hcut;have al:Hid (Dd7 w wc B b k8 w.heap.size pb 1 t8 ⟨#[]⟩):=S8;obtain⟨a3,ab,ac,ad⟩:=S8.box.facts;have a2:=S8.box.free;obtain⟨w9,rfl⟩:∃ w9,w9=wc:=⟨_,rfl⟩
   clear S8 aa;have OV:=uh w9 B b k8 al.out.cur (by omega) doV 4 rfl (by omega) (by omega) _ rfl;go_wp2_with fail;refine OV.mono ?_;rintro e bu ⟨a9,rfl,aO,hM⟩;obtain⟨bj,bk,aY⟩:=al.out.moved hM;have bq:=at1 a9 aO;obtain⟨a3,ab,ac,ad⟩:=aY.box.facts;have a2:=aY.box.free;have b0:Hid (Dd7 w (bu.setCell ⟨pb,2,none⟩ (.string a9)) B b bj w.heap.size pb 1 t8 a9):=aY.setV a9;clear OV hM aY al aO;have P5:=ep _ B b bj b0.out.cur (by omega) 40 (by omega) (by omega);go_wp2_with fail;refine P5.mono ?_;rintro e w6 ⟨q,rfl,q0,q1,hM⟩;obtain⟨k6,bf,S6⟩:=b0.out.moved hM;have a0:Hid (Dd7 w w6 B b k6 w.heap.size pb 1 t8 a9):=S6;clear P5 hM b0 S6;by_cases ay:q=0
   .subst ay
    have P7:=ep w6 B b k6 a0.out.cur (by omega) 2 (by omega) (by omega);go_wp2_with fail;refine P7.mono ?_;rintro e w7 ⟨y,rfl,y0,y1,hM⟩;obtain⟨k7,aj,S7⟩:=a0.out.moved hM;clear P7 hM a0;obtain⟨y,rfl⟩:=Int.eq_ofNat_of_zero_le y0;have hy:y≤1:=by omega
    have aQ:=S7.cur.lt;have a1:¬ pb=w.heap.size:=by have:=S7.lb;omega
    have a8:¬ w.heap.size=pb:=fun e=>a1 e.symm
    have aa:Hid (Dd7 w w7 B b k7 w.heap.size pb 1 t8 a9):=S7;clear y0 y1 S7;go_wp2_with (at_make;refine wpList_make_full _ rfl _ _ 22 rfl B 5 i0 (.int .u8 0) 1 underlying22 hi aH aI .i64 .i64 _ _ (60+y) rfl rfl (by omega) (by omega) (by rw[aJ];omega) (by unfold maxLen;omega) (by omega) ?_;intro w8 a4 ag;have V:=p8 a4;have ah:=np (List.replicate (60+y) 0);rw[List.length_replicate]at ah;generalize ix (List.replicate (60+y) 0)=mk_ at V ah;have S8:=aa.out.below (Below.grown bX ag bR (fun j hj=>by cases hj));obtain⟨ap,aS,aT,aU⟩:=S8.box.facts;have ao:=S8.box.free;obtain⟨an,aV,aW,aX⟩:=S8.ans.facts;have am:=S8.ans.free)
    have S9:=S8.setX mk_;have a5:Hid (ed _ _ _ _ _ _):=S9.done (k0:=k) (m:=200) (by omega) (.int .i64 1) (.string mk_) (.string a9);have a7:Hid (mk_.size≤300):=by show _≤_;first|omega|exact Nat.zero_le _
    have a6:Hid (a9.size≤300):=by show _≤_;first|omega|exact Nat.zero_le _
    clear a4 ag S8 S9;go_wp2;refine bodyPost_ret (v:=.agg #[.int .i64 1,.string mk_,.string a9]) ?_ rfl ⟨1,mk_,a9,rfl,a7.out,a6.out,a5.out⟩;rw[av rfl];go_simp
   by_cases az:q=1
   .subst az
    have P7:=ep w6 B b k6 a0.out.cur (by omega) 2 (by omega) (by omega);go_wp2_with fail;refine P7.mono ?_;rintro e w7 ⟨y,rfl,y0,y1,hM⟩;obtain⟨k7,aj,S7⟩:=a0.out.moved hM;clear P7 hM a0;obtain⟨y,rfl⟩:=Int.eq_ofNat_of_zero_le y0;have hy:y≤1:=by omega
    have aQ:=S7.cur.lt;have a1:¬ pb=w.heap.size:=by have:=S7.lb;omega
    have a8:¬ w.heap.size=pb:=fun e=>a1 e.symm
    have aa:Hid (Dd7 w w7 B b k7 w.heap.size pb 1 t8 a9):=S7;clear y0 y1 S7;go_wp2_with (at_make;refine wpList_make_full _ rfl _ _ 22 rfl B 5 i0 (.int .u8 0) 1 underlying22 hi aH aI .i64 .i64 _ _ (60+y) rfl rfl (by omega) (by omega) (by rw[aJ];omega) (by unfold maxLen;omega) (by omega) ?_;intro w8 a4 ag;have V:=p8 a4;have ah:=np (List.replicate (60+y) 0);rw[List.length_replicate]at ah;generalize ix (List.replicate (60+y) 0)=mk_ at V ah;have S8:=aa.out.below (Below.grown bX ag bR (fun j hj=>by cases hj));obtain⟨ap,aS,aT,aU⟩:=S8.box.facts;have ao:=S8.box.free;obtain⟨an,aV,aW,aX⟩:=S8.ans.facts;have am:=S8.ans.free)
    have S9:=S8.setV mk_;have a5:Hid (ed _ _ _ _ _ _):=S9.done (k0:=k) (m:=200) (by omega) (.int .i64 1) (.string t8) (.string mk_);have a7:Hid (t8.size≤300):=by show _≤_;first|omega|exact Nat.zero_le _
    have a6:Hid (mk_.size≤300):=by show _≤_;first|omega|exact Nat.zero_le _
    clear a4 ag S8 S9;go_wp2;refine bodyPost_ret (v:=.agg #[.int .i64 1,.string t8,.string mk_]) ?_ rfl ⟨1,t8,mk_,rfl,a7.out,a6.out,a5.out⟩;rw[av rfl];go_simp
   have bb:(q == 0)=false:=by simpa using ay
   have bc:(q == 1)=false:=by simpa using az
   by_cases aA:q=2
   .subst aA
    have bL:Below w6.heap.size w6 (w6.alloc (.cells #[.int .i64 0,.int .i64 5] 3)):=bY _;have SL:=a0.out.below bL;have hL:=heap_alloc_new w6 (.cells #[.int .i64 0,.int .i64 5] 3);have aR:=SL.cur.lt;have bh:=a0.out.cur.lt;have A7:=qj (w6.alloc (.cells #[.int .i64 0,.int .i64 5] 3)) B b k6 SL.cur (by omega) w6.heap.size 2 2 [0,5] rfl (by omega) (by omega) (by simp) (by omega) (fun j hj=>by rcases (show j=0∨j=1 by omega) with rfl|rfl <;> exact cell_of_row _ _ _ _ _ _ hL);have aw:Hid (Dd7 w (w6.alloc (.cells #[.int .i64 0,.int .i64 5] 3)) B b k6 w.heap.size pb 1 t8 a9):=SL;clear bL SL hL aR a0;go_wp2_with fail;refine A7.mono ?_;rintro e w7 ⟨ai,rfl,aq,hM⟩;obtain⟨k7,aj,S7⟩:=aw.out.moved hM;obtain⟨a3,ab,ac,ad⟩:=S7.box.facts;have a2:=S7.box.free;obtain⟨af,aC,aD,aE⟩:=S7.ans.facts;have ae:=S7.ans.free
    have a1:¬ pb=w.heap.size:=by have:=S7.lb;omega
    have a8:¬ w.heap.size=pb:=fun e=>a1 e.symm
    have S9:=S7.setN ai;have a5:Hid (ed _ _ _ _ _ _):=S9.done (k0:=k) (m:=200) (by omega) (.int .i64 ai) (.string t8) (.string a9);have a7:Hid (t8.size≤300):=by show _≤_;first|omega|exact Nat.zero_le _
    have a6:Hid (a9.size≤300):=by show _≤_;first|omega|exact Nat.zero_le _
    clear A7 hM aw S7 S9 aq;go_wp2;refine bodyPost_ret (v:=.agg #[.int .i64 ai,.string t8,.string a9]) ?_ rfl ⟨ai,t8,a9,rfl,a7.out,a6.out,a5.out⟩;rw[av rfl];go_simp
   have bd:(q == 2)=false:=by simpa using aA
   by_cases aB:q=3
   .subst aB
    have T7:=Ge w6 B b k6 a0.out.cur (by omega);go_wp2_with fail;refine T7.mono ?_;rintro e w7 ⟨tx,rfl,bi,hM⟩;obtain⟨k7,aj,S7⟩:=a0.out.moved hM;obtain⟨a3,ab,ac,ad⟩:=S7.box.facts;have a2:=S7.box.free;obtain⟨af,aC,aD,aE⟩:=S7.ans.facts;have ae:=S7.ans.free;have a1:¬ pb=w.heap.size:=by have:=S7.lb;omega
    have a8:¬ w.heap.size=pb:=fun e=>a1 e.symm
    have S9:=S7.setX tx;have a5:Hid (ed _ _ _ _ _ _):=S9.done (k0:=k) (m:=200) (by omega) (.int .i64 1) (.string tx) (.string a9);have a7:Hid (tx.size≤300):=by show _≤_;first|omega|exact Nat.zero_le _
    have a6:Hid (a9.size≤300):=by show _≤_;first|omega|exact Nat.zero_le _
    clear T7 hM a0 S7 S9;go_wp2;refine bodyPost_ret (v:=.agg #[.int .i64 1,.string tx,.string a9]) ?_ rfl ⟨1,tx,a9,rfl,a7.out,a6.out,a5.out⟩;rw[av rfl];go_simp
   have be:(q == 3)=false:=by simpa using aB
   obtain⟨a3,ab,ac,ad⟩:=a0.out.box.facts;have a2:=a0.out.box.free;obtain⟨af,aC,aD,aE⟩:=a0.out.ans.facts;have ae:=a0.out.ans.free;have a1:¬ pb=w.heap.size:=by have:=a0.out.lb;omega
   have a8:¬ w.heap.size=pb:=fun e=>a1 e.symm
   have a5:Hid (ed _ _ _ _ _ _):=a0.out.done (k0:=k) (m:=200) (by omega) (.int .i64 1) (.string t8) (.string a9);have a7:Hid (t8.size≤300):=by show _≤_;first|omega|exact Nat.zero_le _
   have a6:Hid (a9.size≤300):=by show _≤_;first|omega|exact Nat.zero_le _
   clear a0;go_wp2;refine bodyPost_ret (v:=.agg #[.int .i64 1,.string t8,.string a9]) ?_ rfl ⟨1,t8,a9,rfl,a7.out,a6.out,a5.out⟩;rw[av rfl];go_simp
 .have S3:=aG.out 2
  rw[<- au.out]at S3;have aM:∃ w3,w3=w2.alloc (.cells #[.int .i64 2,.string ⟨#[]⟩,.string ⟨#[]⟩] 27):=⟨_,rfl⟩
  obtain⟨w3,ar⟩:=aM;have ax:Hid (w2.alloc (.cells #[.int .i64 2,.string ⟨#[]⟩,.string ⟨#[]⟩] 27)=w3):=ar.symm;rw[<- ar]at S3;have ak:Hid (Dd7 w w3 B b k2 w.heap.size pb 2 ⟨#[]⟩ ⟨#[]⟩):=S3;clear aG ar;go_upto_region 2 with fail
  rw[ax.out,<- au.out];clear ax au;obtain⟨a3,ab,ac,ad⟩:=S3.box.facts;have a2:=S3.box.free;clear S3;have R3:=D0 _ B b k2 4 ak.out.cur (by omega) (by omega);go_wp2_with fail;refine R3.mono ?_;rintro e w4 ⟨v4,zs,rfl,i4,bt,aN,hM⟩;obtain⟨k4,bl,S4⟩:=ak.out.moved hM;have EN:=xm (by omega) i4 aN;have b3:=Sr zs;have aK:Hid (Dd7 w w4 B b k4 w.heap.size pb 2 ⟨#[]⟩ ⟨#[]⟩):=S4;clear R3 hM ak S4 i4 aN;go_wp2_with fail;refine EN.mono ?_;rintro e w5 ⟨rfl,b5⟩;have S5:=aK.out.below b5;obtain⟨a3,ab,ac,ad⟩:=S5.box.facts;have a2:=S5.box.free;have b7:(⟨(jw zs).toArray⟩:ByteArray).size≤16:=by show (jw zs).toArray.size≤16;simp;omega
  generalize (⟨(jw zs).toArray⟩:ByteArray)=tx at *;have a0:Hid (Dd7 w (w5.setCell ⟨pb,1,none⟩ (.string tx)) B b k4 w.heap.size pb 2 tx ⟨#[]⟩):=S5.setX tx;have O6:=uj _ B b k4 a0.out.cur (by omega) 2 (by omega) (by omega);clear EN b5 S5 aK b3;go_wp2_with fail;refine O6.mono ?_;rintro e w7 ⟨bo,rfl,hM⟩;obtain⟨k7,aj,S7⟩:=a0.out.moved hM;have aa:Hid (Dd7 w w7 B b k7 w.heap.size pb 2 tx ⟨#[]⟩):=S7;clear O6 hM a0 S7;go_upto_if 21 with fail
  go_cut [] from 22 to 25 (fun wx=>∃ (k8:Nat) (t8:ByteArray),k8≤k7+2∧t8.size≤16∧Dd7 w wx B b k8 w.heap.size pb 2 t8 ⟨#[]⟩)
  case first =>
   cases bo
   .go_wp2
    go_meet
    case rel=>exact⟨k7,tx,by omega,b7,aa.out⟩
   .have OF:=uh w7 B b k7 aa.out.cur (by omega) doT 7 rfl (by omega) (by omega) _ rfl
    go_wp2_with fail;refine OF.mono ?_;rintro e w8 ⟨s8,rfl,aP,hM⟩;obtain⟨k8,b4,S8⟩:=aa.out.moved hM;have br:=Yi s8 aP;obtain⟨a3,ab,ac,ad⟩:=S8.box.facts;have a2:=S8.box.free;have al:Hid (Dd7 w (w8.setCell ⟨pb,1,none⟩ (.string s8)) B b k8 w.heap.size pb 2 s8 ⟨#[]⟩):=S8.setX s8;clear OF hM S8 aa aP;go_wp2;go_meet
    case rel=>exact⟨k8,s8,by omega,by omega,al.out⟩
  case rest =>
   obtain⟨k8,t8,b4,bs,S8⟩:=hcut;have al:Hid (Dd7 w wc B b k8 w.heap.size pb 2 t8 ⟨#[]⟩):=S8;obtain⟨a3,ab,ac,ad⟩:=S8.box.facts;have a2:=S8.box.free;obtain⟨w9,rfl⟩:∃ w9,w9=wc:=⟨_,rfl⟩
   clear S8 aa;have P5:=ep w9 B b k8 al.out.cur (by omega) 40 (by omega) (by omega);go_wp2_with fail;refine P5.mono ?_;rintro e w6 ⟨q,rfl,q0,q1,hM⟩;obtain⟨k6,bf,S6⟩:=al.out.moved hM;have a0:Hid (Dd7 w w6 B b k6 w.heap.size pb 2 t8 ⟨#[]⟩):=S6;clear P5 hM al S6;by_cases ay:q=0
   .subst ay
    have P7:=ep w6 B b k6 a0.out.cur (by omega) 2 (by omega) (by omega);go_wp2_with fail;refine P7.mono ?_;rintro e w7 ⟨y,rfl,y0,y1,hM⟩;obtain⟨k7,aj,S7⟩:=a0.out.moved hM;clear P7 hM a0;obtain⟨y,rfl⟩:=Int.eq_ofNat_of_zero_le y0;have hy:y≤1:=by omega
    have aQ:=S7.cur.lt;have a1:¬ pb=w.heap.size:=by have:=S7.lb;omega
    have a8:¬ w.heap.size=pb:=fun e=>a1 e.symm
    have aa:Hid (Dd7 w w7 B b k7 w.heap.size pb 2 t8 ⟨#[]⟩):=S7;clear y0 y1 S7;go_wp2_with (at_make;refine wpList_make_full _ rfl _ _ 22 rfl B 5 i0 (.int .u8 0) 1 underlying22 hi aH aI .i64 .i64 _ _ (60+y) rfl rfl (by omega) (by omega) (by rw[aJ];omega) (by unfold maxLen;omega) (by omega) ?_;intro w8 a4 ag;have V:=p8 a4;have ah:=np (List.replicate (60+y) 0);rw[List.length_replicate]at ah;generalize ix (List.replicate (60+y) 0)=mk_ at V ah;have S8:=aa.out.below (Below.grown bX ag bR (fun j hj=>by cases hj));obtain⟨ap,aS,aT,aU⟩:=S8.box.facts;have ao:=S8.box.free;obtain⟨an,aV,aW,aX⟩:=S8.ans.facts;have am:=S8.ans.free)
    have S9:=S8.setX mk_;have a5:Hid (ed _ _ _ _ _ _):=S9.done (k0:=k) (m:=200) (by omega) (.int .i64 2) (.string mk_) (.string ⟨#[]⟩);have a7:Hid (mk_.size≤300):=by show _≤_;first|omega|exact Nat.zero_le _
    have a6:Hid ((⟨#[]⟩:ByteArray).size≤300):=by show _≤_;first|omega|exact Nat.zero_le _
    clear a4 ag S8 S9;go_wp2;refine bodyPost_ret (v:=.agg #[.int .i64 2,.string mk_,.string ⟨#[]⟩]) ?_ rfl ⟨2,mk_,⟨#[]⟩,rfl,a7.out,a6.out,a5.out⟩;rw[av rfl];go_simp
   by_cases az:q=1
   .subst az
    have P7:=ep w6 B b k6 a0.out.cur (by omega) 2 (by omega) (by omega);go_wp2_with fail;refine P7.mono ?_;rintro e w7 ⟨y,rfl,y0,y1,hM⟩;obtain⟨k7,aj,S7⟩:=a0.out.moved hM;clear P7 hM a0;obtain⟨y,rfl⟩:=Int.eq_ofNat_of_zero_le y0;have hy:y≤1:=by omega
    have aQ:=S7.cur.lt;have a1:¬ pb=w.heap.size:=by have:=S7.lb;omega
    have a8:¬ w.heap.size=pb:=fun e=>a1 e.symm
    have aa:Hid (Dd7 w w7 B b k7 w.heap.size pb 2 t8 ⟨#[]⟩):=S7;clear y0 y1 S7;go_wp2_with (at_make;refine wpList_make_full _ rfl _ _ 22 rfl B 5 i0 (.int .u8 0) 1 underlying22 hi aH aI .i64 .i64 _ _ (60+y) rfl rfl (by omega) (by omega) (by rw[aJ];omega) (by unfold maxLen;omega) (by omega) ?_;intro w8 a4 ag;have V:=p8 a4;have ah:=np (List.replicate (60+y) 0);rw[List.length_replicate]at ah;generalize ix (List.replicate (60+y) 0)=mk_ at V ah;have S8:=aa.out.below (Below.grown bX ag bR (fun j hj=>by cases hj));obtain⟨ap,aS,aT,aU⟩:=S8.box.facts;have ao:=S8.box.free;obtain⟨an,aV,aW,aX⟩:=S8.ans.facts;have am:=S8.ans.free)
    have S9:=S8.setV mk_;have a5:Hid (ed _ _ _ _ _ _):=S9.done (k0:=k) (m:=200) (by omega) (.int .i64 2) (.string t8) (.string mk_);have a7:Hid (t8.size≤300):=by show _≤_;first|omega|exact Nat.zero_le _
    have a6:Hid (mk_.size≤300):=by show _≤_;first|omega|exact Nat.zero_le _
    clear a4 ag S8 S9;go_wp2;refine bodyPost_ret (v:=.agg #[.int .i64 2,.string t8,.string mk_]) ?_ rfl ⟨2,t8,mk_,rfl,a7.out,a6.out,a5.out⟩;rw[av rfl];go_simp
   have bb:(q == 0)=false:=by simpa using ay
   have bc:(q == 1)=false:=by simpa using az
   by_cases aA:q=2
   .subst aA
    have bL:Below w6.heap.size w6 (w6.alloc (.cells #[.int .i64 0,.int .i64 5] 3)):=bY _;have SL:=a0.out.below bL;have hL:=heap_alloc_new w6 (.cells #[.int .i64 0,.int .i64 5] 3);have aR:=SL.cur.lt;have bh:=a0.out.cur.lt;have A7:=qj (w6.alloc (.cells #[.int .i64 0,.int .i64 5] 3)) B b k6 SL.cur (by omega) w6.heap.size 2 2 [0,5] rfl (by omega) (by omega) (by simp) (by omega) (fun j hj=>by rcases (show j=0∨j=1 by omega) with rfl|rfl <;> exact cell_of_row _ _ _ _ _ _ hL);have aw:Hid (Dd7 w (w6.alloc (.cells #[.int .i64 0,.int .i64 5] 3)) B b k6 w.heap.size pb 2 t8 ⟨#[]⟩):=SL;clear bL SL hL aR a0;go_wp2_with fail;refine A7.mono ?_;rintro e w7 ⟨ai,rfl,aq,hM⟩;obtain⟨k7,aj,S7⟩:=aw.out.moved hM;obtain⟨a3,ab,ac,ad⟩:=S7.box.facts;have a2:=S7.box.free;obtain⟨af,aC,aD,aE⟩:=S7.ans.facts;have ae:=S7.ans.free
    have a1:¬ pb=w.heap.size:=by have:=S7.lb;omega
    have a8:¬ w.heap.size=pb:=fun e=>a1 e.symm
    have S9:=S7.setN ai;have a5:Hid (ed _ _ _ _ _ _):=S9.done (k0:=k) (m:=200) (by omega) (.int .i64 ai) (.string t8) (.string ⟨#[]⟩);have a7:Hid (t8.size≤300):=by show _≤_;first|omega|exact Nat.zero_le _
    have a6:Hid ((⟨#[]⟩:ByteArray).size≤300):=by show _≤_;first|omega|exact Nat.zero_le _
    clear A7 hM aw S7 S9 aq;go_wp2;refine bodyPost_ret (v:=.agg #[.int .i64 ai,.string t8,.string ⟨#[]⟩]) ?_ rfl ⟨ai,t8,⟨#[]⟩,rfl,a7.out,a6.out,a5.out⟩;rw[av rfl];go_simp
   have bd:(q == 2)=false:=by simpa using aA
   by_cases aB:q=3
   .subst aB
    have T7:=Ge w6 B b k6 a0.out.cur (by omega);go_wp2_with fail;refine T7.mono ?_;rintro e w7 ⟨tx,rfl,bi,hM⟩;obtain⟨k7,aj,S7⟩:=a0.out.moved hM;obtain⟨a3,ab,ac,ad⟩:=S7.box.facts;have a2:=S7.box.free;obtain⟨af,aC,aD,aE⟩:=S7.ans.facts;have ae:=S7.ans.free;have a1:¬ pb=w.heap.size:=by have:=S7.lb;omega
    have a8:¬ w.heap.size=pb:=fun e=>a1 e.symm
    have S9:=S7.setX tx;have a5:Hid (ed _ _ _ _ _ _):=S9.done (k0:=k) (m:=200) (by omega) (.int .i64 2) (.string tx) (.string ⟨#[]⟩);have a7:Hid (tx.size≤300):=by show _≤_;first|omega|exact Nat.zero_le _
    have a6:Hid ((⟨#[]⟩:ByteArray).size≤300):=by show _≤_;first|omega|exact Nat.zero_le _
    clear T7 hM a0 S7 S9;go_wp2;refine bodyPost_ret (v:=.agg #[.int .i64 2,.string tx,.string ⟨#[]⟩]) ?_ rfl ⟨2,tx,⟨#[]⟩,rfl,a7.out,a6.out,a5.out⟩;rw[av rfl];go_simp
   have be:(q == 3)=false:=by simpa using aB
   obtain⟨a3,ab,ac,ad⟩:=a0.out.box.facts;have a2:=a0.out.box.free;obtain⟨af,aC,aD,aE⟩:=a0.out.ans.facts;have ae:=a0.out.ans.free;have a1:¬ pb=w.heap.size:=by have:=a0.out.lb;omega
   have a8:¬ w.heap.size=pb:=fun e=>a1 e.symm
   have a5:Hid (ed _ _ _ _ _ _):=a0.out.done (k0:=k) (m:=200) (by omega) (.int .i64 2) (.string t8) (.string ⟨#[]⟩);have a7:Hid (t8.size≤300):=by show _≤_;first|omega|exact Nat.zero_le _
   have a6:Hid ((⟨#[]⟩:ByteArray).size≤300):=by show _≤_;first|omega|exact Nat.zero_le _
   clear a0;go_wp2;refine bodyPost_ret (v:=.agg #[.int .i64 2,.string t8,.string ⟨#[]⟩]) ?_ rfl ⟨2,t8,⟨#[]⟩,rfl,a7.out,a6.out,a5.out⟩;rw[av rfl];go_simp
 .have bm:(kd == 1)=false:=by simp;omega
  have bn:(kd == 2)=false:=by simp;omega
  clear aZ;have S3:=aG.out kd;rw[<- au.out]at S3;have aM:∃ w3,w3=w2.alloc (.cells #[.int .i64 kd,.string ⟨#[]⟩,.string ⟨#[]⟩] 27):=⟨_,rfl⟩
  obtain⟨w3,ar⟩:=aM;have ax:Hid (w2.alloc (.cells #[.int .i64 kd,.string ⟨#[]⟩,.string ⟨#[]⟩] 27)=w3):=ar.symm;rw[<- ar]at S3;have ak:Hid (Dd7 w w3 B b k2 w.heap.size pb kd ⟨#[]⟩ ⟨#[]⟩):=S3;clear aG ar;go_upto_region 2 with fail
  rw[ax.out,<- au.out];clear ax au;obtain⟨a3,ab,ac,ad⟩:=S3.box.facts;have a2:=S3.box.free;clear S3;have P5:=ep w3 B b k2 ak.out.cur (by omega) 40 (by omega) (by omega);go_wp2_with fail;refine P5.mono ?_;rintro e w6 ⟨q,rfl,q0,q1,hM⟩;obtain⟨k6,bf,S6⟩:=ak.out.moved hM;have a0:Hid (Dd7 w w6 B b k6 w.heap.size pb kd ⟨#[]⟩ ⟨#[]⟩):=S6;clear P5 hM ak S6;by_cases ay:q=0
  .subst ay
   have P7:=ep w6 B b k6 a0.out.cur (by omega) 2 (by omega) (by omega);go_wp2_with fail;refine P7.mono ?_;rintro e w7 ⟨y,rfl,y0,y1,hM⟩;obtain⟨k7,aj,S7⟩:=a0.out.moved hM;clear P7 hM a0;obtain⟨y,rfl⟩:=Int.eq_ofNat_of_zero_le y0;have hy:y≤1:=by omega
   have aQ:=S7.cur.lt;have a1:¬ pb=w.heap.size:=by have:=S7.lb;omega
   have a8:¬ w.heap.size=pb:=fun e=>a1 e.symm
   have aa:Hid (Dd7 w w7 B b k7 w.heap.size pb kd ⟨#[]⟩ ⟨#[]⟩):=S7;clear y0 y1 S7;go_wp2_with (at_make;refine wpList_make_full _ rfl _ _ 22 rfl B 5 i0 (.int .u8 0) 1 underlying22 hi aH aI .i64 .i64 _ _ (60+y) rfl rfl (by omega) (by omega) (by rw[aJ];omega) (by unfold maxLen;omega) (by omega) ?_;intro w8 a4 ag;have V:=p8 a4;have ah:=np (List.replicate (60+y) 0);rw[List.length_replicate]at ah;generalize ix (List.replicate (60+y) 0)=mk_ at V ah;have S8:=aa.out.below (Below.grown bX ag bR (fun j hj=>by cases hj));obtain⟨ap,aS,aT,aU⟩:=S8.box.facts;have ao:=S8.box.free;obtain⟨an,aV,aW,aX⟩:=S8.ans.facts;have am:=S8.ans.free)
   have S9:=S8.setX mk_;have a5:Hid (ed _ _ _ _ _ _):=S9.done (k0:=k) (m:=200) (by omega) (.int .i64 kd) (.string mk_) (.string ⟨#[]⟩);have a7:Hid (mk_.size≤300):=by show _≤_;first|omega|exact Nat.zero_le _
   have a6:Hid ((⟨#[]⟩:ByteArray).size≤300):=by show _≤_;first|omega|exact Nat.zero_le _
   clear a4 ag S8 S9;go_wp2;refine bodyPost_ret (v:=.agg #[.int .i64 kd,.string mk_,.string ⟨#[]⟩]) ?_ rfl ⟨kd,mk_,⟨#[]⟩,rfl,a7.out,a6.out,a5.out⟩;rw[av rfl];go_simp
  by_cases az:q=1
  .subst az
   have P7:=ep w6 B b k6 a0.out.cur (by omega) 2 (by omega) (by omega);go_wp2_with fail;refine P7.mono ?_;rintro e w7 ⟨y,rfl,y0,y1,hM⟩;obtain⟨k7,aj,S7⟩:=a0.out.moved hM;clear P7 hM a0;obtain⟨y,rfl⟩:=Int.eq_ofNat_of_zero_le y0;have hy:y≤1:=by omega
   have aQ:=S7.cur.lt;have a1:¬ pb=w.heap.size:=by have:=S7.lb;omega
   have a8:¬ w.heap.size=pb:=fun e=>a1 e.symm
   have aa:Hid (Dd7 w w7 B b k7 w.heap.size pb kd ⟨#[]⟩ ⟨#[]⟩):=S7;clear y0 y1 S7;go_wp2_with (at_make;refine wpList_make_full _ rfl _ _ 22 rfl B 5 i0 (.int .u8 0) 1 underlying22 hi aH aI .i64 .i64 _ _ (60+y) rfl rfl (by omega) (by omega) (by rw[aJ];omega) (by unfold maxLen;omega) (by omega) ?_;intro w8 a4 ag;have V:=p8 a4;have ah:=np (List.replicate (60+y) 0);rw[List.length_replicate]at ah;generalize ix (List.replicate (60+y) 0)=mk_ at V ah;have S8:=aa.out.below (Below.grown bX ag bR (fun j hj=>by cases hj));obtain⟨ap,aS,aT,aU⟩:=S8.box.facts;have ao:=S8.box.free;obtain⟨an,aV,aW,aX⟩:=S8.ans.facts;have am:=S8.ans.free)
   have S9:=S8.setV mk_;have a5:Hid (ed _ _ _ _ _ _):=S9.done (k0:=k) (m:=200) (by omega) (.int .i64 kd) (.string ⟨#[]⟩) (.string mk_);have a7:Hid ((⟨#[]⟩:ByteArray).size≤300):=by show _≤_;first|omega|exact Nat.zero_le _
   have a6:Hid (mk_.size≤300):=by show _≤_;first|omega|exact Nat.zero_le _
   clear a4 ag S8 S9;go_wp2;refine bodyPost_ret (v:=.agg #[.int .i64 kd,.string ⟨#[]⟩,.string mk_]) ?_ rfl ⟨kd,⟨#[]⟩,mk_,rfl,a7.out,a6.out,a5.out⟩;rw[av rfl];go_simp
  have bb:(q == 0)=false:=by simpa using ay
  have bc:(q == 1)=false:=by simpa using az
  by_cases aA:q=2
  .subst aA
   have bL:Below w6.heap.size w6 (w6.alloc (.cells #[.int .i64 0,.int .i64 5] 3)):=bY _;have SL:=a0.out.below bL;have hL:=heap_alloc_new w6 (.cells #[.int .i64 0,.int .i64 5] 3);have aR:=SL.cur.lt;have bh:=a0.out.cur.lt;have A7:=qj (w6.alloc (.cells #[.int .i64 0,.int .i64 5] 3)) B b k6 SL.cur (by omega) w6.heap.size 2 2 [0,5] rfl (by omega) (by omega) (by simp) (by omega) (fun j hj=>by rcases (show j=0∨j=1 by omega) with rfl|rfl <;> exact cell_of_row _ _ _ _ _ _ hL);have aw:Hid (Dd7 w (w6.alloc (.cells #[.int .i64 0,.int .i64 5] 3)) B b k6 w.heap.size pb kd ⟨#[]⟩ ⟨#[]⟩):=SL;clear bL SL hL aR a0;go_wp2_with fail;refine A7.mono ?_;rintro e w7 ⟨ai,rfl,aq,hM⟩;obtain⟨k7,aj,S7⟩:=aw.out.moved hM;obtain⟨a3,ab,ac,ad⟩:=S7.box.facts;have a2:=S7.box.free;obtain⟨af,aC,aD,aE⟩:=S7.ans.facts;have ae:=S7.ans.free
   have a1:¬ pb=w.heap.size:=by have:=S7.lb;omega
   have a8:¬ w.heap.size=pb:=fun e=>a1 e.symm
   have S9:=S7.setN ai;have a5:Hid (ed _ _ _ _ _ _):=S9.done (k0:=k) (m:=200) (by omega) (.int .i64 ai) (.string ⟨#[]⟩) (.string ⟨#[]⟩);have a7:Hid ((⟨#[]⟩:ByteArray).size≤300):=by show _≤_;first|omega|exact Nat.zero_le _
   have a6:Hid ((⟨#[]⟩:ByteArray).size≤300):=by show _≤_;first|omega|exact Nat.zero_le _
   clear A7 hM aw S7 S9 aq;go_wp2;refine bodyPost_ret (v:=.agg #[.int .i64 ai,.string ⟨#[]⟩,.string ⟨#[]⟩]) ?_ rfl ⟨ai,⟨#[]⟩,⟨#[]⟩,rfl,a7.out,a6.out,a5.out⟩;rw[av rfl];go_simp
  have bd:(q == 2)=false:=by simpa using aA
  by_cases aB:q=3
  .subst aB
   have T7:=Ge w6 B b k6 a0.out.cur (by omega);go_wp2_with fail;refine T7.mono ?_;rintro e w7 ⟨tx,rfl,bi,hM⟩;obtain⟨k7,aj,S7⟩:=a0.out.moved hM;obtain⟨a3,ab,ac,ad⟩:=S7.box.facts;have a2:=S7.box.free;obtain⟨af,aC,aD,aE⟩:=S7.ans.facts;have ae:=S7.ans.free;have a1:¬ pb=w.heap.size:=by have:=S7.lb;omega
   have a8:¬ w.heap.size=pb:=fun e=>a1 e.symm
   have S9:=S7.setX tx;have a5:Hid (ed _ _ _ _ _ _):=S9.done (k0:=k) (m:=200) (by omega) (.int .i64 kd) (.string tx) (.string ⟨#[]⟩);have a7:Hid (tx.size≤300):=by show _≤_;first|omega|exact Nat.zero_le _
   have a6:Hid ((⟨#[]⟩:ByteArray).size≤300):=by show _≤_;first|omega|exact Nat.zero_le _
   clear T7 hM a0 S7 S9;go_wp2;refine bodyPost_ret (v:=.agg #[.int .i64 kd,.string tx,.string ⟨#[]⟩]) ?_ rfl ⟨kd,tx,⟨#[]⟩,rfl,a7.out,a6.out,a5.out⟩;rw[av rfl];go_simp
  have be:(q == 3)=false:=by simpa using aB
  obtain⟨a3,ab,ac,ad⟩:=a0.out.box.facts;have a2:=a0.out.box.free;obtain⟨af,aC,aD,aE⟩:=a0.out.ans.facts;have ae:=a0.out.ans.free;have a1:¬ pb=w.heap.size:=by have:=a0.out.lb;omega
  have a8:¬ w.heap.size=pb:=fun e=>a1 e.symm
  have a5:Hid (ed _ _ _ _ _ _):=a0.out.done (k0:=k) (m:=200) (by omega) (.int .i64 kd) (.string ⟨#[]⟩) (.string ⟨#[]⟩);have a7:Hid ((⟨#[]⟩:ByteArray).size≤300):=by show _≤_;first|omega|exact Nat.zero_le _
  have a6:Hid ((⟨#[]⟩:ByteArray).size≤300):=by show _≤_;first|omega|exact Nat.zero_le _
  clear a0;go_wp2;refine bodyPost_ret (v:=.agg #[.int .i64 kd,.string ⟨#[]⟩,.string ⟨#[]⟩]) ?_ rfl ⟨kd,⟨#[]⟩,⟨#[]⟩,rfl,a7.out,a6.out,a5.out⟩;rw[av rfl];go_simp
end Go.Proofs.YtjbmgghehdemdaaGreatDoor
