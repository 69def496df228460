/- SKy7 -/
import Derived.Test.YtjbmgghehdemdaaGreatDoorMT16
import Derived.Test.YtjbmgghehdemdaaGreatDoorMT23
import Derived.Test.YtjbmgghehdemdaaGreatDoorMT24
namespace Go.Proofs.YtjbmgghehdemdaaGreatDoor
set_option maxRecDepth 100000
set_option maxHeartbeats 16000000
open _root_.Go.Proofs.Tryz
open Go.RowKit
theorem an9 {R:RA}(h:ay R.es R.lv=true){x:ByteArray}(hx:x.size≤200):bh R x=ix (Np R.es R.sh R.lv (rn4 x)):=by
 unfold bh qf;rw[if_pos (gd h hx)]
theorem Cj {w:World} {B:Nat} {ve:Value} {R:RA}(x:ByteArray) (hx:x.size≤1048576) (hE:ac w B ve R.es) (a2:ay R.es R.lv=true) :
  Calls prog 78 #[.agg #[ve,.bool R.sh,.int .i64 R.lv],.string x] w fun e w'=>e=.returned (.tuple #[.string (if x.size≤60 then bh R x else ⟨#[]⟩),.bool (gn R x)])∧Below w.heap.size w w':=by
 obtain⟨va,vc,rfl⟩:=cu hE;have a7:Below w.heap.size w (w.alloc (.cells #[.slice va R.es.length vc,.bool R.sh,.int .i64 R.lv] 56)):=bY _;have HB:Hid (Below w.heap.size w (w.alloc (.cells #[.slice va R.es.length vc,.bool R.sh,.int .i64 R.lv] 56))):=a7;have a1:Bv (w.alloc (.cells #[.slice va R.es.length vc,.bool R.sh,.int .i64 R.lv] 56)) w.heap.size (.slice va R.es.length vc) R.sh R.lv:=heap_alloc_new w _;have af:w.heap.size<(w.alloc (.cells #[.slice va R.es.length vc,.bool R.sh,.int .i64 R.lv] 56)).heap.size:=by simp
 by_cases a6:x.size≤60
 .rw[if_pos a6]
  have AT:=Ia x (w.alloc (.cells #[.slice va R.es.length vc,.bool R.sh,.int .i64 R.lv] 56)) (by omega);have aa:=Km (s:=x) (show x.size≤200 by omega);rw[aa]at AT;have ak:¬ (60:Int)<(x.size:Int):=by omega
  have HE:Hid (ac _ _ _ _):=hE.below a7;have ab:=Dy x;have ao:R.es.length≤1048576:=by have:=(nn a2).1;omega
  obtain⟨_,am,an⟩:=nn a2;have a4:=rd a2 ab;obtain⟨n,hn⟩:∃ n:Nat,R.lv=(n:Int):=⟨R.lv.toNat,by omega⟩
  have a8:=an9 a2 (x:=x) (by omega);have aq:=(yg aa).2;have aj:Hid (∀ e ∈ R.es,e.runes.length≤1048576):=nd a2;have a5:Hid (gn R x=decide ((bh R x).size≤200)):=by show _=_;unfold gn;rw[decide_eq_true a6,Bool.true_and]
  rw[hn]at a1 a8 am an;have ah:Hid (ix (Np R.es R.sh (n:Int) (rn4 x))=bh R x):=a8.symm;have ai:Hid _:=ab;have ag:Hid _:=a4;rw[hn]at AT HB af HE ⊢;generalize bh R x=key at *;clear hE a2 a8 aa ab a4 a7 hn;go_enter func78,ntmps78;go_wp2_with fail;refine AT.mono ?_;rintro e w1 ⟨v1,rfl,i1,b1⟩;have a0:=a1.below b1 af;obtain⟨c0,c1,c2⟩:=a0.cells;have ap:=b1.size;have I1:=i1 (by omega);have E2:=No (sh:=R.sh) (n:=n) (HE.out.below b1) ao aj.out I1 (by omega) ai.out (by omega) (by omega) ag.out;rw[ah.out]at E2;have ad:Hid (Below w.heap.size w w1):=HB.out.trans (b1.mono HB.out.size);clear AT i1 I1 a1 a0 b1;go_wp2_with fail;refine E2.mono ?_;rintro e w3 ⟨rfl,b4⟩;have ae:Hid (Below w.heap.size w w3):=ad.out.trans (b4.mono ad.out.size);clear E2 c0 c1 c2 b4;by_cases hk:key.size≤200
  .have a9:(key.size:Int)≤200:=by omega
   have a3:Hid (gn R x=true):=by show _=_;rw[a5.out,decide_eq_true hk]
   clear a5;go_wp2;go_ret2;exact⟨by (rw[a3.out];try rfl),ae.out⟩
  .have a9:¬ (key.size:Int)≤200:=by omega
   have a3:Hid (gn R x=false):=by show _=_;rw[a5.out,decide_eq_false hk]
   have al:decide ((key.size:Int)≤200)=false:=decide_eq_false a9;clear a5;go_wp2;go_ret2;exact⟨by (rw[a3.out];first|rfl|(rw[<- al];rfl)|simp[Act.eval,a9]),ae.out⟩
 .rw[if_neg a6]
  have ak:(60:Int)<(x.size:Int):=by omega
  have a3:Hid (gn R x=false):=by show _=_;unfold gn;rw[decide_eq_false a6,Bool.false_and]
  clear hE a2;go_enter func78,ntmps78;go_wp2;go_ret2;exact⟨by (rw[a3.out];try rfl),HB.out⟩
theorem yv {B:Nat} {w u:World}(h:Below B w u) (n:Nat):Below B w (u.drewN n):=⟨h.os,h.tape,h.output,h.size,h.block⟩
theorem Sa {l:List Rw} {key:ByteArray} {k:Nat}(hp:az l key=k):d9 l key=(decide (k<l.length) && decide ((dh l k).key=key)):=by
 unfold d9;rw[hp];congr 1
 exact decide_eq_decide.2 (ya _ _)
theorem Dl {w:World} {a:Option Addr} {c:Nat} {l:List Rw}(key:ByteArray) (hS:dd w a l) (hl:l.length≤1048576) (hr:lm l) :
  Calls prog 82 #[.slice a l.length c,.string key] w fun e w'=>e=.returned (.tuple #[.int .i64 (az l key:Int),.bool (d9 l key)])∧Below w.heap.size w w':=by
 obtain⟨P,hP⟩:∃ P,P=az l key:=⟨_,rfl⟩
 obtain⟨q1,q2,q3⟩:=n6 key hr;rw[<- hP]at q1 q2 q3;have a7:=Sa hP.symm;have HS:Hid (∀ u,Below w.heap.size w u→dd u a l):=fun u hu=>hS.below hu bR
 have a8:Hid (∀ (k:Nat) (y:Rw),k<P→l[k]? = some y→ltK y.key key=true):=fun k y hk hy=>by have:=q2 k hk;rw[mx hy]at this;exact this
 have a9:Hid (∀ y,l[P]? = some y→ltK y.key key=false):=fun y hy=>by have:=q3 P bR (List.getElem?_eq_some_iff.1 hy).1;rw[mx hy]at this;exact this
 have a3:Hid (d9 l key=(decide (P<l.length) && decide ((dh l P).key=key))):=a7;rw[<- hP];clear hS hr q2 q3 a7 hP;go_enter func82,ntmps82;go_wp2_with fail;go_loopw [6] (fun i wr=>∃ k:Nat,k≤P∧i=.int .i64 (k:Int)∧wr=w) (fun i _=>l.length-(intOf i).toNat)
 case atStart=>exact⟨0,Nat.zero_le _,rfl,rfl⟩
 case round =>
  obtain⟨k,hk,rfl,rfl⟩:=hrel;by_cases a6:k<P
  .obtain⟨y,hy⟩:∃ y,l[k]? = some y:=by exact⟨_,List.getElem?_eq_getElem (by omega)⟩
   rcases HS.out wr bX with h|⟨b2,o2,rfl,hE⟩
   .rw[h]at hy;simp at hy
   obtain⟨e0,_,_⟩:=hE k y hy;have aa:=ag e0;have ab:(k:Int)<(l.length:Int):=by omega
   have a4:ltK y.key key=true:=a8.out k y a6 hy;unfold ltK at a4;clear hE hy;go_wp2;exact⟨⟨k+1,by omega,by go_num,by (first|rfl|trivial)⟩,by simp[intOf];omega⟩
  .obtain rfl:k=P:=by omega
   clear a6 hk;by_cases a5:k<l.length
   .obtain⟨y,hy⟩:∃ y,l[k]? = some y:=by exact⟨_,List.getElem?_eq_getElem a5⟩
    rcases HS.out wr bX with h|⟨b2,o2,rfl,hE⟩
    .rw[h]at hy;simp at hy
    obtain⟨e0,_,_⟩:=hE k y hy;have aa:=ag e0;have ab:(k:Int)<(l.length:Int):=by omega
    have a4:ltK y.key key=false:=a9.out y hy;unfold ltK at a4;have a0:=a3.out;rw[mx hy,decide_eq_true a5,Bool.true_and]at a0;by_cases a1:y.key=key
    .rw[decide_eq_true a1]at a0
     have a2:Hid (d9 l key=true):=a0;rw[a1]at e0 a4;clear hE hy a1 a0 a3;go_wp2;go_quiet (fail)
     go_wp2;go_ret2;exact⟨by (rw[a2.out];try rfl),yv bX _⟩
    .rw[decide_eq_false a1]at a0
     have a2:Hid (d9 l key=false):=a0;have ac:=xp a1;clear hE hy a1 a0 a3;go_wp2;go_quiet (fail)
     go_wp2;go_ret2;exact⟨by (rw[a2.out];try rfl),yv bX _⟩
   .have a0:=a3.out
    rw[decide_eq_false a5,Bool.false_and]at a0;have a2:Hid (d9 l key=false):=a0;clear a0 a3;go_wp2;have d1:decide ((k:Int)<(l.length:Int))=false:=decide_eq_false (by omega);go_quiet (fail)
    go_wp2;go_ret2;exact⟨by (rw[a2.out];try rfl),yv bX _⟩
def ny (u:World) (b:Nat) (ve:Value) (sh:Bool) (lv:Int) (r:ByteArray) (vp:Value) (log:ByteArray) (syn:Int) (vr:Value):Prop :=
 u.heap[b]? = some (.cells #[ve,.bool sh,.int .i64 lv,.string r,vp,.string log,.int .i64 syn,vr] 71)
theorem ny.lt {u:World} {b:Nat} {ve:Value} {sh:Bool} {lv:Int} {r:ByteArray} {vp:Value} {log:ByteArray} {syn:Int} {vr:Value}(h:ny u b ve sh lv r vp log syn vr):b<u.heap.size:=(Array.getElem?_eq_some_iff.1 h).1
theorem ny.below {u u':World} {b:Nat} {ve:Value} {sh:Bool} {lv:Int} {r:ByteArray} {vp:Value} {log:ByteArray} {syn:Int} {vr:Value}(h:ny u b ve sh lv r vp log syn vr) (hb:Below u.heap.size u u'):ny u' b ve sh lv r vp log syn vr:=(hb.block b h.lt).trans h
theorem ny.facts {u:World} {b:Nat} {ve:Value} {sh:Bool} {lv:Int} {r:ByteArray} {vp:Value} {log:ByteArray} {syn:Int} {vr:Value}(h:ny u b ve sh lv r vp log syn vr) :
  b<u.heap.size∧u.cell? ⟨b,0,none⟩=some ve∧u.cell? ⟨b,1,none⟩=some (.bool sh)∧u.cell? ⟨b,2,none⟩=some (.int .i64 lv)∧u.cell? ⟨b,3,none⟩=some (.string r)∧u.cell? ⟨b,4,none⟩=some vp∧u.cell? ⟨b,5,none⟩=some (.string log)∧u.cell? ⟨b,6,none⟩=some (.int .i64 syn)∧u.cell? ⟨b,7,none⟩=some vr∧∀ j,u.frozen? ⟨b,j,none⟩=false :=
 ⟨h.lt,cell_of_row _ _ 0 _ _ _ h,cell_of_row _ _ 1 _ _ _ h,cell_of_row _ _ 2 _ _ _ h,cell_of_row _ _ 3 _ _ _ h,cell_of_row _ _ 4 _ _ _ h,cell_of_row _ _ 5 _ _ _ h,cell_of_row _ _ 6 _ _ _ h,cell_of_row _ _ 7 _ _ _ h,fun j=>frozen_of_row _ _ j _ _ h⟩
theorem Bi:∀ w:World,(sizeOf 37).run prog w=.ok 3 w:=fun w=>by kernel_rfl
theorem tf {P:Program}(u:World) (t e:TypeId) (n:Nat) (ht:P.underlying t=some (.slice e)) (hs:∀ w:World,(sizeOf e).run P w=.ok n w) (a:Option Addr) (len cap i:Nat) (hi:i≤len) :
  (Instr.slice t (.slice a len cap) (some (.int .i64 (i:Int))) none none).run P u=.ok (.slice (if cap=i then a else a.map (·.add (i*n))) (len-i) (cap-i)) u:=by
 simp[Instr.slice,Instr.sliceBounds,Instr.sliceBound,run_underlying ht,asIntOf,hs,hi]
theorem rz {R:RA} {l:List Rw} {o:Dn}(h:(gn R o.text && decide (o.val.size≤60))=false):apC R l o=2:=by unfold apC;rw[if_pos h]
theorem Im {R:RA} {l:List Rw} {o:Dn}(h:(gn R o.text && decide (o.val.size≤60))=true) (hp:o.put=true):apC R l o=if (gz l (Cy R o)).length≤60 then 0 else 3:=by unfold apC;rw[if_neg (by rw[h];simp),if_pos hp]
theorem Fg {R:RA} {l:List Rw} {o:Dn}(h:(gn R o.text && decide (o.val.size≤60))=true) (hp:o.put=false):apC R l o=if d9 l (bh R o.text)=true then 0 else 4:=by unfold apC;rw[if_neg (by rw[h];simp),if_neg (by rw[hp];simp)]
def ar0 (w:World) (R:RA) (l:List Rw) (o:Dn) (pl pf pn:Addr) (e:Ending) (w':World):Prop :=
 ((apC R l o=0∧∃ v,e=.returned (.tuple #[v,.nilIface])∧Rws w' w.heap.size v (apR R l o))∨(apC R l o=2∧e=.returned (.tuple #[.slice none 0 0,.iface 298 (.pointer (some pl))])) ∨
  (apC R l o=3∧e=.returned (.tuple #[.slice none 0 0,.iface 298 (.pointer (some pf))]))∨(apC R l o=4∧e=.returned (.tuple #[.slice none 0 0,.iface 298 (.pointer (some pn))])))∧Below w.heap.size w w'
theorem J5 {w:World} {B Bl b:Nat} {ve:Value} {R:RA} {r:ByteArray} {vp:Value} {log:ByteArray} {syn:Int} {vr:Value} {l:List Rw} {pb pl pf pn:Addr}(o:Dn) (aW:o.text.size≤1048576) (b4:o.val.size≤1048576)
  (hI:ny w b ve R.sh R.lv r vp log syn vr) (hR:Ru7 w B ve R) (hV:Ev7 w pb pl pf pn) (hl:Rws w Bl vr l) (a4:lm l) (aZ:l.length≤60) :
  Calls prog 89 #[.pointer (some ⟨b,0,none⟩),.agg #[.int .i64 (kn7 o),.string o.text,.string o.val]] w fun e w'=>ar0 w R l o pl pf pn e w':=by
 obtain⟨va,vc,rfl⟩:=hR.form;obtain⟨W,hW⟩:∃ W,W=w.alloc (.cells #[.int .i64 (kn7 o),.string o.text,.string o.val] 27):=⟨_,rfl⟩
 have bA:Below w.heap.size w W:=by rw[hW];exact bY _
 have HO:Hid (gi W w.heap.size (kn7 o) o.text o.val):=by show _=_;rw[hW];exact heap_alloc_new w _
 have HI:Hid (ny W b (.slice va R.es.length vc) R.sh R.lv r vp log syn vr):=hI.below bA;have HR:Hid (Ru7 W B (.slice va R.es.length vc) R):=hR.below bA;have HV:Hid (Ev7 W pb pl pf pn):=hV.below bA;have HL:Hid (Rws W Bl vr l):=hl.below bA;have HB:Hid (Below w.heap.size w W):=bA;have HW:Hid (W=w.alloc (.cells #[.int .i64 (kn7 o),.string o.text,.string o.val] 27)):=hW;obtain⟨ar,cr,aY⟩:=bz hl;subst aY;have b3:w.heap.size<W.heap.size:=by rw[hW];simp
 have RK:=fun (u:World) (hu:Below W.heap.size W u)=>Wr o.text aW (HR.out.below hu) (HV.out.below hu)
 obtain⟨a6,i0,i1,i2,i3,i4,i5,i6,i7,i8⟩:=HI.out.facts;obtain⟨a9,o0,o1,o2⟩:=HO.out.facts;have ap:Hid (lm l):=a4;clear hI hR hV hl bA hW a4;by_cases a3:gn R o.text=true
 .have ah:∀ u:World,Below W.heap.size W u→Calls prog 94 #[.agg #[.slice va R.es.length vc,.bool R.sh,.int .i64 R.lv],.string o.text] u fun e w'=>e=.returned (.tuple #[.string (bh R o.text),.nilIface])∧Below u.heap.size u w':=fun u hu=>by
   have q:=RK u hu;rw[if_pos a3]at q;exact q
  clear RK;have RK:=ah;clear ah;obtain⟨key,a7⟩:∃ key,key=bh R o.text:=⟨_,rfl⟩
  rw[<- a7]at RK;have a5:Hid (key=bh R o.text):=a7;clear a7;by_cases aj:o.val.size≤60
  .have ai:(gn R o.text && decide (o.val.size≤60))=true:=by rw[a3,decide_eq_true aj];rfl
   have aX:¬ (60:Int)<(o.val.size:Int):=by omega
   cases hput:o.put
   .have hc:=Fg (l:=l) ai hput
    have ad:kn7 o=2:=by unfold kn7;rw[hput];rfl
    have a1:apR R l o=qz l key:=by unfold apR;rw[hput,a5.out];rfl
    rw[<- a5.out]at hc;rw[ad]at o0 HW HO ⊢;have ae:Hid (apR R l o=qz l key):=a1;have PL:=fun (u:World) (hu:Below W.heap.size W u)=>zf (c:=cr) key (ew (HL.out.below hu)) (by omega)
    cases hth:d9 l key
    .have aI:apC R l o=4:=by rw[hc,hth];rfl
     have aM:Hid (apC R l o=4):=aI;rw[hth]at PL;generalize az l key=p at PL;clear hc aI hth ai ad a1;go_enter func89,ntmps89;go_upto_region 1 with fail
     rw[<- HW.out];go_cut [6,7] from 11 to 20 (fun v6 v7 wx=>v6=.string key∧v7=.nilIface∧Below W.heap.size W wx)
     case first =>
      go_region_with (go_at_call 94;refine (RK _ (by repeat (first|exact bX|refine Below.drew ?_))).mono ?_;rintro e w5 ⟨rfl,b5⟩;have z5:Below W.heap.size W w5:=⟨b5.os,b5.tape,b5.output,b5.size,b5.block⟩;clear b5)
      all_goals
       go_simp;go_wp2_with fail;go_meet
       case rel=>exact⟨rfl,rfl,z5⟩
     case rest =>
      obtain⟨h6,h7,b5⟩:=hcut;subst h6;subst h7;have af:=PL wc b5;obtain⟨a6,i0,i1,i2,i3,i4,i5,i6,i7,i8⟩:=(HI.out.below b5).facts;obtain⟨a9,o0,o1,o2⟩:=(HO.out.below b5).facts;have a0:Hid (Below W.heap.size W wc):=b5;clear PL b5 RK;go_wp2_with fail;refine af.mono ?_;rintro e w6 ⟨rfl,b6⟩;have hn:=(HV.out.below (a0.out.trans (b6.mono a0.out.size))).none_;have b1:=ag hn;have al:Hid (Below w.heap.size w w6):=HB.out.trans ((a0.out.trans (b6.mono a0.out.size)).mono HB.out.size);clear af b6 i0 i1 i2 i3 i4 i5 i6 i7 i8 a6 o0 o1 o2 a9;go_wp2;go_quiet (fail)
      go_wp2;go_ret2;exact⟨.inr (.inr (.inr ⟨aM.out,rfl⟩)),po al.out _⟩
    .have aH:apC R l o=0:=by rw[hc,hth];rfl
     have aq:Hid (apC R l o=0):=aH;rw[hth]at PL;have ay:=(py ap.out hth).2;have aC:Hid ((qz l key).length=l.length-1):=Yl ap.out hth;have ao:Hid (qz l key=l.take (az l key)++l.drop (az l key+1)):=rfl;obtain⟨D,HD⟩:∃ D,Hid (qz l key=D):=⟨_,rfl⟩
     rw[HD.out]at ae aC ao;generalize az l key=p at PL ay ao;obtain⟨g,cap,hv,b0,aQ⟩:∃ g cap,Value.slice ar l.length cr=.slice (some ⟨g,0,none⟩) l.length cap∧l.length≤cap∧cap≤maxLen:=by
      rcases HL.out.form with ⟨_,h0⟩|h
      .rw[h0]at ay;simp at ay
      .exact h
     injection hv with e1 _ e3;subst e1;subst e3;obtain⟨p1,aK⟩:∃ p1,p1=p+1:=⟨_,rfl⟩
     rw[<- aK]at ao;have aS:(p:Int)+1=(p1:Int):=by omega
     have aT:IntKind.i64.wrap (p1:Int)=(p1:Int):=by unfold maxLen at aQ;rw[IntKind.wrap_i64];omega
     have b2:(p:Int)≤(cr:Int):=by omega
     have aU:(p1:Int)≤(l.length:Int):=by omega
     have aV:(p:Int)≤(l.length:Int):=by omega
     clear hc aH hth ai ad a1 aK;go_enter func89,ntmps89;go_upto_region 1 with fail
     rw[<- HW.out];go_cut [6,7] from 11 to 20 (fun v6 v7 wx=>v6=.string key∧v7=.nilIface∧Below W.heap.size W wx)
     case first =>
      go_region_with (go_at_call 94;refine (RK _ (by repeat (first|exact bX|refine Below.drew ?_))).mono ?_;rintro e w5 ⟨rfl,b5⟩;have z5:Below W.heap.size W w5:=⟨b5.os,b5.tape,b5.output,b5.size,b5.block⟩;clear b5)
      all_goals
       go_simp;go_wp2_with fail;go_meet
       case rel=>exact⟨rfl,rfl,z5⟩
     case rest =>
      obtain⟨h6,h7,b5⟩:=hcut;subst h6;subst h7;have af:=PL wc b5;obtain⟨a6,i0,i1,i2,i3,i4,i5,i6,i7,i8⟩:=(HI.out.below b5).facts;obtain⟨a9,o0,o1,o2⟩:=(HO.out.below b5).facts;have a0:Hid (Below W.heap.size W wc):=b5;clear PL b5 RK;go_wp2_with fail;refine af.mono ?_;rintro e w6 ⟨rfl,b6⟩;have ac:Below W.heap.size W w6:=a0.out.trans (b6.mono a0.out.size);have al:Hid (Below W.heap.size W w6):=ac;obtain⟨a6,i0,i1,i2,i3,i4,i5,i6,i7,i8⟩:=(HI.out.below ac).facts;have aF:Hid ((l.take p).length=p):=by show _=_;rw[List.length_take];omega
      have av:Hid ((l.drop p1).length=l.length-p1):=List.length_drop;have aD:Hid (SlV w6 (.slice (some ⟨g,0,none⟩) p cr) (l.take p)):=⟨_,_,by rw[aF.out],(ew (HL.out.below ac)).take p⟩;obtain⟨a2,n2,c2,aE,aA⟩:∃ (a2:Option Addr) (n2 c2:Nat),Hid (SlV w6 (.slice a2 n2 c2) (l.drop p1))∧∀ u:World,(Instr.slice 32 (.slice (some ⟨g,0,none⟩) l.length cr) (some (.int .i64 (p1:Int))) none none).run prog u=.ok (.slice a2 n2 c2) u:=by
       by_cases aJ:cr=p1
       .refine⟨some ⟨g,0,none⟩,0,0,⟨_,_,by rw[av.out,show l.length-p1=0 by omega],.inl (List.drop_eq_nil_of_le (by omega))⟩,fun u=>?_⟩
        have:=tf (P:=prog) u 32 37 3 underlying32 Bi (some ⟨g,0,none⟩) l.length cr p1 (by omega);rw[this,if_pos aJ,show l.length-p1=0 by omega,show cr-p1=0 by omega]
       .refine⟨some ⟨g,p1*3,none⟩,l.length-p1,cr-p1,⟨_,_,by rw[av.out],by have h9:=(ew (HL.out.below ac)).drop p1;rw[Nat.zero_add]at h9;exact h9⟩,fun u=>?_⟩
        have:=tf (P:=prog) u 32 37 3 underlying32 Bi (some ⟨g,0,none⟩) l.length cr p1 (by omega);rw[this,if_neg aJ];simp[Addr.add]
        try omega
      have bT:Below w6.heap.size w6 (w6.alloc (.cells #[.slice (some ⟨g,0,none⟩) p cr,.slice a2 n2 c2] 32)):=bY _;have an:Hid (Below w6.heap.size w6 (w6.alloc (.cells #[.slice (some ⟨g,0,none⟩) p cr,.slice a2 n2 c2] 32))):=bT;have aB:Hid (∀ u:World,u.heap=(w6.alloc (.cells #[.slice (some ⟨g,0,none⟩) p cr,.slice a2 n2 c2] 32)).heap→Calls prog 86 #[.slice (some ⟨w6.heap.size,0,none⟩) 2 2] u fun e w'=>∃ v,e=.returned v∧Rws w' u.heap.size v D∧Below u.heap.size u w'):=fun u hu=>by
       have q:=Qb u w6.heap.size _ _ (l.take p) (l.drop p1) (by rw[hu];exact heap_alloc_new w6 _) (by rw[aF.out];omega) (by rw[av.out];omega) (gh (aD.out.below an.out bR) hu) (gh (aE.out.below an.out bR) hu);rw[<- ao.out]at q;exact q
      have aO:¬ (60:Int)<(D.length:Int):=by have:=aC.out;omega
      have b9:=ac.size;clear af b6 ac o0 o1 o2 a9 bT;go_upto_region 12 with fail
      go_cut [8] from 55 to 69 (fun v8 wx=>Rws wx w.heap.size v8 D∧Below w6.heap.size w6 wx)
      case first =>
       go_region_law (go_simp;go_at_call 86;refine (aB.out _ (by rfl)).mono ?_;rintro e w7 ⟨v7,rfl,r7,q7⟩)
       all_goals
        have q8:Below (w6.alloc (.cells #[.slice (some ⟨g,0,none⟩) p cr,.slice a2 n2 c2] 32)).heap.size (w6.alloc (.cells #[.slice (some ⟨g,0,none⟩) p cr,.slice a2 n2 c2] 32)) w7:=⟨q7.os,q7.tape,q7.output,q7.size,q7.block⟩;have r8:Rws w7 (w6.heap.size+1) v7 D:=by have q:Rws w7 (w6.alloc (.cells #[.slice (some ⟨g,0,none⟩) p cr,.slice a2 n2 c2] 32)).heap.size v7 D:=r7;rw[World.size_alloc]at q;exact q
        have hK:Rws w7 w.heap.size v7 D∧Below w6.heap.size w6 w7:=⟨cz r8 (by omega),an.out.trans (q8.mono an.out.size)⟩;clear r7 q7 q8 r8;go_simp;go_wp2_with fail;go_meet
        case rel=>exact hK
      case rest =>
       obtain⟨r8,b8⟩:=hcut;obtain⟨a8,c8,ab⟩:=bz r8;subst ab;have aw:Hid (Rws wc w.heap.size (.slice a8 D.length c8) D):=r8;have am:Hid (Below w.heap.size w wc):=HB.out.trans ((al.out.trans (b8.mono al.out.size)).mono HB.out.size);clear r8 b8 i0 i1 i2 i3 i4 i5 i6 i7 i8 a6 aB aD aE aA;go_wp2;go_ret2;exact⟨.inl ⟨aq.out,_,rfl,by rw[ae.out];exact aw.out⟩,am.out⟩
   .have hc:=Im (l:=l) ai hput
    have ad:kn7 o=1:=by unfold kn7;rw[hput];rfl
    have aa:Cy R o=⟨key,o.text,o.val⟩:=by unfold Cy;rw[a5.out]
    have a1:apR R l o=gz l ⟨key,o.text,o.val⟩:=by unfold apR;rw[hput,aa];rfl
    rw[aa]at hc;rw[ad]at o0 HW HO ⊢;have ae:Hid (apR R l o=gz l ⟨key,o.text,o.val⟩):=a1;have WR:=fun (u:World) (hu:Below W.heap.size W u)=>Pw ⟨key,o.text,o.val⟩ (HL.out.below hu) (by omega) ap.out
    have aN:Hid ((gz l ⟨key,o.text,o.val⟩).length≤l.length+1):=Nk ap.out;obtain⟨D,HD⟩:∃ D,Hid (gz l ⟨key,o.text,o.val⟩=D):=⟨_,rfl⟩
    rw[HD.out]at ae WR hc aN;have HC:Hid (apC R l o=if D.length≤60 then 0 else 3):=hc;clear hc ai ad a1 aa;go_enter func89,ntmps89;go_upto_region 1 with fail
    rw[<- HW.out];go_cut [6,7] from 11 to 20 (fun v6 v7 wx=>v6=.string key∧v7=.nilIface∧Below W.heap.size W wx)
    case first =>
     go_region_with (go_at_call 94;refine (RK _ (by repeat (first|exact bX|refine Below.drew ?_))).mono ?_;rintro e w5 ⟨rfl,b5⟩;have z5:Below W.heap.size W w5:=⟨b5.os,b5.tape,b5.output,b5.size,b5.block⟩;clear b5)
     all_goals
      go_simp;go_wp2_with fail;go_meet
      case rel=>exact⟨rfl,rfl,z5⟩
    case rest =>
     obtain⟨h6,h7,b5⟩:=hcut;subst h6;subst h7;have aG:=fun (u:World) (hu:Below wc.heap.size wc u)=>WR u (b5.trans (hu.mono b5.size))
     obtain⟨a6,i0,i1,i2,i3,i4,i5,i6,i7,i8⟩:=(HI.out.below b5).facts;obtain⟨a9,o0,o1,o2⟩:=(HO.out.below b5).facts;have a0:Hid (Below W.heap.size W wc):=b5;have b7:=b5.size;obtain⟨w5,ak⟩:∃ w5,w5=wc:=⟨_,rfl⟩
     clear WR b5 RK;go_upto_region 8 with fail
     go_cut [8] from 32 to 42 (fun v8 wx=>Rws wx w.heap.size v8 D∧Below w5.heap.size w5 wx)
     case first =>
      go_region_with (go_at_call 124;refine (aG _ (by repeat (first|exact bX|refine Below.drew ?_))).mono ?_;rintro e w7 ⟨v7,rfl,r7,q7⟩;have q8:Below w5.heap.size w5 w7:=(by rw[ak];exact⟨q7.os,q7.tape,q7.output,q7.size,q7.block⟩);have r8:Rws w7 w.heap.size v7 D:=cz r7 (by first|omega|(simp;omega));clear r7 q7)
      all_goals
       go_simp;go_wp2_with fail;go_meet
       case rel=>exact⟨r8,q8⟩
     case rest =>
      obtain⟨r8,b8⟩:=hcut;rw[ak]at b8;obtain⟨a8,c8,ab⟩:=bz r8;subst ab;have aw:Hid (Rws _ w.heap.size (.slice a8 D.length c8) D):=r8;have ax:=a0.out.trans (b8.mono a0.out.size);have am:Hid (Below w.heap.size w _):=HB.out.trans (ax.mono HB.out.size);have hf:=(HV.out.below ax).full;have aR:=ag hf;clear r8 b8 ax i0 i1 i2 i3 i4 i5 i6 i7 i8 a6 o0 o1 o2 a9 aG;by_cases hD:D.length≤60
      .have aP:¬ (60:Int)<(D.length:Int):=by omega
       have aq:Hid (apC R l o=0):=by show _=_;rw[HC.out,if_pos hD]
       clear HC hD;go_wp2;go_ret2;exact⟨.inl ⟨aq.out,_,rfl,by rw[ae.out];exact aw.out⟩,am.out⟩
      .have aP:(60:Int)<(D.length:Int):=by omega
       have aL:Hid (apC R l o=3):=by show _=_;rw[HC.out,if_neg hD]
       clear HC hD;go_wp2;go_quiet (fail)
       go_wp2;go_ret2;exact⟨.inr (.inr (.inl ⟨aL.out,rfl⟩)),po am.out _⟩
  .have au:Hid (apC R l o=2):=rz (by rw[decide_eq_false aj,Bool.and_false])
   have aX:(60:Int)<(o.val.size:Int):=by omega
   generalize kn7 o=kd at *;go_enter func89,ntmps89;go_upto_region 1 with fail
   rw[<- HW.out];go_cut [6,7] from 11 to 20 (fun v6 v7 wx=>v6=.string key∧v7=.nilIface∧Below W.heap.size W wx)
   case first =>
    go_region_with (go_at_call 94;refine (RK _ (by repeat (first|exact bX|refine Below.drew ?_))).mono ?_;rintro e w5 ⟨rfl,b5⟩;have z5:Below W.heap.size W w5:=⟨b5.os,b5.tape,b5.output,b5.size,b5.block⟩;clear b5)
    all_goals
     go_simp;go_wp2_with fail;go_meet
     case rel=>exact⟨rfl,rfl,z5⟩
   case rest =>
    obtain⟨h6,h7,b5⟩:=hcut;subst h6;subst h7;obtain⟨a9,o0,o1,o2⟩:=(HO.out.below b5).facts;have hf:=(HV.out.below b5).long;have aR:=ag hf;have a0:Hid (Below w.heap.size w wc):=HB.out.trans (b5.mono HB.out.size);clear b5 RK;go_wp2;go_quiet (fail)
    go_wp2;go_ret2;exact⟨.inr (.inl ⟨au.out,rfl⟩),po a0.out _⟩
 .have ah:∀ u:World,Below W.heap.size W u→Calls prog 94 #[.agg #[.slice va R.es.length vc,.bool R.sh,.int .i64 R.lv],.string o.text] u fun e w'=>e=.returned (.tuple #[.string ⟨#[]⟩,.iface 298 (.pointer (some pl))])∧Below u.heap.size u w':=fun u hu=>by
   have q:=RK u hu;rw[if_neg a3]at q;exact q
  clear RK;have RK:=ah;clear ah;have au:Hid (apC R l o=2):=rz (by rw[show gn R o.text=false by simpa using a3];rfl);generalize kn7 o=kd at *;go_enter func89,ntmps89;go_upto_region 1 with fail
  rw[<- HW.out];go_cut [6,7] from 11 to 20 (fun v6 v7 wx=>v6=.string ⟨#[]⟩∧v7=.iface 298 (.pointer (some pl))∧Below W.heap.size W wx)
  case first =>
   go_region_with (go_at_call 94;refine (RK _ (by repeat (first|exact bX|refine Below.drew ?_))).mono ?_;rintro e w5 ⟨rfl,b5⟩;have z5:Below W.heap.size W w5:=⟨b5.os,b5.tape,b5.output,b5.size,b5.block⟩;clear b5)
   all_goals
    go_simp;go_wp2_with fail;go_meet
    case rel=>exact⟨rfl,rfl,z5⟩
  case rest =>
   obtain⟨h6,h7,b5⟩:=hcut;subst h6;subst h7;have a0:Hid (Below w.heap.size w wc):=HB.out.trans (b5.mono HB.out.size);clear b5 RK;go_wp2;go_ret2;exact⟨.inr (.inl ⟨au.out,rfl⟩),a0.out⟩
theorem V0 {w:World} {g l0 cap p:Nat} {l:List Rw}(a3:l0=l.length) (hp:p≤l0) (hc:l0≤cap) (hS:dd w (some ⟨g,0,none⟩) l) :
  ∃ (a2:Option Addr) (n2 c2:Nat),(∀ u,Below w.heap.size w u→SlV u (.slice a2 n2 c2) (l.drop p))∧∀ u:World,(Instr.slice 32 (.slice (some ⟨g,0,none⟩) l0 cap) (some (.int .i64 (p:Int))) none none).run prog u=.ok (.slice a2 n2 c2) u:=by
 subst a3;have a1:(l.drop p).length=l.length-p:=List.length_drop;by_cases a0:cap=p
 .refine⟨some ⟨g,0,none⟩,0,0,fun u _=>⟨_,_,by rw[a1,show l.length-p=0 by omega],.inl (List.drop_eq_nil_of_le (by omega))⟩,fun u=>?_⟩
  have:=tf (P:=prog) u 32 37 3 underlying32 Bi (some ⟨g,0,none⟩) l.length cap p (by omega);rw[this,if_pos a0,show l.length-p=0 by omega,show cap-p=0 by omega]
 .refine⟨some ⟨g,p*3,none⟩,l.length-p,cap-p,fun u hu=>⟨_,_,by rw[a1],by have h9:=(hS.below hu bR).drop p;rw[Nat.zero_add]at h9;exact h9⟩,fun u=>?_⟩
  have:=tf (P:=prog) u 32 37 3 underlying32 Bi (some ⟨g,0,none⟩) l.length cap p (by omega);rw[this,if_neg a0];by_cases h0:p=0
  .subst h0;simp[Addr.add]
  .simp[Addr.add]
   try omega
theorem Yk {w:World} {B:Nat} {v:Value} {l:List Rw} {p:Nat}(hR:Rws w B v l) (hp:p<l.length) (hl:l.length≤1048576) :
  Calls prog 117 #[v,.int .i64 (p:Int)] w fun e w'=>∃ v',e=.returned v'∧Rws w' w.heap.size v' (l.take p++l.drop (p+1))∧Below w.heap.size w w':=by
 obtain⟨g,cap,rfl,ad,ae⟩:∃ g cap,v=.slice (some ⟨g,0,none⟩) l.length cap∧l.length≤cap∧cap≤maxLen:=by
  rcases hR.form with ⟨_,h0⟩|h
  .rw[h0]at hp;simp at hp
  .exact h
 obtain⟨p1,a5⟩:∃ p1,p1=p+1:=⟨_,rfl⟩
 rw[<- a5];have af:(p:Int)+1=(p1:Int):=by omega
 have ag:IntKind.i64.wrap (p1:Int)=(p1:Int):=by unfold maxLen at ae;rw[IntKind.wrap_i64];omega
 have ai:(p:Int)≤(cap:Int):=by omega
 have a1:Hid ((l.take p).length=p):=by show _=_;rw[List.length_take];omega
 have a8:Hid ((l.drop p1).length=l.length-p1):=List.length_drop;obtain⟨a2,n2,c2,a6,ah⟩:=V0 (p:=p1) (cap:=cap) rfl (by omega) ad (ew hR);have ab:Hid (∀ u,Below w.heap.size w u→SlV u (.slice a2 n2 c2) (l.drop p1)):=a6;have bA:Below w.heap.size w (w.alloc (.cells #[] 37)):=bY _;have HA:Hid (Below w.heap.size w (w.alloc (.cells #[] 37))):=bA;have aa:Hid (SlV (w.alloc (.cells #[] 37)) (.slice (some ⟨g,0,none⟩) p cap) (l.take p)):=⟨_,_,by rw[a1.out],(ew (hR.below bA)).take p⟩;have a4:Hid (Rws (w.alloc (.cells #[] 37)) w.heap.size (.slice (some ⟨w.heap.size,0,none⟩) 0 0) []):=sn w _ _ rfl bR;clear hR a6 bA a5;go_enter func117,ntmps117
 go_wp2_with (at_builtin;refine ef rfl _ _ rfl w.heap.size (.slice (some ⟨w.heap.size,0,none⟩) 0 0) (.slice (some ⟨g,0,none⟩) p cap) [] (l.take p) rfl rfl a4.out aa.out (by rw[a1.out];simp;omega) HA.out.size ?_)
 intro v1 w1 i1 g1;have b1:Below w.heap.size w w1:=Below.grown HA.out g1 HA.out.size (fun j hj=>(World.ownsRow.lt a4.out j hj).1);have a3:Hid (Rws w1 w.heap.size v1 (l.take p)):=i1;have a0:Hid (Below w.heap.size w w1):=b1;have ac:Hid (SlV w1 (.slice a2 n2 c2) (l.drop p1)):=ab.out w1 b1;clear i1 g1 b1;go_wp2_with (at_builtin;refine ef rfl _ _ rfl w.heap.size v1 (.slice a2 n2 c2) (l.take p) (l.drop p1) rfl rfl a3.out ac.out (by rw[a1.out,a8.out];omega) a0.out.size ?_)
 intro v2 w2 i2 g2;have a7:Hid (Below w.heap.size w w2):=Below.grown a0.out g2 a0.out.size (fun j hj=>(World.ownsRow.lt a3.out j hj).1);have a9:Hid (Rws w2 w.heap.size v2 (l.take p++l.drop p1)):=i2;clear i2 g2;go_wp2;go_ret;exact⟨_,rfl,a9.out,a7.out⟩
def m6 (u:World) (p:Nat) (x:Rw):Prop:=u.heap[p]? = some (.cells #[.string x.key,.string x.text,.string x.val] 37)
theorem m6.below {u u':World} {p:Nat} {x:Rw}(h:m6 u p x) (hb:Below u.heap.size u u'):m6 u' p x:=(hb.block p (Array.getElem?_eq_some_iff.1 h).1).trans h
theorem m6.facts {u:World} {p:Nat} {x:Rw}(h:m6 u p x):p<u.heap.size∧u.cell? ⟨p,0,none⟩=some (.string x.key)∧u.cell? ⟨p,1,none⟩=some (.string x.text)∧u.cell? ⟨p,2,none⟩=some (.string x.val) :=
 ⟨(Array.getElem?_eq_some_iff.1 h).1,cell_of_row _ _ 0 _ _ _ h,cell_of_row _ _ 1 _ _ _ h,cell_of_row _ _ 2 _ _ _ h⟩
theorem ae7 {w:World} {B:Nat} {v:Value} {l:List Rw}(x:Rw) (hR:Rws w B v l) (hl:l.length≤1000000) (a3:lm l) :
  Calls prog 116 #[v,.agg #[.string x.key,.string x.text,.string x.val]] w fun e w'=>∃ v',e=.returned v'∧Rws w' w.heap.size v' (gz l x)∧Below w.heap.size w w':=by
 obtain⟨W,hW⟩:∃ W,W=w.alloc (.cells #[.string x.key,.string x.text,.string x.val] 37):=⟨_,rfl⟩
 have hb:Below w.heap.size w W:=by rw[hW];exact bY _
 have HB:Hid (Below w.heap.size w W):=hb;have HX:Hid (m6 W w.heap.size x):=by show _=_;rw[hW];exact heap_alloc_new w _
 have HW:Hid (W=w.alloc (.cells #[.string x.key,.string x.text,.string x.val] 37)):=hW;obtain⟨ag,o0,o1,o2⟩:=HX.out.facts;have ar:=(n6 x.key a3).1;have a4:Hid (gz l x=l.take (az l x.key)++([x]++l.drop (if d9 l x.key=true then az l x.key+1 else az l x.key))):=rfl;rcases hR.form with ⟨rfl,rfl⟩|⟨g,cap,rfl,ax,aG⟩
 .have AT:=Dl (w:=W) (a:=none) (c:=0) (l:=[]) x.key (.inl rfl) (by simp) a3
  have ay:az [] x.key=0:=by simpa using ar
  have aB:d9 [] x.key=false:=rfl;rw[ay,aB]at AT;have aa:Hid (gz [] x=(([]:List Rw)++[x])++[]):=by show _=_;rw[a4.out];simp
  have a6:Hid (([]:List Rw).length=0):=rfl;have ak:Hid (([]:List Rw).length=0):=rfl;have al:Hid (∀ u,Below w.heap.size w u→SlV u (.slice none 0 0) ([]:List Rw)):=fun u _=>⟨none,0,rfl,.inl rfl⟩
  clear hR hb hW a3 ar a4 ay aB;go_enter func116,ntmps116;go_wp2_with fail;rw[<- HW.out];go_wp2_with fail;refine AT.mono ?_;clear AT;rintro e w2 ⟨rfl,b2⟩;obtain⟨ag,o0,o1,o2⟩:=(m6.below HX.out b2).facts;have av:Hid (Below W.heap.size W w2):=b2;have a8:Hid (m6 w2 w.heap.size x):=m6.below HX.out b2;have a0:Hid (Below w.heap.size w w2):=HB.out.trans (b2.mono HB.out.size);have HA:Hid (Below w2.heap.size w2 (w2.alloc (.cells #[] 37))):=bY _;have ab:Hid (Rws (w2.alloc (.cells #[] 37)) w2.heap.size (.slice (some ⟨w2.heap.size,0,none⟩) 0 0) []):=sn w2 _ _ rfl bR;have ae:Hid (SlV (w2.alloc (.cells #[] 37)) (.slice none 0 0) []):=⟨none,0,rfl,.inl rfl⟩;clear b2
  go_wp2_with (at_builtin;refine ef rfl _ _ rfl w2.heap.size (.slice (some ⟨w2.heap.size,0,none⟩) 0 0) (.slice none 0 0) [] [] rfl rfl ab.out ae.out (by first|(rw[a6.out];simp;omega)|simp) HA.out.size ?_)
  intro v3 w3 i3 g3;have b3:Below w2.heap.size w2 w3:=Below.grown HA.out g3 HA.out.size (fun j hj=>(World.ownsRow.lt ab.out j hj).1);have aw:Hid (Below w2.heap.size w2 w3):=b3;have a9:Hid (Rws (w3.alloc (.cells #[.string x.key,.string x.text,.string x.val] 37)) w2.heap.size v3 []):=Rws.below i3 (bY _);have af:Hid (SlV (w3.alloc (.cells #[.string x.key,.string x.text,.string x.val] 37)) (.slice (some ⟨w3.heap.size,0,none⟩) 1 1) [x]):=(gg w3 _ w3.heap.size x rfl bR).slV;have ah:Hid (Below w3.heap.size w3 (w3.alloc (.cells #[.string x.key,.string x.text,.string x.val] 37))):=bY _;have a1:Hid (Below w2.heap.size w2 (w3.alloc (.cells #[.string x.key,.string x.text,.string x.val] 37))):=b3.trans (ah.out.mono b3.size);obtain⟨ac,ao,ap,aq⟩:=(m6.below a8.out b3).facts
  clear i3 g3 b3 o0 o1 o2 ag ab ae;go_wp2_with (at_builtin;refine ef rfl _ _ rfl w2.heap.size v3 (.slice (some ⟨w3.heap.size,0,none⟩) 1 1) [] [x] rfl rfl a9.out af.out (by first|(rw[a6.out];simp;omega)|simp) a1.out.size ?_)
  intro v4 w4 i4 g4;have b4:Below w2.heap.size w2 w4:=Below.grown a1.out g4 a1.out.size (fun j hj=>(World.ownsRow.lt a9.out j hj).1);have a7:Hid (Below w2.heap.size w2 w4):=b4;have ad:Hid (Rws w4 w2.heap.size v4 (([]:List Rw)++[x])):=(by first|exact i4|simpa using i4);have am:Hid (SlV w4 (.slice none 0 0) []):=al.out w4 (a0.out.trans (b4.mono a0.out.size));clear i4 g4 b4 ao ap aq ac a9 af;go_wp2_with (at_builtin;refine ef rfl _ _ rfl w2.heap.size v4 (.slice none 0 0) (([]:List Rw)++[x]) [] rfl rfl ad.out am.out (by first|(rw[List.length_append,a6.out,ak.out];simp;omega)|simp) a7.out.size ?_)
  intro v5 w5 i5 g5;have ai:Hid (Below w.heap.size w w5):=a0.out.trans ((Below.grown a7.out g5 a7.out.size (fun j hj=>(World.ownsRow.lt ad.out j hj).1)).mono a0.out.size);have aj:Hid (Rws w5 w.heap.size v5 (gz [] x)):=by show Rws _ _ _ _;rw[aa.out];exact cz (by first|exact i5|simpa using i5) a0.out.size
  clear i5 g5;go_wp2;go_ret;exact⟨_,rfl,aj.out,ai.out⟩
 .have AT:=Dl (w:=W) (c:=cap) x.key (ew (hR.below hb)) (by omega) a3
  have HR:Hid (Rws w B (.slice (some ⟨g,0,none⟩) l.length cap) l):=hR
  cases hth:d9 l x.key
  .rw[hth]at AT
   have a5:gz l x=(l.take (az l x.key)++[x])++l.drop (az l x.key):=by rw[a4.out,hth,if_neg (by simp),List.append_assoc]
   generalize az l x.key=p at AT a5 ar;have aa:Hid (gz l x=(l.take p++[x])++l.drop p):=a5;have aF:(p:Int)≤(cap:Int):=by omega
   have a6:Hid ((l.take p).length=p):=by show _=_;rw[List.length_take];omega
   have ak:Hid ((l.drop p).length=l.length-p):=List.length_drop;obtain⟨a2,n2,c2,an,au⟩:=V0 (p:=p) (cap:=cap) rfl (by omega) ax (ew hR);have al:Hid (∀ u,Below w.heap.size w u→SlV u (.slice a2 n2 c2) (l.drop p)):=an;clear hR hb hW a3 a4 hth a5 an;go_enter func116,ntmps116;go_wp2_with fail;rw[<- HW.out];go_wp2_with fail;refine AT.mono ?_;clear AT;rintro e w2 ⟨rfl,b2⟩;obtain⟨ag,o0,o1,o2⟩:=(m6.below HX.out b2).facts;have av:Hid (Below W.heap.size W w2):=b2;have a8:Hid (m6 w2 w.heap.size x):=m6.below HX.out b2;have a0:Hid (Below w.heap.size w w2):=HB.out.trans (b2.mono HB.out.size);have HA:Hid (Below w2.heap.size w2 (w2.alloc (.cells #[] 37))):=bY _;have ab:Hid (Rws (w2.alloc (.cells #[] 37)) w2.heap.size (.slice (some ⟨w2.heap.size,0,none⟩) 0 0) []):=sn w2 _ _ rfl bR
   have ae:Hid (SlV (w2.alloc (.cells #[] 37)) (.slice (some ⟨g,0,none⟩) p cap) (l.take p)):=⟨_,_,by rw[a6.out],(ew (HR.out.below (a0.out.trans (HA.out.mono a0.out.size)))).take p⟩;clear b2;go_wp2_with (at_builtin;refine ef rfl _ _ rfl w2.heap.size (.slice (some ⟨w2.heap.size,0,none⟩) 0 0) (.slice (some ⟨g,0,none⟩) p cap) [] (l.take p) rfl rfl ab.out ae.out (by first|(rw[a6.out];simp;omega)|simp) HA.out.size ?_)
   intro v3 w3 i3 g3;have b3:Below w2.heap.size w2 w3:=Below.grown HA.out g3 HA.out.size (fun j hj=>(World.ownsRow.lt ab.out j hj).1);have aw:Hid (Below w2.heap.size w2 w3):=b3;have a9:Hid (Rws (w3.alloc (.cells #[.string x.key,.string x.text,.string x.val] 37)) w2.heap.size v3 (l.take p)):=Rws.below i3 (bY _);have af:Hid (SlV (w3.alloc (.cells #[.string x.key,.string x.text,.string x.val] 37)) (.slice (some ⟨w3.heap.size,0,none⟩) 1 1) [x]):=(gg w3 _ w3.heap.size x rfl bR).slV;have ah:Hid (Below w3.heap.size w3 (w3.alloc (.cells #[.string x.key,.string x.text,.string x.val] 37))):=bY _;have a1:Hid (Below w2.heap.size w2 (w3.alloc (.cells #[.string x.key,.string x.text,.string x.val] 37))):=b3.trans (ah.out.mono b3.size);obtain⟨ac,ao,ap,aq⟩:=(m6.below a8.out b3).facts
   clear i3 g3 b3 o0 o1 o2 ag ab ae;go_wp2_with (at_builtin;refine ef rfl _ _ rfl w2.heap.size v3 (.slice (some ⟨w3.heap.size,0,none⟩) 1 1) (l.take p) [x] rfl rfl a9.out af.out (by first|(rw[a6.out];simp;omega)|simp) a1.out.size ?_)
   intro v4 w4 i4 g4;have b4:Below w2.heap.size w2 w4:=Below.grown a1.out g4 a1.out.size (fun j hj=>(World.ownsRow.lt a9.out j hj).1);have a7:Hid (Below w2.heap.size w2 w4):=b4;have ad:Hid (Rws w4 w2.heap.size v4 ((l.take p)++[x])):=(by first|exact i4|simpa using i4);have am:Hid (SlV w4 (.slice a2 n2 c2) (l.drop p)):=al.out w4 (a0.out.trans (b4.mono a0.out.size));clear i4 g4 b4 ao ap aq ac a9 af;go_wp2_with (at_builtin;refine ef rfl _ _ rfl w2.heap.size v4 (.slice a2 n2 c2) ((l.take p)++[x]) (l.drop p) rfl rfl ad.out am.out (by first|(rw[List.length_append,a6.out,ak.out];simp;omega)|simp) a7.out.size ?_)
   intro v5 w5 i5 g5;have ai:Hid (Below w.heap.size w w5):=a0.out.trans ((Below.grown a7.out g5 a7.out.size (fun j hj=>(World.ownsRow.lt ad.out j hj).1)).mono a0.out.size);have aj:Hid (Rws w5 w.heap.size v5 (gz l x)):=by show Rws _ _ _ _;rw[aa.out];exact cz (by first|exact i5|simpa using i5) a0.out.size
   clear i5 g5;go_wp2;go_ret;exact⟨_,rfl,aj.out,ai.out⟩
  .rw[hth]at AT
   have aC:=(py a3 hth).2;have a5:gz l x=(l.take (az l x.key)++[x])++l.drop (az l x.key+1):=by rw[a4.out,hth,if_pos rfl,List.append_assoc]
   generalize az l x.key=p at AT a5 ar aC;obtain⟨p1,aA⟩:∃ p1,p1=p+1:=⟨_,rfl⟩
   rw[<- aA]at a5;have aD:(p:Int)+1=(p1:Int):=by omega
   have aE:IntKind.i64.wrap (p1:Int)=(p1:Int):=by rw[IntKind.wrap_i64];omega
   have aa:Hid (gz l x=(l.take p++[x])++l.drop p1):=a5;have aF:(p:Int)≤(cap:Int):=by omega
   have a6:Hid ((l.take p).length=p):=by show _=_;rw[List.length_take];omega
   have ak:Hid ((l.drop p1).length=l.length-p1):=List.length_drop;obtain⟨a2,n2,c2,an,au⟩:=V0 (p:=p1) (cap:=cap) rfl (by omega) ax (ew hR);have al:Hid (∀ u,Below w.heap.size w u→SlV u (.slice a2 n2 c2) (l.drop p1)):=an;clear hR hb hW a3 a4 hth a5 an aA;go_enter func116,ntmps116;go_wp2_with fail;rw[<- HW.out];go_wp2_with fail;refine AT.mono ?_;clear AT;rintro e w2 ⟨rfl,b2⟩;obtain⟨ag,o0,o1,o2⟩:=(m6.below HX.out b2).facts;have av:Hid (Below W.heap.size W w2):=b2;have a8:Hid (m6 w2 w.heap.size x):=m6.below HX.out b2;have a0:Hid (Below w.heap.size w w2):=HB.out.trans (b2.mono HB.out.size);have HA:Hid (Below w2.heap.size w2 (w2.alloc (.cells #[] 37))):=bY _;have ab:Hid (Rws (w2.alloc (.cells #[] 37)) w2.heap.size (.slice (some ⟨w2.heap.size,0,none⟩) 0 0) []):=sn w2 _ _ rfl bR
   have ae:Hid (SlV (w2.alloc (.cells #[] 37)) (.slice (some ⟨g,0,none⟩) p cap) (l.take p)):=⟨_,_,by rw[a6.out],(ew (HR.out.below (a0.out.trans (HA.out.mono a0.out.size)))).take p⟩;clear b2;go_wp2_with (at_builtin;refine ef rfl _ _ rfl w2.heap.size (.slice (some ⟨w2.heap.size,0,none⟩) 0 0) (.slice (some ⟨g,0,none⟩) p cap) [] (l.take p) rfl rfl ab.out ae.out (by first|(rw[a6.out];simp;omega)|simp) HA.out.size ?_)
   intro v3 w3 i3 g3;have b3:Below w2.heap.size w2 w3:=Below.grown HA.out g3 HA.out.size (fun j hj=>(World.ownsRow.lt ab.out j hj).1);have aw:Hid (Below w2.heap.size w2 w3):=b3;have a9:Hid (Rws (w3.alloc (.cells #[.string x.key,.string x.text,.string x.val] 37)) w2.heap.size v3 (l.take p)):=Rws.below i3 (bY _);have af:Hid (SlV (w3.alloc (.cells #[.string x.key,.string x.text,.string x.val] 37)) (.slice (some ⟨w3.heap.size,0,none⟩) 1 1) [x]):=(gg w3 _ w3.heap.size x rfl bR).slV;have ah:Hid (Below w3.heap.size w3 (w3.alloc (.cells #[.string x.key,.string x.text,.string x.val] 37))):=bY _;have a1:Hid (Below w2.heap.size w2 (w3.alloc (.cells #[.string x.key,.string x.text,.string x.val] 37))):=b3.trans (ah.out.mono b3.size);obtain⟨ac,ao,ap,aq⟩:=(m6.below a8.out b3).facts
   clear i3 g3 b3 o0 o1 o2 ag ab ae;go_wp2_with (at_builtin;refine ef rfl _ _ rfl w2.heap.size v3 (.slice (some ⟨w3.heap.size,0,none⟩) 1 1) (l.take p) [x] rfl rfl a9.out af.out (by first|(rw[a6.out];simp;omega)|simp) a1.out.size ?_)
   intro v4 w4 i4 g4;have b4:Below w2.heap.size w2 w4:=Below.grown a1.out g4 a1.out.size (fun j hj=>(World.ownsRow.lt a9.out j hj).1);have a7:Hid (Below w2.heap.size w2 w4):=b4;have ad:Hid (Rws w4 w2.heap.size v4 ((l.take p)++[x])):=(by first|exact i4|simpa using i4);have am:Hid (SlV w4 (.slice a2 n2 c2) (l.drop p1)):=al.out w4 (a0.out.trans (b4.mono a0.out.size));clear i4 g4 b4 ao ap aq ac a9 af;go_wp2_with (at_builtin;refine ef rfl _ _ rfl w2.heap.size v4 (.slice a2 n2 c2) ((l.take p)++[x]) (l.drop p1) rfl rfl ad.out am.out (by first|(rw[List.length_append,a6.out,ak.out];simp;omega)|simp) a7.out.size ?_)
   intro v5 w5 i5 g5;have ai:Hid (Below w.heap.size w w5):=a0.out.trans ((Below.grown a7.out g5 a7.out.size (fun j hj=>(World.ownsRow.lt ad.out j hj).1)).mono a0.out.size);have aj:Hid (Rws w5 w.heap.size v5 (gz l x)):=by show Rws _ _ _ _;rw[aa.out];exact cz (by first|exact i5|simpa using i5) a0.out.size
   clear i5 g5;go_wp2;go_ret;exact⟨_,rfl,aj.out,ai.out⟩
theorem Gn {w:World} {B Bl:Nat} {ve vr:Value} {R:RA} {l:List Rw}(o:Dn) (aw:o.text.size≤1048576) (aA:o.val.size≤60) (hE:ac w B ve R.es) (av:ay R.es R.lv=true) (hl:Rws w Bl vr l) (a4:lm l) (aC:l.length≤60) :
  Calls prog 79 #[.agg #[ve,.bool R.sh,.int .i64 R.lv],vr,.agg #[.int .i64 (kn7 o),.string o.text,.string o.val]] w fun e w' =>
   ∃ v,e=.returned (.tuple #[v,.bool (decide (apC R l o=0))])∧(apC R l o=0→Rws w' w.heap.size v (apR R l o))∧Below w.heap.size w w':=by
 obtain⟨va,vc,rfl⟩:=cu hE;obtain⟨ar,cr,aB⟩:=bz hl;subst aB;obtain⟨W,hW⟩:∃ W,W=(w.alloc (.cells #[.slice va R.es.length vc,.bool R.sh,.int .i64 R.lv] 56)).alloc (.cells #[.int .i64 (kn7 o),.string o.text,.string o.val] 27):=⟨_,rfl⟩
 have b0:Below w.heap.size w W:=by rw[hW];exact (bY _).alloc (by simp) _
 have HB:Hid (Below w.heap.size w W):=b0;have HO:Hid (gi W (w.heap.size+1) (kn7 o) o.text o.val):=by
  have h:=heap_alloc_new (w.alloc (.cells #[.slice va R.es.length vc,.bool R.sh,.int .i64 R.lv] 56)) (.cells #[.int .i64 (kn7 o),.string o.text,.string o.val] 27);rw[World.size_alloc]at h;show _=_
  rw[hW];exact h
 have HU:Hid (jf W w.heap.size (.slice va R.es.length vc) R.sh R.lv):=by
  show _=_
  rw[hW,Below.heap_alloc _ _ _ (by simp)];exact heap_alloc_new w _
 have HL:Hid (Rws W Bl (.slice ar l.length cr) l):=hl.below b0;have HW:Hid (W=(w.alloc (.cells #[.slice va R.es.length vc,.bool R.sh,.int .i64 R.lv] 56)).alloc (.cells #[.int .i64 (kn7 o),.string o.text,.string o.val] 27)):=hW;have LK:=Cj o.text aw (hE.below b0) av;obtain⟨ae,u0,u1,u2⟩:=HU.out.facts;obtain⟨a7,o0,o1,o2⟩:=HO.out.facts;have ad:Hid (lm l):=a4;clear hE hl a4 b0 hW
 cases hfit:gn R o.text
 .have HC:Hid (apC R l o=2):=rz (by rw[hfit];rfl)
  rw[hfit]at LK;generalize (if o.text.size≤60 then bh R o.text else ⟨#[]⟩)=key at LK;clear hfit;generalize kn7 o=kd at *;go_enter func79,ntmps79;go_wp2_with fail;rw[<- HW.out];go_wp2_with fail;refine LK.mono ?_;rintro e w1 ⟨rfl,b1⟩;have a1:Hid (Below w.heap.size w w1):=HB.out.trans (b1.mono HB.out.size);clear LK b1 u0 u1 u2 ae o0 o1 o2 a7;go_wp2;go_ret2;exact⟨_,by (rw[HC.out];try rfl),fun h=>absurd h (by rw[HC.out];decide),a1.out⟩
 .rw[if_pos (vk hfit).1,hfit]at LK
  have ab:(gn R o.text && decide (o.val.size≤60))=true:=by rw[hfit,decide_eq_true aA];rfl
  obtain⟨key,a6⟩:∃ key,key=bh R o.text:=⟨_,rfl⟩
  rw[<- a6]at LK;have a5:Hid (key=bh R o.text):=a6;clear a6 hfit
  cases hput:o.put
  .have hc:=Fg (l:=l) ab hput
   have a9:kn7 o=2:=by unfold kn7;rw[hput];rfl
   have a0:apR R l o=qz l key:=by unfold apR;rw[hput,a5.out];rfl
   rw[<- a5.out]at hc;rw[a9]at o0 HW HO ⊢;have AT:=fun (u:World) (hu:Below W.heap.size W u)=>Dl (c:=cr) key (ew (HL.out.below hu)) (by omega) ad.out
   cases hth:d9 l key
   .have HC:Hid (apC R l o=4):=by show _=_;rw[hc,hth];rfl
    rw[hth]at AT;generalize az l key=p at AT;clear hc ab a9 a0 hth;go_enter func79,ntmps79;go_wp2_with fail;rw[<- HW.out];go_wp2_with fail;refine LK.mono ?_;rintro e w1 ⟨rfl,b1⟩;have aa:=AT w1 b1;obtain⟨a7,o0,o1,o2⟩:=(HO.out.below b1).facts;have a1:Hid (Below w.heap.size w w1):=HB.out.trans (b1.mono HB.out.size);clear LK b1 u0 u1 u2 ae AT;go_wp2_with fail;refine aa.mono ?_;rintro e w2 ⟨rfl,b2⟩;have a3:Hid (Below w.heap.size w w2):=a1.out.trans (b2.mono a1.out.size);clear aa b2 o0 o1 o2 a7;go_wp2;go_ret2;exact⟨_,by (rw[HC.out];try rfl),fun h=>absurd h (by rw[HC.out];decide),a3.out⟩
   .have HC:Hid (apC R l o=0):=by show _=_;rw[hc,hth];rfl
    have am:=(py ad.out hth).2;rw[hth]at AT;have ai:Hid (apR R l o=l.take (az l key)++l.drop (az l key+1)):=a0;generalize az l key=p at AT am ai;clear hc ab a9 a0 hth;go_enter func79,ntmps79;go_wp2_with fail;rw[<- HW.out];go_wp2_with fail;refine LK.mono ?_;rintro e w1 ⟨rfl,b1⟩;have aa:=AT w1 b1;obtain⟨a7,o0,o1,o2⟩:=(HO.out.below b1).facts;have a1:Hid (Below W.heap.size W w1):=b1;clear LK b1 u0 u1 u2 ae AT;go_wp2_with fail;refine aa.mono ?_;rintro e w2 ⟨rfl,b2⟩;have af:=a1.out.trans (b2.mono a1.out.size);have a3:Hid (Below w.heap.size w w2):=HB.out.trans (af.mono HB.out.size);have DR:=Yk (HL.out.below af) am (by omega);rw[<- ai.out]at DR;clear aa b2 o0 o1 o2 a7 af;go_wp2_with fail;refine DR.mono ?_;rintro e w3 ⟨v3,rfl,r3,b3⟩;have an:Hid (Below w.heap.size w w3):=a3.out.trans (b3.mono a3.out.size)
    have aq:Hid (Rws w3 w.heap.size v3 (apR R l o)):=cz r3 a3.out.size;clear DR r3 b3;go_wp2;go_ret2;exact⟨_,by (rw[HC.out];try rfl),fun _=>aq.out,an.out⟩
  .have hc:=Im (l:=l) ab hput
   have a9:kn7 o=1:=by unfold kn7;rw[hput];rfl
   have a8:Cy R o=⟨key,o.text,o.val⟩:=by unfold Cy;rw[a5.out]
   have a0:apR R l o=gz l ⟨key,o.text,o.val⟩:=by unfold apR;rw[hput,a8];rfl
   rw[a8]at hc;rw[a9]at o0 HW HO ⊢;have PT:=fun (u:World) (hu:Below W.heap.size W u)=>ae7 ⟨key,o.text,o.val⟩ (HL.out.below hu) (by omega) ad.out
   have aj:Hid ((gz l ⟨key,o.text,o.val⟩).length≤l.length+1):=Nk ad.out;have ag:Hid (apR R l o=gz l ⟨key,o.text,o.val⟩):=a0;obtain⟨D,HD⟩:∃ D,Hid (gz l ⟨key,o.text,o.val⟩=D):=⟨_,rfl⟩
   rw[HD.out]at ag PT hc aj;have HC:Hid (apC R l o=if D.length≤60 then 0 else 3):=hc;clear hc ab a9 a0 a8;go_enter func79,ntmps79;go_wp2_with fail;rw[<- HW.out];go_wp2_with fail;refine LK.mono ?_;rintro e w1 ⟨rfl,b1⟩;have ak:=PT w1 b1;obtain⟨a7,o0,o1,o2⟩:=(HO.out.below b1).facts;have a1:Hid (Below w.heap.size w w1):=HB.out.trans (b1.mono HB.out.size);clear LK b1 u0 u1 u2 ae PT;go_wp2_with fail;refine ak.mono ?_;rintro e w2 ⟨v2,rfl,r2,b2⟩;obtain⟨a2,c2,ax⟩:=bz r2;subst ax;have a3:Hid (Below w.heap.size w w2):=a1.out.trans (b2.mono a1.out.size);have ap:Hid (Rws w2 w.heap.size (.slice a2 D.length c2) (apR R l o)):=by show Rws _ _ _ _;rw[ag.out];exact cz r2 a1.out.size
   have aD:=aj.out;clear ak r2 b2 o0 o1 o2 a7;by_cases hD:D.length≤60
   .have al:(D.length:Int)≤60:=by omega
    have ao:Hid (apC R l o=0):=by show _=_;rw[HC.out,if_pos hD]
    clear HC;go_wp2;go_ret2;exact⟨_,by (rw[ao.out];try rfl),fun _=>ap.out,a3.out⟩
   .have al:¬ (D.length:Int)≤60:=by omega
    have ah:Hid (apC R l o=3):=by show _=_;rw[HC.out,if_neg hD]
    have au:decide ((D.length:Int)≤60)=false:=decide_eq_false al;clear HC;go_wp2;go_ret2;exact⟨.slice a2 D.length c2,by (rw[ah.out];first|rfl|(rw[show decide ((3:Int)=0)=decide ((D.length:Int)≤60) by rw[au];rfl];rfl)),fun h=>absurd h (by rw[ah.out];decide),a3.out⟩
end Go.Proofs.YtjbmgghehdemdaaGreatDoor
