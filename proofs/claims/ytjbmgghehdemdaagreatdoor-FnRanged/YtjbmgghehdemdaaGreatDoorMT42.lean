/- SRng7 -/
import Derived.Test.YtjbmgghehdemdaaGreatDoorMT38
import Derived.Test.YtjbmgghehdemdaaGreatDoorMT41
namespace Go.Proofs.YtjbmgghehdemdaaGreatDoor
set_option maxRecDepth 100000
set_option maxHeartbeats 16000000
open _root_.Go.Proofs.Tryz
open Go.RowKit
structure Hr9 (w u:World) (br:Nat) (d:Ds7) (vp ve vr:Value) (R:RA) (l:List Rw):Prop where
 disk:ba u w.heap.size d.r vp d.log d.syn
 rul:jf u br ve R.sh R.lv
 ents:ac u w.heap.size ve R.es
 rows:Rws u w.heap.size vr l
 bel:Below w.heap.size w u
theorem Hr9.below {w u u':World} {br:Nat} {d:Ds7} {vp ve vr:Value} {R:RA} {l:List Rw}(h:Hr9 w u br d vp ve vr R l) (hb:Below u.heap.size u u'):Hr9 w u' br d vp ve vr R l :=
 ⟨h.disk.below hb,h.rul.below hb,h.ents.below hb,h.rows.below hb,h.bel.trans (hb.mono h.bel.size)⟩
theorem Ks {d:Ds7} {lo hi:ByteArray}(h:cm d=none):dw d lo hi=none:=by unfold dw;rw[h]
theorem F5 {d:Ds7} {lo hi:ByteArray} {l:List Rw}(h:cm d=some l) (hn:¬ (lo.size≤60∧hi.size≤60)):dw d lo hi=none:=by
 unfold dw;rw[h];show (if _ then _ else _)=_
 rw[if_neg hn]
theorem Wd {d:Ds7} {lo hi:ByteArray} {l:List Rw}(h:cm d=some l) (hn:lo.size≤60∧hi.size≤60):dw d lo hi=some (l.filter (inK (bh (aa d.r) lo) (bh (aa d.r) hi))):=by
 unfold dw;rw[h];show (if _ then _ else _)=_
 rw[if_pos hn]
theorem Lj {w:World} {B:Nat} {vd:Value} {d:Ds7}(lo hi:ByteArray) (aS:lo.size≤1048576) (aP:hi.size≤1048576) (hD:Dk7 w B vd d) :
  Calls prog 22 #[.agg #[.string d.r,vd,.string d.log,.int .i64 d.syn],.string lo,.string hi] w fun e w'=>∃ v,e=.returned (.tuple #[v,.bool (dw d lo hi).isSome])∧Rws w' w.heap.size v ((dw d lo hi).getD [])∧Below w.heap.size w w':=by
 obtain⟨ad,cd,aT⟩:=hD.form;subst aT;have aA:Below w.heap.size w (w.alloc (.cells #[.string d.r,.slice ad d.ss.length cd,.string d.log,.int .i64 d.syn] 25)):=bY _;have OD:=om (hD.below aA);have av:Hid (∀ u,Below w.heap.size w u→Dk7 u B (.slice ad d.ss.length cd) d):=fun u hu=>hD.below hu
 have a7:Hid (Below w.heap.size w (w.alloc (.cells #[.string d.r,.slice ad d.ss.length cd,.string d.log,.int .i64 d.syn] 25))):=aA;have ak:Hid (ba (w.alloc (.cells #[.string d.r,.slice ad d.ss.length cd,.string d.log,.int .i64 d.syn] 25)) w.heap.size d.r (.slice ad d.ss.length cd) d.log d.syn):=ba.new w _ _ _ _;have ay:Hid (Ok7 d):=hD.ok;clear hD aA
 cases ho:fu d with
 | none =>
  have a3:Hid (dw d lo hi=none):=Ks (by unfold cm;rw[ho];split <;> rfl);rw[ho]at OD;have aj:Calls prog 32 #[.agg #[.string d.r,(.slice ad d.ss.length cd),.string d.log,.int .i64 d.syn]] (w.alloc (.cells #[.string d.r,.slice ad d.ss.length cd,.string d.log,.int .i64 d.syn] 25)) fun e w'=>∃ ve vr,e=.returned (.tuple #[.agg #[ve,.bool (aa d.r).sh,.int .i64 (aa d.r).lv],vr,.bool false])∧ac w' (w.alloc (.cells #[.string d.r,.slice ad d.ss.length cd,.string d.log,.int .i64 d.syn] 25)).heap.size ve (aa d.r).es∧Rws w' (w.alloc (.cells #[.string d.r,.slice ad d.ss.length cd,.string d.log,.int .i64 d.syn] 25)).heap.size vr []∧Below (w.alloc (.cells #[.string d.r,.slice ad d.ss.length cd,.string d.log,.int .i64 d.syn] 25)).heap.size (w.alloc (.cells #[.string d.r,.slice ad d.ss.length cd,.string d.log,.int .i64 d.syn] 25)) w':=OD
  clear OD ho av ay ak;go_enter func22,ntmps22;go_wp2_with fail;refine aj.mono ?_;rintro e w1 ⟨ve,vr,rfl,h1,h2,b1⟩;obtain⟨va,vc,aD⟩:=cu h1;subst aD;have aB:=a7.out.trans (b1.mono a7.out.size);have a5:Hid (∀ o,Below w.heap.size w (w1.alloc o)):=fun o=>aB.alloc aB.size o
  clear aj h1 h2 b1 aB;go_wp2;go_ret2;exact⟨_,by rw[a3.out];rfl,by rw[a3.out];exact World.ownsRow_nil _ _ _ _,a5.out _⟩
 | some l =>
  rw[ho]at OD;have aj:Calls prog 32 #[.agg #[.string d.r,(.slice ad d.ss.length cd),.string d.log,.int .i64 d.syn]] (w.alloc (.cells #[.string d.r,.slice ad d.ss.length cd,.string d.log,.int .i64 d.syn] 25)) fun e w'=>∃ ve vr,e=.returned (.tuple #[.agg #[ve,.bool (aa d.r).sh,.int .i64 (aa d.r).lv],vr,.bool true])∧ac w' (w.alloc (.cells #[.string d.r,.slice ad d.ss.length cd,.string d.log,.int .i64 d.syn] 25)).heap.size ve (aa d.r).es∧Rws w' (w.alloc (.cells #[.string d.r,.slice ad d.ss.length cd,.string d.log,.int .i64 d.syn] 25)).heap.size vr l∧Below (w.alloc (.cells #[.string d.r,.slice ad d.ss.length cd,.string d.log,.int .i64 d.syn] 25)).heap.size (w.alloc (.cells #[.string d.r,.slice ad d.ss.length cd,.string d.log,.int .i64 d.syn] 25)) w':=OD
  have HO:Hid (fu d=some l):=ho;clear OD ho;go_enter func22,ntmps22;go_wp2_with fail;refine aj.mono ?_;rintro e w1 ⟨ve,vr,rfl,h1,h2,b1⟩;obtain⟨va,vc,aD⟩:=cu h1;subst aD;obtain⟨ar,cr,aU⟩:=bz h2;subst aU;obtain⟨w2,au⟩:∃ w2,w2=w1.alloc (.cells #[.slice va (aa d.r).es.length vc,.bool (aa d.r).sh,.int .i64 (aa d.r).lv] 56):=⟨_,rfl⟩
  have an:Hid (w2=w1.alloc (.cells #[.slice va (aa d.r).es.length vc,.bool (aa d.r).sh,.int .i64 (aa d.r).lv] 56)):=au;have ap:Below w1.heap.size w1 w2:=by rw[au];exact bY _
  have az:=b1.trans (ap.mono b1.size);have aC:Hr9 w w2 w1.heap.size d (.slice ad d.ss.length cd) (.slice va (aa d.r).es.length vc) (.slice ar l.length cr) (aa d.r) l:=⟨ak.out.below az,by show _=_;rw[au];exact heap_alloc_new w1 _,(ac.low h1 a7.out.size).below ap,(cz h2 a7.out.size).below ap,a7.out.trans (az.mono a7.out.size)⟩;have GD:=uf (av.out w2 aC.bel);have al:Hid (Hr9 w w2 w1.heap.size d (.slice ad d.ss.length cd) (.slice va (aa d.r).es.length vc) (.slice ar l.length cr) (aa d.r) l):=aC;obtain⟨aW,d0,d1,d2,d3,df⟩:=(ak.out.below b1).facts;have aq:=nu HO.out;have aR:=(jz ay.out HO.out).len;clear aj h1 h2 b1 ap az au aC ak av ay
  cases hsy:ov d
  .have a3:Hid (dw d lo hi=none):=Ks (by unfold cm;rw[if_neg (by rw[hsy];simp)])
   have ab:(cm d).isSome=false:=by unfold cm;rw[if_neg (by rw[hsy];simp)];rfl
   rw[ab]at GD;clear hsy ab HO;go_wp2_with fail;rw[<- an.out];refine GD.mono ?_;rintro e w3 ⟨rfl,b3⟩;have ae:Hid (Below w.heap.size w w3):=(al.out.below b3).bel;clear GD b3 al an;go_wp2;go_ret2;exact⟨_,by rw[a3.out];rfl,by rw[a3.out];exact World.ownsRow_nil _ _ _ _,ae.out⟩
  .have ab:cm d=some l:=by unfold cm;rw[if_pos hsy];exact HO.out
   have ax:Hid (cm d=some l):=ab;rw[ab]at GD;have aE:Calls prog 33 #[.agg #[.string d.r,(.slice ad d.ss.length cd),.string d.log,.int .i64 d.syn]] w2 fun e w'=>e=.returned (.bool true)∧Below w2.heap.size w2 w':=GD
   clear hsy ab HO GD;go_wp2_with fail;rw[<- an.out];refine aE.mono ?_;rintro e w3 ⟨rfl,b3⟩;have a9:Hid (Hr9 w w3 w1.heap.size d (.slice ad d.ss.length cd) (.slice va (aa d.r).es.length vc) (.slice ar l.length cr) (aa d.r) l):=al.out.below b3;clear aE b3 al an;by_cases ha:¬ lo.size≤60
   .have a3:Hid (dw d lo hi=none):=F5 ax.out (fun c=>ha c.1)
    have aM:(60:Int)<(lo.size:Int):=by omega
    have ae:Hid (Below w.heap.size w w3):=a9.out.bel;go_wp2;go_ret2;exact⟨_,by rw[a3.out];rfl,by rw[a3.out];exact World.ownsRow_nil _ _ _ _,ae.out⟩
   replace ha:lo.size≤60:=Decidable.not_not.1 ha;have aM:¬ (60:Int)<(lo.size:Int):=by omega
   by_cases hb:¬ hi.size≤60
   .have a3:Hid (dw d lo hi=none):=F5 ax.out (fun c=>hb c.2)
    have aN:(60:Int)<(hi.size:Int):=by omega
    have ae:Hid (Below w.heap.size w w3):=a9.out.bel;go_wp2;go_ret2;exact⟨_,by rw[a3.out];rfl,by rw[a3.out];exact World.ownsRow_nil _ _ _ _,ae.out⟩
   replace hb:hi.size≤60:=Decidable.not_not.1 hb;have aN:¬ (60:Int)<(hi.size:Int):=by omega
   have a3:Hid (dw d lo hi=some (l.filter (inK (bh (aa d.r) lo) (bh (aa d.r) hi)))):=Wd ax.out ⟨ha,hb⟩;have K1:Calls prog 52 #[.agg #[(.slice va (aa d.r).es.length vc),.bool (aa d.r).sh,.int .i64 (aa d.r).lv],.string lo] w3 fun e w'=>e=.returned (.tuple #[.string (bh (aa d.r) lo),.bool true])∧Below w3.heap.size w3 w':=by
    have q:=Fb (sh:=(aa d.r).sh) (lv:=(aa d.r).lv) lo aS a9.out.ents (nd aq);rw[gd aq (by omega)]at q;exact q
   have aF:Hid (∀ u,ac u w.heap.size (.slice va (aa d.r).es.length vc) (aa d.r).es→Calls prog 52 #[.agg #[(.slice va (aa d.r).es.length vc),.bool (aa d.r).sh,.int .i64 (aa d.r).lv],.string hi] u fun e w'=>e=.returned (.tuple #[.string (bh (aa d.r) hi),.bool true])∧Below u.heap.size u w'):=fun u hu=>by
    have q:=Fb (sh:=(aa d.r).sh) (lv:=(aa d.r).lv) hi aP hu (nd aq);rw[gd aq (by omega)]at q;exact q
   obtain⟨aG,u0,u1,u2⟩:=a9.out.rul.facts;generalize bh (aa d.r) lo=from_ at *;generalize bh (aa d.r) hi=to_ at *;go_wp2_with fail;refine K1.mono ?_;rintro e w4 ⟨rfl,b4⟩;have am:Hid (Hr9 w w4 w1.heap.size d (.slice ad d.ss.length cd) (.slice va (aa d.r).es.length vc) (.slice ar l.length cr) (aa d.r) l):=a9.out.below b4;have K2:=aF.out w4 am.out.ents;obtain⟨aG,u0,u1,u2⟩:=am.out.rul.facts;clear K1 b4 a9 aF;go_wp2_with fail;refine K2.mono ?_;rintro e w5 ⟨rfl,b5⟩;have aw:Hid (Hr9 w w5 w1.heap.size d (.slice ad d.ss.length cd) (.slice va (aa d.r).es.length vc) (.slice ar l.length cr) (aa d.r) l):=am.out.below b5;have HS:Hid (∀ u,Below w5.heap.size w5 u→dd u ar l):=fun u hu=>ew (aw.out.rows.below hu)
   have aH:w.heap.size≤w5.heap.size:=aw.out.bel.size;clear K2 b5 am u0 u1 u2 aG;go_wp2_with fail;go_loopw [15,61] (fun v i wr=>∃ k:Nat,k≤l.length∧i=.int .i64 (k:Int)∧Rws wr w5.heap.size v ((l.take k).filter (inK from_ to_))∧Below w5.heap.size w5 wr) (fun _ i _=>l.length-(intOf i).toNat)
   case atStart=>exact⟨0,Nat.zero_le _,rfl,World.ownsRow_nil _ _ _ _,bX⟩
   case round =>
    obtain⟨k,hk,rfl,hR,hb⟩:=hrel;by_cases aQ:k<l.length
    .obtain⟨x,hx⟩:∃ x,l[k]? = some x:=by exact⟨_,List.getElem?_eq_getElem aQ⟩
     have aL:Hid (l[k]? = some x):=hx;rcases HS.out wr hb with h0|⟨b,o,rfl,hE⟩
     .rw[h0]at hx;simp at hx
     obtain⟨a0,a1,a2⟩:=hE k x hx;have aV:=ag a0;have aX:(k:Int)<(l.length:Int):=by omega
     have b1:Below wr.heap.size wr (wr.alloc (.cells #[.string x.key,.string x.text,.string x.val] 37)):=bY _;have b2:Below wr.heap.size wr ((wr.alloc (.cells #[.string x.key,.string x.text,.string x.val] 37)).alloc (.cells #[.string x.key,.string x.text,.string x.val] 37)):=b1.alloc (by simp) _;have a6:Hid ((l.take (k+1)).filter (inK from_ to_)=(l.take k).filter (inK from_ to_)++[x].filter (inK from_ to_)):=by show _=_;rw[List.take_add_one,aL.out,List.filter_append];rfl
     have aO:((l.take k).filter (inK from_ to_)).length≤60:=by have:=List.length_filter_le (inK from_ to_) (l.take k);have:=List.length_take_le k l;omega
     obtain⟨F1,aJ⟩:∃ F1,Hid ((l.take k).filter (inK from_ to_)=F1):=⟨_,rfl⟩
     have a4:Rws wr w5.heap.size u15 ((l.take k).filter (inK from_ to_)):=hR;rw[aJ.out]at a4 a6 aO;obtain⟨ra,rc,hv⟩:=bz a4;subst hv;have ah:Hid (∀ o,Rws (wr.alloc o) w5.heap.size (.slice ra F1.length rc) F1):=fun o=>a4.below (bY o)
     have a5:Hid (∀ o,Below w5.heap.size w5 (wr.alloc o)):=fun o=>hb.alloc hb.size o
     have ai:Hid (Rws ((wr.alloc (.cells #[.string x.key,.string x.text,.string x.val] 37)).alloc (.cells #[.string x.key,.string x.text,.string x.val] 37)) w5.heap.size (.slice ra F1.length rc) F1):=a4.below b2;have a8:Hid (Below w5.heap.size w5 ((wr.alloc (.cells #[.string x.key,.string x.text,.string x.val] 37)).alloc (.cells #[.string x.key,.string x.text,.string x.val] 37))):=hb.trans (b2.mono hb.size);have ao:Hid (SlV ((wr.alloc (.cells #[.string x.key,.string x.text,.string x.val] 37)).alloc (.cells #[.string x.key,.string x.text,.string x.val] 37)) (.slice (some ⟨wr.heap.size+1,0,none⟩) 1 1) [x]):=(gg (wr.alloc (.cells #[.string x.key,.string x.text,.string x.val] 37)) (wr.heap.size+1) 0 x (by simp) (Nat.zero_le _)).slV;clear hE hx hb b1 b2 hR a4
     cases hlo:ltK x.key from_
     .cases hhi:ltK x.key to_
      .have hp:inK from_ to_ x=false:=by unfold inK;rw[hlo,hhi];rfl
       have af:Hid ((l.take (k+1)).filter (inK from_ to_)=F1):=by show _=_;rw[a6.out];simp[hp]
       unfold ltK at hlo hhi;clear a6 ai a8 ao hp;go_wp2;exact⟨⟨k+1,by omega,by go_num,by rw[af.out];exact ah.out _,a5.out _⟩,by simp[intOf];omega⟩
      .have hp:inK from_ to_ x=true:=by unfold inK;rw[hlo,hhi];rfl
       have af:Hid ((l.take (k+1)).filter (inK from_ to_)=F1++[x]):=by show _=_;rw[a6.out];simp[hp]
       unfold ltK at hlo hhi;clear a6 hp ah a5;go_wp2_with (at_builtin;refine ef rfl _ _ rfl w5.heap.size (.slice ra F1.length rc) (.slice (some ⟨wr.heap.size+1,0,none⟩) 1 1) F1 [x] rfl rfl ai.out ao.out (by simp;omega) a8.out.size ?_)
       intro v8 w8 r8 g8;have aI:Hid (Below w5.heap.size w5 w8):=Below.grown a8.out g8 a8.out.size (fun j hj=>(World.ownsRow.lt ai.out j hj).1);have aK:Hid (Rws w8 w5.heap.size v8 (F1++[x])):=r8;clear r8 g8 ai a8 ao;go_wp2;exact⟨⟨k+1,by omega,by go_num,by rw[af.out];exact aK.out,aI.out⟩,by simp[intOf];omega⟩
     .have hp:inK from_ to_ x=false:=by unfold inK;rw[hlo];rfl
      have af:Hid ((l.take (k+1)).filter (inK from_ to_)=F1):=by show _=_;rw[a6.out];simp[hp]
      unfold ltK at hlo;clear a6 ai a8 ao hp;go_wp2;exact⟨⟨k+1,by omega,by go_num,by rw[af.out];exact ah.out _,a5.out _⟩,by simp[intOf];omega⟩
    .obtain rfl:k=l.length:=by omega
     have a4:Rws wr w5.heap.size u15 ((l.take l.length).filter (inK from_ to_)):=hR;rw[List.take_length]at a4;have ah:Hid (Rws wr w.heap.size u15 (l.filter (inK from_ to_))):=cz a4 aH;have a5:Hid (Below w.heap.size w wr):=aw.out.bel.trans (hb.mono aH);clear hR a4 hb;go_wp2;go_ret2;exact⟨_,by rw[a3.out];rfl,by rw[a3.out];exact ah.out,a5.out⟩
end Go.Proofs.YtjbmgghehdemdaaGreatDoor
