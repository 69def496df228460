/- IDisk7 -/
import Derived.Test.YtjbmgghehdemdaaGreatDoorMT36
import Derived.Test.YtjbmgghehdemdaaGreatDoorMT40
namespace Go.Proofs.YtjbmgghehdemdaaGreatDoor
set_option maxRecDepth 100000
set_option maxHeartbeats 16000000
open _root_.Go.Proofs.Tryz
open Go.RowKit
theorem Ak {w:World} {B:Nat} {v:Value} {es:List Ent}(h:ac w B v es):∃ a c,v=.slice a es.length c:=by
 rcases h.form with ⟨rfl,h0⟩|⟨_,_,rfl,_,_,_,_⟩
 .rw[h0];exact⟨_,_,rfl⟩
 .exact⟨_,_,rfl⟩
def Di:Prop:=∀ {w:World} {B:Nat} {vd:Value} {d:Ds7} {ty:TypeId} {pv:Value} {pb pl pf pn:Addr},Dk7 w B vd d→qt w ty pv pb pl pf pn →
 Calls prog 38 #[.agg #[.string d.r,vd,.string d.log,.int .i64 d.syn]] w fun e w'=>OpQ w (fu d) d pb e w'
theorem Y1 (u:World):ny (u.alloc (.cells #[.slice none 0 0,.bool false,.int .i64 0,.string ⟨#[]⟩,.slice none 0 0,.string ⟨#[]⟩,.int .i64 0,.slice none 0 0] 71)) u.heap.size (.slice none 0 0) false 0 ⟨#[]⟩ (.slice none 0 0) ⟨#[]⟩ 0 (.slice none 0 0):=heap_alloc_new u _
theorem Cr (hO:Di){w:World} {B:Nat} {vd:Value} {d:Ds7} {ty:TypeId} {pv:Value} {pb pl pf pn:Addr}(hD:Dk7 w B vd d) (hE:qt w ty pv pb pl pf pn) :
  Calls prog 29 #[.agg #[.string d.r,vd,.string d.log,.int .i64 d.syn]] w fun e w'=>OpQ w (cm d) d pb e w':=by
 obtain⟨ad,cd,az⟩:=hD.form;subst az;obtain⟨W0,hW⟩:∃ W0,W0=(w.alloc (.cells #[.string d.r,.slice ad d.ss.length cd,.string d.log,.int .i64 d.syn] 25)).alloc (.cells #[.slice none 0 0,.bool false,.int .i64 0,.string ⟨#[]⟩,.slice none 0 0,.string ⟨#[]⟩,.int .i64 0,.slice none 0 0] 71):=⟨_,rfl⟩
 have a9:Below w.heap.size w W0:=by rw[hW];exact (bY _).alloc (by simp) _
 have ae:Hd7 w W0 d.r (.slice ad d.ss.length cd) d.log d.syn:=by
  refine⟨?_,?_,a9⟩
  .show _=_
   rw[hW,Below.heap_alloc _ _ _ (by simp)];exact heap_alloc_new w _
  .have h:=Y1 (w.alloc (.cells #[.string d.r,.slice ad d.ss.length cd,.string d.log,.int .i64 d.syn] 25))
   rw[World.size_alloc]at h;rw[hW];exact h
 have OI:=hO (hD.below a9) (hE.below a9);have al:=(hE.below a9).errs.bad;have ai:=ag al;have aC:=hD.ok.log;have aD:W0.heap.size=w.heap.size+2:=by rw[hW];simp
 have HH:Hid (Hd7 w W0 d.r (.slice ad d.ss.length cd) d.log d.syn):=ae;have HW:Hid (W0=(w.alloc (.cells #[.string d.r,.slice ad d.ss.length cd,.string d.log,.int .i64 d.syn] 25)).alloc (.cells #[.slice none 0 0,.bool false,.int .i64 0,.string ⟨#[]⟩,.slice none 0 0,.string ⟨#[]⟩,.int .i64 0,.slice none 0 0] 71)):=hW;obtain⟨am,d0,d1,d2,d3,df⟩:=ae.disk.facts;obtain⟨aj,a0,a1,a2,a3,a4,a5,a6,a7,af⟩:=ae.ans.facts;by_cases hs:0≤d.syn∧d.syn≤(d.log.size:Int)
 .have aw:¬ d.syn<0:=by omega
  have ax:¬ (d.log.size:Int)<d.syn:=by omega
  rw[a08 hs];obtain⟨o,ho⟩:∃ o,o=fu d:=⟨_,rfl⟩
  rw[<- ho]at OI ⊢;clear hD hE hW a9 ae hs ho al ai
  cases o with
  | none =>
   have ab:Calls prog 38 #[.agg #[.string d.r,.slice ad d.ss.length cd,.string d.log,.int .i64 d.syn]] W0 fun e w'=>(∃ ev,e=.returned (.tuple #[zIx,ev])∧Ik pb ev)∧Below W0.heap.size W0 w':=OI
   clear OI;go_enter func29,ntmps29;go_wp2_with fail;rw[<- HW.out];go_wp2_with fail;refine ab.mono ?_;rintro e w1 ⟨⟨ev,rfl,an⟩,b1⟩;have a8:Hid (Hd7 w w1 d.r (.slice ad d.ss.length cd) d.log d.syn):=HH.out.below b1;obtain⟨aj,a0,a1,a2,a3,a4,a5,a6,a7,af⟩:=a8.out.ans.facts;have ah:Hid (Below _ _ _):=ro (p:=w.heap.size+1) a8.out.bel (by omega) (.slice none 0 0) (.bool false) (.int .i64 0) (.string ⟨#[]⟩) (.slice none 0 0) (.string ⟨#[]⟩) (.int .i64 0) (.slice none 0 0);have ao:Hid (Ik pb ev):=an;clear ab b1 HW an d0 d1 d2 d3 df am;unfold zIx;go_wp2;refine bodyPost_ret (v:=.tuple #[zIx,ev]) ?_ rfl ⟨⟨ev,rfl,ao.out⟩,ah.out⟩;rw[results_cell_tmp rfl];go_simp;rfl
  | some l =>
   have ab:Calls prog 38 #[.agg #[.string d.r,.slice ad d.ss.length cd,.string d.log,.int .i64 d.syn]] W0 fun e w'=>(∃ ve vp vr,e=.returned (.tuple #[ixV ve (aa d.r) d.r vp d.log d.syn vr,.nilIface])∧ac w' W0.heap.size ve (aa d.r).es∧ak w' W0.heap.size vp d.ss∧Rws w' W0.heap.size vr l)∧Below W0.heap.size W0 w':=OI
   clear OI;go_enter func29,ntmps29;go_wp2_with fail;rw[<- HW.out];go_wp2_with fail;refine ab.mono ?_;rintro e w1 ⟨⟨ve,vp,vr,rfl,h1,h2,h3⟩,b1⟩;obtain⟨va,vc,ay⟩:=Ak h1;subst ay;obtain⟨ap,cp,aA,_⟩:=js h2;subst aA;obtain⟨ar,cr,aB⟩:=bz h3;subst aB;have a8:Hid (Hd7 w w1 d.r (.slice ad d.ss.length cd) d.log d.syn):=HH.out.below b1;obtain⟨aj,a0,a1,a2,a3,a4,a5,a6,a7,af⟩:=a8.out.ans.facts;have ah:Hid (Below _ _ _):=ro (p:=w.heap.size+1) a8.out.bel (by omega) (.slice va (aa d.r).es.length vc) (.bool (aa d.r).sh) (.int .i64 (aa d.r).lv) (.string d.r) (.slice ap d.ss.length cp) (.string d.log) (.int .i64 d.syn) (.slice ar l.length cr)
   obtain⟨k1,k2,k3⟩:=b09 (ac.low h1 (show w.heap.size≤W0.heap.size by omega)) (kq h2 (show w.heap.size≤W0.heap.size by omega)) (cz h3 (show w.heap.size≤W0.heap.size by omega)) a8.out.ans (.slice va (aa d.r).es.length vc) (.bool (aa d.r).sh) (.int .i64 (aa d.r).lv) (.string d.r) (.slice ap d.ss.length cp) (.string d.log) (.int .i64 d.syn) (.slice ar l.length cr);have aq:Hid (ac _ _ _ _):=k1;have au:Hid (ak _ _ _ _):=k2;have av:Hid (Rws _ _ _ _):=k3;clear ab b1 HW h1 h2 h3 k1 k2 k3 d0 d1 d2 d3 df am;unfold ixV;go_wp2;refine bodyPost_ret (v:=.tuple #[ixV (.slice va (aa d.r).es.length vc) (aa d.r) d.r (.slice ap d.ss.length cp) d.log d.syn (.slice ar l.length cr),.nilIface]) ?_ rfl ⟨⟨(.slice va (aa d.r).es.length vc),(.slice ap d.ss.length cp),(.slice ar l.length cr),rfl,aq.out,au.out,av.out⟩,ah.out⟩;rw[results_cell_tmp rfl];go_simp;rfl
 .rw[ad7 hs]
  clear OI hD hE hW a9 ae;by_cases aw:d.syn<0
  .clear hs
   go_enter func29,ntmps29;go_wp2_with fail;rw[<- HW.out];go_upto_region 2 with fail
   go_region
   all_goals
    go_wp2;refine bodyPost_ret (v:=.tuple #[zIx,.iface 298 (.pointer (some pb))]) ?_ rfl ⟨?_,?_⟩
    .rw[results_cell_tmp rfl]
     go_simp;rfl
    .exact⟨_,rfl,.inl rfl⟩
    .repeat (first|with_reducible exact HH.out.bel|with_reducible refine Below.drew ?_|with_reducible refine Below.setCell ?_ (by show w.heap.size≤w.heap.size+1;omega) _)
  .have ax:(d.log.size:Int)<d.syn:=by omega
   clear hs;go_enter func29,ntmps29;go_wp2_with fail;rw[<- HW.out];go_upto_region 2 with fail
   go_region
   all_goals
    go_wp2;refine bodyPost_ret (v:=.tuple #[zIx,.iface 298 (.pointer (some pb))]) ?_ rfl ⟨?_,?_⟩
    .rw[results_cell_tmp rfl]
     go_simp;rfl
    .exact⟨_,rfl,.inl rfl⟩
    .repeat (first|with_reducible exact HH.out.bel|with_reducible refine Below.drew ?_|with_reducible refine Below.setCell ?_ (by show w.heap.size≤w.heap.size+1;omega) _)
theorem Lh {w:World} {l:List Rw} {ar:Option Addr} {cr:Nat}(c1 c2:Value) (p:Rw→Bool) (hl:l.length≤1000000) (hR:dd w ar l)
  (ah:∀ (u:World) (x:Rw),Below w.heap.size w u→x ∈ l→Calls prog 51 #[.agg #[.string x.key,.string x.text,.string x.val],c1,c2] u fun e w'=>e=.returned (.bool (p x))∧Below u.heap.size u w') :
  Calls prog 50 #[.slice ar l.length cr,.func (.func 51) #[] #[c1,c2]] w fun e w'=>∃ v,e=.returned v∧Rws w' w.heap.size v (l.filter p)∧Below w.heap.size w w':=by
 have HS:Hid (∀ u,Below w.heap.size w u→dd u ar l):=fun u hu=>hR.below hu bR
 have HC:Hid (∀ (u:World) (x:Rw),Below w.heap.size w u→x ∈ l→Calls prog 51 #[.agg #[.string x.key,.string x.text,.string x.val],c1,c2] u fun e w'=>e=.returned (.bool (p x))∧Below u.heap.size u w'):=ah;clear hR ah;go_enter func50,ntmps50;go_wp2_with fail;go_loopw [5,10] (fun v i wr=>∃ k:Nat,k≤l.length∧i=.int .i64 (k:Int)∧Rws wr w.heap.size v ((l.take k).filter p)∧Below w.heap.size w wr) (fun _ i _=>l.length-(intOf i).toNat)
 case atStart=>exact⟨0,Nat.zero_le _,rfl,World.ownsRow_nil _ _ _ _,bX⟩
 case round =>
  obtain⟨k,hk,rfl,hR,hb⟩:=hrel;by_cases an:k<l.length
  .obtain⟨x,hx⟩:∃ x,l[k]? = some x:=by exact⟨_,List.getElem?_eq_getElem an⟩
   have al:Hid (l[k]? = some x):=hx;rcases HS.out wr hb with h0|⟨b,o,rfl,hE⟩
   .rw[h0]at hx;simp at hx
   obtain⟨a0,a1,a2⟩:=hE k x hx;have ao:=ag a0;have aq:(k:Int)<(l.length:Int):=by omega
   have b1:Below wr.heap.size wr (wr.alloc (.cells #[.string x.key,.string x.text,.string x.val] 37)):=bY _;have ac:=hb.trans (b1.mono hb.size);have CL:=HC.out _ x ac (List.mem_of_getElem? hx);have ae:Hid (di (wr.alloc (.cells #[.string x.key,.string x.text,.string x.val] 37)) wr.heap.size x):=ky wr x;have a5:Hid ((l.take (k+1)).filter p=(l.take k).filter p++[x].filter p):=by show _=_;rw[List.take_add_one,al.out,List.filter_append];rfl
   have am:((l.take k).filter p).length≤1000000:=by have:=List.length_filter_le p (l.take k);have:=List.length_take_le k l;omega
   obtain⟨F1,aj⟩:∃ F1,Hid ((l.take k).filter p=F1):=⟨_,rfl⟩
   have a3:Rws wr w.heap.size u5 ((l.take k).filter p):=hR;rw[aj.out]at a3 a5 am;obtain⟨ra,rc,hv⟩:=bz a3;subst hv;have a7:Hid (Rws _ w.heap.size (.slice ra F1.length rc) F1):=a3.below b1;have a4:Hid (Below w.heap.size w _):=ac;clear hE hx hb b1 ac hR a3;go_wp2_with fail;refine CL.mono ?_;rintro e w6 ⟨rfl,b6⟩;have ab:=ae.out.below b6;obtain⟨d0,d1,d2⟩:=ab.cells;have ap:=ab.lt;have ad:Hid (Rws w6 w.heap.size (.slice ra F1.length rc) F1):=a7.out.below b6;have a8:Hid (Below w.heap.size w w6):=a4.out.trans (b6.mono a4.out.size);clear CL b6 a0 a1 a2 ab ae a7 a4
   cases hp:p x
   .have a9:Hid ((l.take (k+1)).filter p=F1):=by show _=_;rw[a5.out];simp[hp]
    clear a5;go_wp2;exact⟨⟨k+1,by omega,by go_num,by rw[a9.out];exact ad.out,a8.out⟩,by simp[intOf];omega⟩
   .have a9:Hid ((l.take (k+1)).filter p=F1++[x]):=by show _=_;rw[a5.out];simp[hp]
    have bA:=(Below.refl w6.heap.size w6).alloc bR (.cells #[.string x.key,.string x.text,.string x.val] 37);have af:Hid (SlV (w6.alloc (.cells #[.string x.key,.string x.text,.string x.val] 37)) (.slice (some ⟨w6.heap.size,0,none⟩) 1 1) [x]):=(gg w6 _ w6.heap.size x rfl bR).slV;have aa:Hid (Rws (w6.alloc (.cells #[.string x.key,.string x.text,.string x.val] 37)) w.heap.size (.slice ra F1.length rc) F1):=ad.out.below bA;have a6:Hid (Below w.heap.size w (w6.alloc (.cells #[.string x.key,.string x.text,.string x.val] 37))):=a8.out.trans (bA.mono a8.out.size);clear a5 bA;go_wp2_with (at_builtin;refine ef rfl _ _ rfl w.heap.size (.slice ra F1.length rc) (.slice (some ⟨w6.heap.size,0,none⟩) 1 1) F1 [x] rfl rfl aa.out af.out (by simp;omega) a6.out.size ?_)
    intro v8 w8 r8 g8;have ai:Hid (Below w.heap.size w w8):=Below.grown a6.out g8 a6.out.size (fun j hj=>(World.ownsRow.lt aa.out j hj).1);have ak:Hid (Rws w8 w.heap.size v8 (F1++[x])):=r8;clear r8 g8 aa a6 af;go_wp2;exact⟨⟨k+1,by omega,by go_num,by rw[a9.out];exact ak.out,ai.out⟩,by simp[intOf];omega⟩
  .obtain rfl:k=l.length:=by omega
   have a3:Rws wr w.heap.size u5 ((l.take l.length).filter p):=hR;rw[List.take_length]at a3;have a7:Hid (Rws wr w.heap.size u5 (l.filter p)):=a3;have a4:Hid (Below w.heap.size w wr):=hb;clear hR a3 hb;go_wp2;go_ret;exact⟨_,rfl,a7.out,a4.out⟩
theorem Lg {w:World} {l:List Rw} {ar:Option Addr} {cr:Nat}(c1 c2:Value) (p:Rw→Bool) (hl:l.length≤1000000) (hR:dd w ar l)
  (ah:∀ (u:World) (x:Rw),Below w.heap.size w u→x ∈ l→Calls prog 62 #[.agg #[.string x.key,.string x.text,.string x.val],c1,c2] u fun e w'=>e=.returned (.bool (p x))∧Below u.heap.size u w') :
  Calls prog 50 #[.slice ar l.length cr,.func (.func 62) #[] #[c1,c2]] w fun e w'=>∃ v,e=.returned v∧Rws w' w.heap.size v (l.filter p)∧Below w.heap.size w w':=by
 have HS:Hid (∀ u,Below w.heap.size w u→dd u ar l):=fun u hu=>hR.below hu bR
 have HC:Hid (∀ (u:World) (x:Rw),Below w.heap.size w u→x ∈ l→Calls prog 62 #[.agg #[.string x.key,.string x.text,.string x.val],c1,c2] u fun e w'=>e=.returned (.bool (p x))∧Below u.heap.size u w'):=ah;clear hR ah;go_enter func50,ntmps50;go_wp2_with fail;go_loopw [5,10] (fun v i wr=>∃ k:Nat,k≤l.length∧i=.int .i64 (k:Int)∧Rws wr w.heap.size v ((l.take k).filter p)∧Below w.heap.size w wr) (fun _ i _=>l.length-(intOf i).toNat)
 case atStart=>exact⟨0,Nat.zero_le _,rfl,World.ownsRow_nil _ _ _ _,bX⟩
 case round =>
  obtain⟨k,hk,rfl,hR,hb⟩:=hrel;by_cases an:k<l.length
  .obtain⟨x,hx⟩:∃ x,l[k]? = some x:=by exact⟨_,List.getElem?_eq_getElem an⟩
   have al:Hid (l[k]? = some x):=hx;rcases HS.out wr hb with h0|⟨b,o,rfl,hE⟩
   .rw[h0]at hx;simp at hx
   obtain⟨a0,a1,a2⟩:=hE k x hx;have ao:=ag a0;have aq:(k:Int)<(l.length:Int):=by omega
   have b1:Below wr.heap.size wr (wr.alloc (.cells #[.string x.key,.string x.text,.string x.val] 37)):=bY _;have ac:=hb.trans (b1.mono hb.size);have CL:=HC.out _ x ac (List.mem_of_getElem? hx);have ae:Hid (di (wr.alloc (.cells #[.string x.key,.string x.text,.string x.val] 37)) wr.heap.size x):=ky wr x;have a5:Hid ((l.take (k+1)).filter p=(l.take k).filter p++[x].filter p):=by show _=_;rw[List.take_add_one,al.out,List.filter_append];rfl
   have am:((l.take k).filter p).length≤1000000:=by have:=List.length_filter_le p (l.take k);have:=List.length_take_le k l;omega
   obtain⟨F1,aj⟩:∃ F1,Hid ((l.take k).filter p=F1):=⟨_,rfl⟩
   have a3:Rws wr w.heap.size u5 ((l.take k).filter p):=hR;rw[aj.out]at a3 a5 am;obtain⟨ra,rc,hv⟩:=bz a3;subst hv;have a7:Hid (Rws _ w.heap.size (.slice ra F1.length rc) F1):=a3.below b1;have a4:Hid (Below w.heap.size w _):=ac;clear hE hx hb b1 ac hR a3;go_wp2_with fail;refine CL.mono ?_;rintro e w6 ⟨rfl,b6⟩;have ab:=ae.out.below b6;obtain⟨d0,d1,d2⟩:=ab.cells;have ap:=ab.lt;have ad:Hid (Rws w6 w.heap.size (.slice ra F1.length rc) F1):=a7.out.below b6;have a8:Hid (Below w.heap.size w w6):=a4.out.trans (b6.mono a4.out.size);clear CL b6 a0 a1 a2 ab ae a7 a4
   cases hp:p x
   .have a9:Hid ((l.take (k+1)).filter p=F1):=by show _=_;rw[a5.out];simp[hp]
    clear a5;go_wp2;exact⟨⟨k+1,by omega,by go_num,by rw[a9.out];exact ad.out,a8.out⟩,by simp[intOf];omega⟩
   .have a9:Hid ((l.take (k+1)).filter p=F1++[x]):=by show _=_;rw[a5.out];simp[hp]
    have bA:=(Below.refl w6.heap.size w6).alloc bR (.cells #[.string x.key,.string x.text,.string x.val] 37);have af:Hid (SlV (w6.alloc (.cells #[.string x.key,.string x.text,.string x.val] 37)) (.slice (some ⟨w6.heap.size,0,none⟩) 1 1) [x]):=(gg w6 _ w6.heap.size x rfl bR).slV;have aa:Hid (Rws (w6.alloc (.cells #[.string x.key,.string x.text,.string x.val] 37)) w.heap.size (.slice ra F1.length rc) F1):=ad.out.below bA;have a6:Hid (Below w.heap.size w (w6.alloc (.cells #[.string x.key,.string x.text,.string x.val] 37))):=a8.out.trans (bA.mono a8.out.size);clear a5 bA;go_wp2_with (at_builtin;refine ef rfl _ _ rfl w.heap.size (.slice ra F1.length rc) (.slice (some ⟨w6.heap.size,0,none⟩) 1 1) F1 [x] rfl rfl aa.out af.out (by simp;omega) a6.out.size ?_)
    intro v8 w8 r8 g8;have ai:Hid (Below w.heap.size w w8):=Below.grown a6.out g8 a6.out.size (fun j hj=>(World.ownsRow.lt aa.out j hj).1);have ak:Hid (Rws w8 w.heap.size v8 (F1++[x])):=r8;clear r8 g8 aa a6 af;go_wp2;exact⟨⟨k+1,by omega,by go_num,by rw[a9.out];exact ak.out,ai.out⟩,by simp[intOf];omega⟩
  .obtain rfl:k=l.length:=by omega
   have a3:Rws wr w.heap.size u5 ((l.take l.length).filter p):=hR;rw[List.take_length]at a3;have a7:Hid (Rws wr w.heap.size u5 (l.filter p)):=a3;have a4:Hid (Below w.heap.size w wr):=hb;clear hR a3 hb;go_wp2;go_ret;exact⟨_,rfl,a7.out,a4.out⟩
theorem Wc {w:World}(x:Rw) (b1 b2:Nat) (lo hi:ByteArray) (h1:w.cell? ⟨b1,0,none⟩=some (.string lo)) (h2:w.cell? ⟨b2,0,none⟩=some (.string hi)) :
  Calls prog 51 #[.agg #[.string x.key,.string x.text,.string x.val],.pointer (some ⟨b1,0,none⟩),.pointer (some ⟨b2,0,none⟩)] w fun e w'=>e=.returned (.bool (inK lo hi x))∧Below w.heap.size w w':=by
 have bA:=(Below.refl w.heap.size w).alloc bR (.cells #[.string x.key,.string x.text,.string x.val] 37);have c1:=(bA.cell (p:=⟨b1,0,none⟩) (ag h1)).trans h1;have c2:=(bA.cell (p:=⟨b2,0,none⟩) (ag h2)).trans h2;have l1:=ag c1;have l2:=ag c2;have HB:Hid (Below w.heap.size w _):=bA;clear h1 h2 bA
 cases hlo:ltK x.key lo
 .cases hhi:ltK x.key hi
  .have HV:Hid (inK lo hi x=false):=by show _=_;unfold inK;rw[hlo,hhi];rfl
   unfold ltK at hlo hhi;rw[HV.out];go_enter func51,ntmps51;go_wp2;go_ret;exact⟨rfl,HB.out⟩
  .have HV:Hid (inK lo hi x=true):=by show _=_;unfold inK;rw[hlo,hhi];rfl
   unfold ltK at hlo hhi;rw[HV.out];go_enter func51,ntmps51;go_wp2;go_ret;exact⟨rfl,HB.out⟩
 .have HV:Hid (inK lo hi x=false):=by show _=_;unfold inK;rw[hlo];rfl
  unfold ltK at hlo;rw[HV.out];go_enter func51,ntmps51;go_wp2;go_ret;exact⟨rfl,HB.out⟩
theorem Ri {w:World} {lo b:Nat} {ve:Value} {R:RA} {r:ByteArray} {vp:Value} {ss:List ByteArray} {log:ByteArray} {syn:Int} {vr:Value} {l:List Rw}(x:Rw) (b2:Nat) (t:ByteArray) (hx:x.text.size≤200) (ht:t.size≤200) (hI:Ix7 w lo b ve R r vp ss log syn vr l) (a0:ay R.es R.lv=true) (a4:dr w) (h2:w.cell? ⟨b2,0,none⟩=some (.string t)) :
  Calls prog 62 #[.agg #[.string x.key,.string x.text,.string x.val],.pointer (some ⟨b,0,none⟩),.pointer (some ⟨b2,0,none⟩)] w fun e w'=>e=.returned (.bool (ww R.es R.sh R.lv x.text t))∧Below w.heap.size w w':=by
 have bA:=(Below.refl w.heap.size w).alloc bR (.cells #[.string x.key,.string x.text,.string x.val] 37);have c2:=(bA.cell (p:=⟨b2,0,none⟩) (ag h2)).trans h2;have l2:=ag c2;have a1:=hI.below bA;obtain⟨a5,i0,i1,i2,i3,i4,i5,i6,i7,i8⟩:=a1.box.facts;have BG:=Bo (sh:=R.sh) (lv:=R.lv) x.text (by omega) t (by omega) a1.ents (nd a0) (a4.below bA);rw[gd a0 hx,gd a0 ht]at BG;have a3:Hid (di (w.alloc (.cells #[.string x.key,.string x.text,.string x.val] 37)) w.heap.size x):=ky w x;obtain⟨d0,d1,d2⟩:=a3.out.cells;have a6:=a3.out.lt;have HB:Hid (Below w.heap.size w _):=bA;generalize ww R.es R.sh R.lv x.text t=bg at *;clear h2 bA hI a1 a0 a4;go_enter func62,ntmps62;go_wp2_with fail;refine BG.mono ?_;rintro e w2 ⟨rfl,b2⟩;have a2:Hid (Below w.heap.size w w2):=HB.out.trans (b2.mono HB.out.size);clear BG b2
 cases bg
 .go_wp2
  go_ret;exact⟨rfl,a2.out⟩
 .go_wp2
  go_ret;exact⟨rfl,a2.out⟩
def dw (d:Ds7) (lo hi:ByteArray):Option (List Rw):=match cm d with
 | none=>none
 | some l=>if lo.size≤60∧hi.size≤60 then some (l.filter (inK (bh (aa d.r) lo) (bh (aa d.r) hi))) else none
def te (d:Ds7) (t:ByteArray):Option (List Rw):=match cm d with
 | none=>none
 | some l=>if t.size≤60 then some (l.filter (fun x=>ww (aa d.r).es (aa d.r).sh (aa d.r).lv x.text t)) else none
theorem L9 (hO:Di){w:World} {B:Nat} {vd:Value} {d:Ds7} {ty:TypeId} {pv:Value} {pb pl pf pn:Addr}(lo hi:ByteArray) (aH:lo.size≤1048576) (aw:hi.size≤1048576) (hD:Dk7 w B vd d) (hE:qt w ty pv pb pl pf pn) :
  Calls prog 21 #[.agg #[.string d.r,vd,.string d.log,.int .i64 d.syn],.string lo,.string hi] w fun e w'=>∃ v,e=.returned (.tuple #[v,.bool (dw d lo hi).isSome])∧Rws w' w.heap.size v ((dw d lo hi).getD [])∧Below w.heap.size w w':=by
 obtain⟨ad,cd,aK⟩:=hD.form;subst aK;have av:Below w.heap.size w (w.alloc (.cells #[.string d.r,.slice ad d.ss.length cd,.string d.log,.int .i64 d.syn] 25)):=bY _;have OD:=Cr hO (hD.below av) (hE.below av);have a9:Hid (Below w.heap.size w (w.alloc (.cells #[.string d.r,.slice ad d.ss.length cd,.string d.log,.int .i64 d.syn] 25))):=av;have an:Hid (∀ u,Below w.heap.size w u→qt u ty pv pb pl pf pn):=fun u hu=>hE.below hu
 have ay:Hid (Ok7 d):=hD.ok;obtain⟨o,ho⟩:∃ o,o=cm d:=⟨_,rfl⟩
 rw[<- ho]at OD;have aq:Hid (cm d=o):=ho.symm;clear hD hE av ho
 cases o with
 | none =>
  have a0:Hid (dw d lo hi=none):=by show _=_;unfold dw;rw[aq.out]
  have al:Calls prog 29 #[.agg #[.string d.r,.slice ad d.ss.length cd,.string d.log,.int .i64 d.syn]] (w.alloc (.cells #[.string d.r,.slice ad d.ss.length cd,.string d.log,.int .i64 d.syn] 25)) fun e w'=>(∃ ev,e=.returned (.tuple #[zIx,ev])∧Ik pb ev)∧Below ((w.alloc (.cells #[.string d.r,.slice ad d.ss.length cd,.string d.log,.int .i64 d.syn] 25))).heap.size (w.alloc (.cells #[.string d.r,.slice ad d.ss.length cd,.string d.log,.int .i64 d.syn] 25)) w':=OD
  clear OD aq an ay;go_enter func21,ntmps21;go_wp2_with fail;refine al.mono ?_;rintro e w1 ⟨⟨ev,rfl,aF⟩,b1⟩;have az:Below w.heap.size w w1:=a9.out.trans (b1.mono a9.out.size);have aC:Hid (∀ o,Below w.heap.size w (w1.alloc o)):=fun o=>az.alloc az.size o
  unfold zIx;clear al b1 az a9;rcases aF with rfl|⟨kk,rfl⟩;all_goals
   go_wp2;go_ret2;exact⟨_,by rw[a0.out];rfl,by rw[a0.out];exact World.ownsRow_nil _ _ _ _,aC.out _⟩
 | some l =>
  have HO:Hid (cm d=some l):=aq.out;have al:Calls prog 29 #[.agg #[.string d.r,.slice ad d.ss.length cd,.string d.log,.int .i64 d.syn]] (w.alloc (.cells #[.string d.r,.slice ad d.ss.length cd,.string d.log,.int .i64 d.syn] 25)) fun e w'=>(∃ ve vp vr,e=.returned (.tuple #[ixV ve (aa d.r) d.r vp d.log d.syn vr,.nilIface])∧ac w' (w.alloc (.cells #[.string d.r,.slice ad d.ss.length cd,.string d.log,.int .i64 d.syn] 25)).heap.size ve (aa d.r).es∧ak w' (w.alloc (.cells #[.string d.r,.slice ad d.ss.length cd,.string d.log,.int .i64 d.syn] 25)).heap.size vp d.ss∧Rws w' (w.alloc (.cells #[.string d.r,.slice ad d.ss.length cd,.string d.log,.int .i64 d.syn] 25)).heap.size vr l)∧Below (w.alloc (.cells #[.string d.r,.slice ad d.ss.length cd,.string d.log,.int .i64 d.syn] 25)).heap.size (w.alloc (.cells #[.string d.r,.slice ad d.ss.length cd,.string d.log,.int .i64 d.syn] 25)) w':=OD
  clear OD;go_enter func21,ntmps21;go_wp2_with fail;refine al.mono ?_;rintro e w1 ⟨⟨ve,vp,vr,rfl,h1,h2,h3⟩,b1⟩;obtain⟨va,vc,aJ⟩:=Ak h1;subst aJ;obtain⟨ap,cp,aL,_⟩:=js h2;subst aL;obtain⟨ar,cr,aM⟩:=bz h3;subst aM;obtain⟨w2,ax⟩:∃ w2,w2=w1.alloc (.cells #[.slice va (aa d.r).es.length vc,.bool (aa d.r).sh,.int .i64 (aa d.r).lv,.string d.r,.slice ap d.ss.length cp,.string d.log,.int .i64 d.syn,.slice ar l.length cr] 71):=⟨_,rfl⟩
  have ai:Hid (w2=w1.alloc (.cells #[.slice va (aa d.r).es.length vc,.bool (aa d.r).sh,.int .i64 (aa d.r).lv,.string d.r,.slice ap d.ss.length cp,.string d.log,.int .i64 d.syn,.slice ar l.length cr] 71)):=ax;have ah:Below w.heap.size w w1:=a9.out.trans (b1.mono a9.out.size);have hI:Ix7 w2 w.heap.size w1.heap.size (.slice va (aa d.r).es.length vc) (aa d.r) d.r (.slice ap d.ss.length cp) d.ss d.log d.syn (.slice ar l.length cr) l:=by rw[ax];exact Nn (ac.low h1 a9.out.size) (kq h2 a9.out.size) (cz h3 a9.out.size) ah.size
  have aA:Below w1.heap.size w1 w2:=by rw[ax];exact bY _
  have aj:Below w.heap.size w w2:=ah.trans (aA.mono ah.size);have HI:Hid (Ix7 w2 w.heap.size w1.heap.size (.slice va (aa d.r).es.length vc) (aa d.r) d.r (.slice ap d.ss.length cp) d.ss d.log d.syn (.slice ar l.length cr) l):=hI;have a7:Hid (Below w.heap.size w w2):=aj;obtain⟨am,i0,i1,i2,i3,i4,i5,i6,i7,i8⟩:=hI.box.facts;have aI:=nu (l8 HO.out).2;have aG:=(jz ay.out (l8 HO.out).2).len;have a4:Hid (∀ u,Below w2.heap.size w2 u→Ru7 u w.heap.size (.slice va (aa d.r).es.length vc) (aa d.r)∧Ev7 u pb pl pf pn):=fun u hu=>⟨⟨hI.ents.below hu,aI,(an.out u (aj.trans (hu.mono aj.size))).tabs⟩,(an.out u (aj.trans (hu.mono aj.size))).errs⟩
  have a5:=nw lo aH (a4.out w2 bX).1 (a4.out w2 bX).2;clear al h1 h2 h3 b1 aA ah aj hI ax an aq ay a9;unfold ixV;by_cases ha:lo.size≤60
  .by_cases hb:hi.size≤60
   .rw[if_pos ha]at a5
    obtain⟨from_,ao⟩:∃ f,Hid (bh (aa d.r) lo=f):=⟨_,rfl⟩
    rw[ao.out]at a5;obtain⟨to_,au⟩:∃ f,Hid (bh (aa d.r) hi=f):=⟨_,rfl⟩
    have a1:Hid (∀ u,Below w2.heap.size w2 u→Calls prog 49 #[.agg #[.slice va (aa d.r).es.length vc,.bool (aa d.r).sh,.int .i64 (aa d.r).lv],.string hi] u fun e w'=>e=.returned (.tuple #[.string to_,.nilIface])∧Below u.heap.size u w'):=fun u hu=>by
     have q:=nw hi aw (a4.out u hu).1 (a4.out u hu).2;rw[if_pos hb,au.out]at q;exact q
    clear a4;go_wp2_with fail;rw[<- ai.out];go_wp2_with fail;refine a5.mono ?_;rintro e w3 ⟨rfl,b3⟩;have b4:Below w3.heap.size w3 (w3.alloc (.cells #[.string from_] 9)):=bY _;have a3:Below w2.heap.size w2 (w3.alloc (.cells #[.string from_] 9)):=b3.trans (b4.mono b3.size);have a8:=a1.out _ a3;obtain⟨am,i0,i1,i2,i3,i4,i5,i6,i7,i8⟩:=(HI.out.below b3).box.facts;have af:Hid (Ix7 (w3.alloc (.cells #[.string from_] 9)) w.heap.size w1.heap.size (.slice va (aa d.r).es.length vc) (aa d.r) d.r (.slice ap d.ss.length cp) d.ss d.log d.syn (.slice ar l.length cr) l):=HI.out.below a3;have a2:Hid (Below w.heap.size w (w3.alloc (.cells #[.string from_] 9))):=a7.out.trans (a3.mono a7.out.size);have ae:Hid ((w3.alloc (.cells #[.string from_] 9)).cell? ⟨w3.heap.size,0,none⟩=some (.string from_)):=cell_of_row _ _ 0 _ _ _ (heap_alloc_new w3 _)
    clear a5 b3 b4 HI a7 a1 ai;go_wp2_with fail;refine a8.mono ?_;rintro e w5 ⟨rfl,b5⟩;have b6:Below w5.heap.size w5 (w5.alloc (.cells #[.string to_] 9)):=bY _;have a6:=b5.trans (b6.mono b5.size);have aB:=af.out.below a6;have HL:Hid (dd _ ar l):=ew aB.rows;have c1:=(a6.cell (p:=⟨w3.heap.size,0,none⟩) (ag ae.out)).trans ae.out;have c2:(w5.alloc (.cells #[.string to_] 9)).cell? ⟨w5.heap.size,0,none⟩=some (.string to_):=cell_of_row _ _ 0 _ _ _ (heap_alloc_new w5 _);have RT:=Lh (cr:=cr) (.pointer (some ⟨w3.heap.size,0,none⟩)) (.pointer (some ⟨w5.heap.size,0,none⟩)) (inK from_ to_) (by omega) HL.out (fun u x hu _=>Wc x w3.heap.size w5.heap.size from_ to_ ((hu.cell (p:=⟨w3.heap.size,0,none⟩) (ag c1)).trans c1) ((hu.cell (p:=⟨w5.heap.size,0,none⟩) (ag c2)).trans c2))
    have ab:Hid (Below w.heap.size w (w5.alloc (.cells #[.string to_] 9))):=a2.out.trans (a6.mono a2.out.size);obtain⟨am,i0,i1,i2,i3,i4,i5,i6,i7,i8⟩:=(af.out.below b5).box.facts;have aN:∀ (fn:Fn) (first cap:Array Value) (w:World),(Instr.makeFunc fn first cap).run prog w=.ok (.func fn first cap) w:=fun _ _ _ _=>rfl
    have a0:Hid (dw d lo hi=some (l.filter (inK from_ to_))):=by
     show _=_
     unfold dw;rw[HO.out];show (if _ then _ else _)=_
     rw[if_pos ⟨ha,hb⟩,ao.out,au.out]
    clear a8 b5 b6 a6 aB c1 c2 af a2 ae HL;go_wp2_with fail;refine RT.mono ?_;rintro e w7 ⟨v7,rfl,r7,b7⟩;have aE:Hid (Rws w7 w.heap.size v7 (l.filter (inK from_ to_))):=cz r7 ab.out.size;have aD:Hid (Below w.heap.size w w7):=ab.out.trans (b7.mono ab.out.size);clear RT r7 b7;go_wp2;go_ret2;exact⟨_,by rw[a0.out];rfl,by rw[a0.out];exact aE.out,aD.out⟩
   .rw[if_pos ha]at a5
    obtain⟨from_,ao⟩:∃ f,Hid (bh (aa d.r) lo=f):=⟨_,rfl⟩
    rw[ao.out]at a5;have a1:Hid (∀ u,Below w2.heap.size w2 u→Calls prog 49 #[.agg #[.slice va (aa d.r).es.length vc,.bool (aa d.r).sh,.int .i64 (aa d.r).lv],.string hi] u fun e w'=>e=.returned (.tuple #[.string ⟨#[]⟩,.iface 298 (.pointer (some pl))])∧Below u.heap.size u w'):=fun u hu=>by
     have q:=nw hi aw (a4.out u hu).1 (a4.out u hu).2;rw[if_neg hb]at q;exact q
    clear a4;go_wp2_with fail;rw[<- ai.out];go_wp2_with fail;refine a5.mono ?_;rintro e w3 ⟨rfl,b3⟩;have b4:Below w3.heap.size w3 (w3.alloc (.cells #[.string from_] 9)):=bY _;have a3:Below w2.heap.size w2 (w3.alloc (.cells #[.string from_] 9)):=b3.trans (b4.mono b3.size);have a8:=a1.out _ a3;obtain⟨am,i0,i1,i2,i3,i4,i5,i6,i7,i8⟩:=(HI.out.below b3).box.facts;have af:Hid (Ix7 (w3.alloc (.cells #[.string from_] 9)) w.heap.size w1.heap.size (.slice va (aa d.r).es.length vc) (aa d.r) d.r (.slice ap d.ss.length cp) d.ss d.log d.syn (.slice ar l.length cr) l):=HI.out.below a3;have a2:Hid (Below w.heap.size w (w3.alloc (.cells #[.string from_] 9))):=a7.out.trans (a3.mono a7.out.size);have ae:Hid ((w3.alloc (.cells #[.string from_] 9)).cell? ⟨w3.heap.size,0,none⟩=some (.string from_)):=cell_of_row _ _ 0 _ _ _ (heap_alloc_new w3 _)
    clear a5 b3 b4 HI a7 a1 ai;go_wp2_with fail;refine a8.mono ?_;rintro e w5 ⟨rfl,b5⟩;have b6:Below w5.heap.size w5 (w5.alloc (.cells #[.string ⟨#[]⟩] 9)):=bY _;have a6:=b5.trans (b6.mono b5.size);have ab:Hid (Below w.heap.size w (w5.alloc (.cells #[.string ⟨#[]⟩] 9))):=a2.out.trans (a6.mono a2.out.size);have a0:Hid (dw d lo hi=none):=by
     show _=_
     unfold dw;rw[HO.out];show (if _ then _ else _)=_
     rw[if_neg (fun c=>hb c.2)]
    clear a8 b5 b6 a6 af a2 ae;go_wp2;go_ret2;exact⟨_,by rw[a0.out];rfl,by rw[a0.out];exact World.ownsRow_nil _ _ _ _,ab.out⟩
  .by_cases hb:hi.size≤60
   .rw[if_neg ha]at a5
    obtain⟨to_,au⟩:∃ f,Hid (bh (aa d.r) hi=f):=⟨_,rfl⟩
    have a1:Hid (∀ u,Below w2.heap.size w2 u→Calls prog 49 #[.agg #[.slice va (aa d.r).es.length vc,.bool (aa d.r).sh,.int .i64 (aa d.r).lv],.string hi] u fun e w'=>e=.returned (.tuple #[.string to_,.nilIface])∧Below u.heap.size u w'):=fun u hu=>by
     have q:=nw hi aw (a4.out u hu).1 (a4.out u hu).2;rw[if_pos hb,au.out]at q;exact q
    clear a4;go_wp2_with fail;rw[<- ai.out];go_wp2_with fail;refine a5.mono ?_;rintro e w3 ⟨rfl,b3⟩;have b4:Below w3.heap.size w3 (w3.alloc (.cells #[.string ⟨#[]⟩] 9)):=bY _;have a3:Below w2.heap.size w2 (w3.alloc (.cells #[.string ⟨#[]⟩] 9)):=b3.trans (b4.mono b3.size);have a8:=a1.out _ a3;obtain⟨am,i0,i1,i2,i3,i4,i5,i6,i7,i8⟩:=(HI.out.below b3).box.facts;have af:Hid (Ix7 (w3.alloc (.cells #[.string ⟨#[]⟩] 9)) w.heap.size w1.heap.size (.slice va (aa d.r).es.length vc) (aa d.r) d.r (.slice ap d.ss.length cp) d.ss d.log d.syn (.slice ar l.length cr) l):=HI.out.below a3;have a2:Hid (Below w.heap.size w (w3.alloc (.cells #[.string ⟨#[]⟩] 9))):=a7.out.trans (a3.mono a7.out.size);have ae:Hid ((w3.alloc (.cells #[.string ⟨#[]⟩] 9)).cell? ⟨w3.heap.size,0,none⟩=some (.string ⟨#[]⟩)):=cell_of_row _ _ 0 _ _ _ (heap_alloc_new w3 _)
    clear a5 b3 b4 HI a7 a1 ai;go_wp2_with fail;refine a8.mono ?_;rintro e w5 ⟨rfl,b5⟩;have b6:Below w5.heap.size w5 (w5.alloc (.cells #[.string to_] 9)):=bY _;have a6:=b5.trans (b6.mono b5.size);have ab:Hid (Below w.heap.size w (w5.alloc (.cells #[.string to_] 9))):=a2.out.trans (a6.mono a2.out.size);have a0:Hid (dw d lo hi=none):=by
     show _=_
     unfold dw;rw[HO.out];show (if _ then _ else _)=_
     rw[if_neg (fun c=>ha c.1)]
    clear a8 b5 b6 a6 af a2 ae;go_wp2;go_ret2;exact⟨_,by rw[a0.out];rfl,by rw[a0.out];exact World.ownsRow_nil _ _ _ _,ab.out⟩
   .rw[if_neg ha]at a5
    have a1:Hid (∀ u,Below w2.heap.size w2 u→Calls prog 49 #[.agg #[.slice va (aa d.r).es.length vc,.bool (aa d.r).sh,.int .i64 (aa d.r).lv],.string hi] u fun e w'=>e=.returned (.tuple #[.string ⟨#[]⟩,.iface 298 (.pointer (some pl))])∧Below u.heap.size u w'):=fun u hu=>by
     have q:=nw hi aw (a4.out u hu).1 (a4.out u hu).2;rw[if_neg hb]at q;exact q
    clear a4;go_wp2_with fail;rw[<- ai.out];go_wp2_with fail;refine a5.mono ?_;rintro e w3 ⟨rfl,b3⟩;have b4:Below w3.heap.size w3 (w3.alloc (.cells #[.string ⟨#[]⟩] 9)):=bY _;have a3:Below w2.heap.size w2 (w3.alloc (.cells #[.string ⟨#[]⟩] 9)):=b3.trans (b4.mono b3.size);have a8:=a1.out _ a3;obtain⟨am,i0,i1,i2,i3,i4,i5,i6,i7,i8⟩:=(HI.out.below b3).box.facts;have af:Hid (Ix7 (w3.alloc (.cells #[.string ⟨#[]⟩] 9)) w.heap.size w1.heap.size (.slice va (aa d.r).es.length vc) (aa d.r) d.r (.slice ap d.ss.length cp) d.ss d.log d.syn (.slice ar l.length cr) l):=HI.out.below a3;have a2:Hid (Below w.heap.size w (w3.alloc (.cells #[.string ⟨#[]⟩] 9))):=a7.out.trans (a3.mono a7.out.size);have ae:Hid ((w3.alloc (.cells #[.string ⟨#[]⟩] 9)).cell? ⟨w3.heap.size,0,none⟩=some (.string ⟨#[]⟩)):=cell_of_row _ _ 0 _ _ _ (heap_alloc_new w3 _)
    clear a5 b3 b4 HI a7 a1 ai;go_wp2_with fail;refine a8.mono ?_;rintro e w5 ⟨rfl,b5⟩;have b6:Below w5.heap.size w5 (w5.alloc (.cells #[.string ⟨#[]⟩] 9)):=bY _;have a6:=b5.trans (b6.mono b5.size);have ab:Hid (Below w.heap.size w (w5.alloc (.cells #[.string ⟨#[]⟩] 9))):=a2.out.trans (a6.mono a2.out.size);have a0:Hid (dw d lo hi=none):=by
     show _=_
     unfold dw;rw[HO.out];show (if _ then _ else _)=_
     rw[if_neg (fun c=>ha c.1)]
    clear a8 b5 b6 a6 af a2 ae;go_wp2;go_ret2;exact⟨_,by rw[a0.out];rfl,by rw[a0.out];exact World.ownsRow_nil _ _ _ _,ab.out⟩
theorem Nf (hO:Di){w:World} {B:Nat} {vd:Value} {d:Ds7} {ty:TypeId} {pv:Value} {pb pl pf pn:Addr}(t:ByteArray) (aI:t.size≤1048576) (hD:Dk7 w B vd d) (hE:qt w ty pv pb pl pf pn) :
  Calls prog 25 #[.agg #[.string d.r,vd,.string d.log,.int .i64 d.syn],.string t] w fun e w'=>∃ v,e=.returned (.tuple #[v,.bool (te d t).isSome])∧Rws w' w.heap.size v ((te d t).getD [])∧Below w.heap.size w w':=by
 obtain⟨ad,cd,aC⟩:=hD.form;subst aC;obtain⟨W0,hW⟩:∃ W0,W0=(w.alloc (.cells #[.string d.r,.slice ad d.ss.length cd,.string d.log,.int .i64 d.syn] 25)).alloc (.cells #[.string t] 9):=⟨_,rfl⟩
 have ai:Below w.heap.size w W0:=by rw[hW];exact (bY _).alloc (by simp) _
 have an:W0.cell? ⟨w.heap.size+1,0,none⟩=some (.string t):=by
  have h:=heap_alloc_new (w.alloc (.cells #[.string d.r,.slice ad d.ss.length cd,.string d.log,.int .i64 d.syn] 25)) (.cells #[.string t] 9);rw[World.size_alloc]at h;rw[hW];exact cell_of_row _ _ 0 _ _ _ h
 have ao:ba W0 w.heap.size d.r (.slice ad d.ss.length cd) d.log d.syn:=by
  show _=_
  rw[hW,Below.heap_alloc _ _ _ (by simp)];exact heap_alloc_new w _
 obtain⟨aG,d0,d1,d2,d3,df⟩:=ao.facts;have OD:=Cr hO (hD.below ai) (hE.below ai);have a3:Hid (Below w.heap.size w W0):=ai;have a5:Hid (W0.cell? ⟨w.heap.size+1,0,none⟩=some (.string t)):=an;have HW:Hid (W0=(w.alloc (.cells #[.string d.r,.slice ad d.ss.length cd,.string d.log,.int .i64 d.syn] 25)).alloc (.cells #[.string t] 9)):=hW;have af:Hid (∀ u,Below w.heap.size w u→qt u ty pv pb pl pf pn):=fun u hu=>hE.below hu
 have a8:Hid (Ok7 d):=hD.ok;obtain⟨o,ho⟩:∃ o,o=cm d:=⟨_,rfl⟩
 rw[<- ho]at OD;have a7:Hid (cm d=o):=ho.symm;clear hD hE ai ho an ao hW
 cases o with
 | none =>
  have a0:Hid (te d t=none):=by show _=_;unfold te;rw[a7.out]
  have a6:Calls prog 29 #[.agg #[.string d.r,.slice ad d.ss.length cd,.string d.log,.int .i64 d.syn]] W0 fun e w'=>(∃ ev,e=.returned (.tuple #[zIx,ev])∧Ik pb ev)∧Below (W0).heap.size W0 w':=OD
  clear OD a7 af a8;go_enter func25,ntmps25;go_wp2_with fail;rw[<- HW.out];go_wp2_with fail;refine a6.mono ?_;rintro e w1 ⟨⟨ev,rfl,ax⟩,b1⟩;have aj:Below w.heap.size w w1:=a3.out.trans (b1.mono a3.out.size);have aq:Hid (∀ o,Below w.heap.size w (w1.alloc o)):=fun o=>aj.alloc aj.size o
  unfold zIx;have a2:=(b1.cell (p:=⟨w.heap.size+1,0,none⟩) (ag a5.out)).trans a5.out;have al:=ag a2;clear a6 b1 aj a3;rcases ax with rfl|⟨kk,rfl⟩;all_goals
   go_wp2;go_ret2;exact⟨_,by rw[a0.out];rfl,by rw[a0.out];exact World.ownsRow_nil _ _ _ _,aq.out _⟩
 | some l =>
  have HO:Hid (cm d=some l):=a7.out;have a6:Calls prog 29 #[.agg #[.string d.r,.slice ad d.ss.length cd,.string d.log,.int .i64 d.syn]] W0 fun e w'=>(∃ ve vp vr,e=.returned (.tuple #[ixV ve (aa d.r) d.r vp d.log d.syn vr,.nilIface])∧ac w' W0.heap.size ve (aa d.r).es∧ak w' W0.heap.size vp d.ss∧Rws w' W0.heap.size vr l)∧Below W0.heap.size W0 w':=OD
  clear OD;go_enter func25,ntmps25;go_wp2_with fail;rw[<- HW.out];go_wp2_with fail;refine a6.mono ?_;rintro e w1 ⟨⟨ve,vp,vr,rfl,h1,h2,h3⟩,b1⟩;obtain⟨va,vc,aB⟩:=Ak h1;subst aB;obtain⟨ap,cp,aD,_⟩:=js h2;subst aD;obtain⟨ar,cr,aE⟩:=bz h3;subst aE;obtain⟨w2,ab⟩:∃ w2,w2=w1.alloc (.cells #[.slice va (aa d.r).es.length vc,.bool (aa d.r).sh,.int .i64 (aa d.r).lv,.string d.r,.slice ap d.ss.length cp,.string d.log,.int .i64 d.syn,.slice ar l.length cr] 71):=⟨_,rfl⟩
  have am:Hid (w2=w1.alloc (.cells #[.slice va (aa d.r).es.length vc,.bool (aa d.r).sh,.int .i64 (aa d.r).lv,.string d.r,.slice ap d.ss.length cp,.string d.log,.int .i64 d.syn,.slice ar l.length cr] 71)):=ab;have a1:Below w.heap.size w w1:=a3.out.trans (b1.mono a3.out.size);have hI:Ix7 w2 w.heap.size w1.heap.size (.slice va (aa d.r).es.length vc) (aa d.r) d.r (.slice ap d.ss.length cp) d.ss d.log d.syn (.slice ar l.length cr) l:=by rw[ab];exact Nn (ac.low h1 a3.out.size) (kq h2 a3.out.size) (cz h3 a3.out.size) a1.size
  have ah:Below w1.heap.size w1 w2:=by rw[ab];exact bY _
  have a9:Below w.heap.size w w2:=a1.trans (ah.mono a1.size);have HI:Hid (Ix7 w2 w.heap.size w1.heap.size (.slice va (aa d.r).es.length vc) (aa d.r) d.r (.slice ap d.ss.length cp) d.ss d.log d.syn (.slice ar l.length cr) l):=hI;have ae:Hid (Below w.heap.size w w2):=a9;obtain⟨aF,i0,i1,i2,i3,i4,i5,i6,i7,i8⟩:=hI.box.facts;have az:=nu (l8 HO.out).2;have ay:=(jz a8.out (l8 HO.out).2).len;have a2:=(b1.cell (p:=⟨w.heap.size+1,0,none⟩) (ag a5.out)).trans a5.out;have al:=ag a2;have a4:=(ah.cell (p:=⟨w.heap.size+1,0,none⟩) (ag a2)).trans a2;unfold ixV;by_cases ht:t.size≤60
  .have aA:¬ (60:Int)<(t.size:Int):=by omega
   have aw:Hid (∀ x ∈ l,x.text.size≤60):=fun x hx=>((jz a8.out (l8 HO.out).2).sz x hx).1
   have RT:=Lg (cr:=cr) (.pointer (some ⟨w1.heap.size,0,none⟩)) (.pointer (some ⟨w.heap.size+1,0,none⟩)) (fun x=>ww (aa d.r).es (aa d.r).sh (aa d.r).lv x.text t) (by omega) (ew hI.rows) (fun u x hu hx=>Ri x (w.heap.size+1) t (by have:=aw.out x hx;omega) (by omega) (hI.below hu) az (af.out u (a9.trans (hu.mono a9.size))).tabs ((hu.cell (p:=⟨w.heap.size+1,0,none⟩) (ag a4)).trans a4));have a0:Hid (te d t=some (l.filter (fun x=>ww (aa d.r).es (aa d.r).sh (aa d.r).lv x.text t))):=by
    show _=_
    unfold te;rw[HO.out];show (if _ then _ else _)=_
    rw[if_pos ht]
   have aH:∀ (fn:Fn) (first cap:Array Value) (w:World),(Instr.makeFunc fn first cap).run prog w=.ok (.func fn first cap) w:=fun _ _ _ _=>rfl
   clear a6 h1 h2 h3 b1 ah a1 a9 hI ab af a7 a8 a3 HI a5 HW a4;go_wp2_with fail;rw[<- am.out];go_wp2_with fail;refine RT.mono ?_;rintro e w7 ⟨v7,rfl,r7,b7⟩;have av:Hid (Rws w7 w.heap.size v7 (l.filter (fun x=>ww (aa d.r).es (aa d.r).sh (aa d.r).lv x.text t))):=cz r7 ae.out.size;have au:Hid (Below w.heap.size w w7):=ae.out.trans (b7.mono ae.out.size);clear RT r7 b7;go_wp2;go_ret2;exact⟨_,by rw[a0.out];rfl,by rw[a0.out];exact av.out,au.out⟩
  .have aA:(60:Int)<(t.size:Int):=by omega
   have a0:Hid (te d t=none):=by
    show _=_
    unfold te;rw[HO.out];show (if _ then _ else _)=_
    rw[if_neg ht]
   clear a6 h1 h2 h3 b1 ah a1 a9 hI ab af a7 a8 a3 HI a5 HW a4;go_wp2_with fail;rw[<- am.out];go_wp2;go_ret2;exact⟨_,by rw[a0.out];rfl,by rw[a0.out];exact World.ownsRow_nil _ _ _ _,ae.out⟩
end Go.Proofs.YtjbmgghehdemdaaGreatDoor
