/- SElems -/
import Derived.Test.YtjbmgghehdemdaaGreatDoorMT14
import Derived.Test.YtjbmgghehdemdaaGreatDoorMT15
import Derived.BigRegion
namespace Go.Proofs.YtjbmgghehdemdaaGreatDoor
set_option maxRecDepth 100000
set_option maxHeartbeats 16000000
open _root_.Go.Proofs.Tryz
open Go.RowKit
theorem Zx (w:World) (va:Value) (sh:Bool) (lv:Int) (vr:Value) (a:Option Addr) (c:Nat) (es:List Ent) (run:List Int) :
  Calls prog 151 #[.agg #[va,.bool sh,.int .i64 lv],vr,.slice a 0 c] w fun e w'=>e=.returned (.int .i64 (kn es run []))∧Below w.heap.size w w':=by
 have HF:Hid (-1=kn es run []):=rfl;go_enter func151,ntmps151;go_wp2;go_loop [15] (fun i=>i=.int .i64 0) (fun _=>0)
 case atStart=>rfl
 case round =>
  subst hrel;go_wp2;go_ret;rw[<- HF.out];exact⟨rfl,bY _⟩
theorem Zw {w:World} {B Br Bs:Nat} {v vr vq:Value} {es:List Ent} {sh:Bool} {lv:Int} {run rest:List Int}(hE:ac w B v es) (hn:es.length≤1048576) (hr:∀ e ∈ es,e.runes.length≤1048576)
  (hR:ab w Br vr run) (hS:ab w Bs vq rest) (h1:1≤run.length) (a0:run.length≤4000) (a1:rest.length≤4000) :
  Calls prog 151 #[.agg #[v,.bool sh,.int .i64 lv],vr,vq] w fun e w'=>e=.returned (.int .i64 (kn es run rest))∧Below w.heap.size w w':=by
 rcases hS.form with ⟨rfl,rfl⟩|⟨gs,cs,rfl,_,_⟩
 .exact Zx w v sh lv vr none 0 es run
 .rcases hR.form with ⟨rfl,rfl⟩|⟨gr,cr,rfl,_,_⟩
  .simp at h1
  .exact Zy w B Br Bs gr cr gs cs v es sh lv run rest hE hn hr hR hS h1 a0 a1
theorem l6.three {w u:World} {v:Value} {sh:Bool} {lv:Int}(h:l6 w u v sh lv):u.cell? ⟨w.heap.size,0,none⟩=some v∧u.cell? ⟨w.heap.size,1,none⟩=some (.bool sh)∧u.cell? ⟨w.heap.size,2,none⟩=some (.int .i64 lv) :=
 ⟨cell_of_row _ _ 0 _ _ _ h,cell_of_row _ _ 1 _ _ _ h,cell_of_row _ _ 2 _ _ _ h⟩
theorem l6.kept {w u u':World} {v:Value} {sh:Bool} {lv:Int} {row:Option Nat}(h:l6 w u v sh lv) (hg:u.grownBy u' row) (a0:∀ g,row=some g→w.heap.size+1≤g):l6 w u' v sh lv:=by
 unfold l6 at h ⊢;rw[hg.block _ (Array.getElem?_eq_some_iff.1 h).1 (fun e=>by have:=a0 _ e.symm;omega)];exact h
def lj:Value→Nat
 | .slice _ n _=>n
 | _=>0
structure RR (w u:World) (v:Value) (sh:Bool) (lv:Int) (v5 vr vq:Value) (done:List El) (run rest:List Int):Prop where
 run:ab u (w.heap.size+1) vr run
 rest:∃ T,ab u T vq rest∧w.heap.size+1≤T∧∀ g,vr.ownBlock=some g→g<T
 els:ah u (w.heap.size+1) v5 done
 box:l6 w u v sh lv
 bel:Below w.heap.size w u
theorem RR.below {w u u':World} {v v5 vr vq:Value} {sh:Bool} {lv:Int} {done:List El} {run rest:List Int}(h:RR w u v sh lv v5 vr vq done run rest) (hb:Below u.heap.size u u'):RR w u' v sh lv v5 vr vq done run rest:=by
 obtain⟨T,h1,h2,h3⟩:=h.rest;exact⟨h.run.below hb,⟨T,h1.below hb,h2,h3⟩,h.els.below hb,h.box.below hb,h.bel.trans (hb.mono h.bel.size)⟩
def Tp (w:World) (v:Value) (sh:Bool) (lv:Int) (es:List Ent) (v5:Value) (done:List El) (N:Nat) (goal:List Int × List Int) (vr vq:Value) (wr:World):Prop :=
 ∃ run rest,1≤run.length∧run.length+rest.length=N∧mf es run rest=goal∧RR w wr v sh lv v5 vr vq done run rest
def To (w:World) (v:Value) (sh:Bool) (lv:Int) (es:List Ent) (goal:List El) (v1 v5:Value) (wr:World):Prop :=
 ∃ (rest:List Int) (done:List El),rest.length≤1800∧done.length+2*rest.length≤3600∧(∀ x ∈ rest,0≤x∧x≤1114111)∧ab wr (w.heap.size+1) v1 rest∧ah wr (w.heap.size+1) v5 done∧done++eb es rest=goal∧l6 w wr v sh lv∧Below w.heap.size w wr
structure St1 (w u:World) (v:Value) (sh:Bool) (lv:Int) (v1 v5:Value) (rest:List Int) (done:List El):Prop where
 ints:ab u (w.heap.size+1) v1 rest
 els:ah u (w.heap.size+1) v5 done
 box:l6 w u v sh lv
 bel:Below w.heap.size w u
theorem St1.below {w u u':World} {v v1 v5:Value} {sh:Bool} {lv:Int} {rest:List Int} {done:List El}(h:St1 w u v sh lv v1 v5 rest done) (hb:Below u.heap.size u u'):St1 w u' v sh lv v1 v5 rest done :=
 ⟨h.ints.below hb,h.els.below hb,h.box.below hb,h.bel.trans (hb.mono h.bel.size)⟩
def az0 (w:World) (v:Value) (sh:Bool) (lv:Int) (v1 v5:Value) (es:List Ent) (rest:List Int) (done:List El) (nv kv:Value) (wr:World):Prop :=
 ∃ k:Nat,2≤k∧k≤5∧kv=.int .i64 k∧nv=.int .i64 (ku es rest k)∧St1 w wr v sh lv v1 v5 rest done
theorem Hy {w:World} {g c n m:Nat} {l:List Int}(hg:g<w.heap.size) (hc:∀ j x,l[j]? = some x→w.cell? ⟨g,0+j,none⟩=some (.int .i64 x)) (hm:m=l.length-n):il w (.slice (some ⟨g,n,none⟩) m c) (l.drop n):=by
 subst hm;refine .inr ⟨g,n,c,by rw[List.length_drop],hg,fun j x hx=>?_⟩;rw[List.getElem?_drop]at hx;have:=hc (n+j) x hx;rw[Nat.zero_add]at this;exact this
theorem Hz {w:World} {a:Option Addr} {c m:Nat} {l:List Int}(hm:m=0) (hl:l=[]):il w (.slice a m c) l:=.inl ⟨a,c,by rw[hm],hl⟩
theorem a93 {w:World} {B B':Nat} {v:Value} {es:List El}(h:ah w B' v es) (hB:B≤B'):ah w B v es:=by
 refine⟨h.1,?_⟩;rcases h.2 with h|⟨g,cap,cur,h1,h2,h3⟩
 .exact .inl h
 .exact .inr ⟨g,cap,cur,h1,Nat.le_trans hB h2,h3⟩
theorem tc {w:World} {B:Nat} {v:Value} {l:List Int}(h:ab w B v l) (h1:1≤l.length):∃ g c,v=.slice (some ⟨g,0,none⟩) l.length c∧B≤g∧g<w.heap.size∧∀ j x,l[j]? = some x→w.cell? ⟨g,0+j,none⟩=some (.int .i64 x):=by
 rcases h.form with ⟨rfl,rfl⟩|⟨g,cap,rfl,_,_⟩
 .simp at h1
 .refine⟨g,cap,rfl,(World.ownsRow.lt h g rfl).1,(World.ownsRow.lt h g rfl).2,fun j x hx=>?_⟩
  have hj:=(List.getElem?_eq_some_iff.1 hx).1;rw[Nat.zero_add,h.cell j hj,hx];rfl
theorem Ba {w w':World} {v:Value} {l:List Int}(h:il w v l) (e:w'.heap=w.heap):il w' v l:=by
 rcases h with h|⟨g,f,c,h1,h2,h3⟩
 .exact .inl h
 .exact .inr ⟨g,f,c,h1,by rw[e];exact h2,fun j x hx=>(World.cell?_of_block (by rw[e])).trans (h3 j x hx)⟩
theorem Yy {w:World} {B g cap:Nat} {es:List Ent}(h:ac w B (.slice (some ⟨g,0,none⟩) es.length cap) es) (k:Nat) (e:Ent) (hk:es[k]? = some e) :
  w.cell? ⟨g,k*5+1,none⟩=some (.int .i64 e.el.first)∧w.cell? ⟨g,k*5+2,none⟩=some (.int .i64 e.el.second)∧w.cell? ⟨g,k*5+3,none⟩=some (.int .i64 e.el.third)∧w.cell? ⟨g,k*5+4,none⟩=some (.bool e.el.varies):=by
 obtain⟨_,_,_,h1,h2,h3,h4⟩:=h.cells k e hk;exact⟨h1,h2,h3,h4⟩
theorem a91 {es:List Ent} {run:List Int} {i:Nat} {e:Ent}(he:es[i]? = some e) (h:atE es run=(i:Int)):ju es run=[e.el]:=by
 have:dj es run=some e.el:=by unfold dj;rw[h,if_pos (by omega),Int.toNat_natCast,he];rfl
 unfold ju;rw[this]
theorem a92 {es:List Ent} {run:List Int}(h:atE es run=-1):ju es run=base (at0 run 0):=by
 have:dj es run=none:=by unfold dj;rw[h,if_neg (by omega)]
 unfold ju;rw[this]
theorem ol {w:World} {B:Nat} {v:Value} {l:List Int}(h:ab w B v l):∃ a c,v=.slice a l.length c:=h.rowAt.slice
theorem Qe {w:World} {B B':Nat} {v vl:Value} {es:List Ent} {sh:Bool} {lv:Int} {l:List Int}(hE:ac w B v es) (hn:es.length≤1048576) (hr:∀ e ∈ es,e.runes.length≤1048576)
  (hL:ab w B' vl l) (hl:l.length≤1800) (hg:∀ x ∈ l,0≤x∧x≤1114111) :
  Calls prog 134 #[.agg #[v,.bool sh,.int .i64 lv],vl] w fun e w'=>∃ v',e=.returned v'∧ah w' w.heap.size v' (eb es l)∧Below w.heap.size w w':=by
 obtain⟨va,vc,rfl⟩:∃ a c,v=.slice a es.length c:=by
  rcases hE.form with ⟨rfl,rfl⟩|⟨_,_,rfl,_,_,_,_⟩
  .exact⟨_,_,rfl⟩
  .exact⟨_,_,rfl⟩
 obtain⟨al,cl,rfl⟩:=ol hL;have av:Below w.heap.size w (w.alloc (.cells #[.slice va es.length vc,.bool sh,.int .i64 lv] 56)):=bY _;have aI:l6 w (w.alloc (.cells #[.slice va es.length vc,.bool sh,.int .i64 lv] 56)) (.slice va es.length vc) sh lv:=heap_alloc_new w _;obtain⟨a3,a8⟩:∃ a3,Hid (eb es l=a3):=⟨_,rfl⟩
 rw[a8.out];have HE:Hid (ac _ _ _ _):=hE;have hi0:ab ((w.alloc (.cells #[.slice va es.length vc,.bool sh,.int .i64 lv] 56)).alloc (.cells #[] 3)) (w.heap.size+1) (.slice (some ⟨w.heap.size+1,0,none⟩) 0 0) []:=uc _ _ _ (by simp) (by omega);have a5:il ((w.alloc (.cells #[.slice va es.length vc,.bool sh,.int .i64 lv] 56)).alloc (.cells #[] 3)) (.slice al l.length cl) l:=((hL.below av).below (cn _ _)).rowAt;clear hE hL;go_enter func134,ntmps134;go_wp2_with (at_builtin;refine sq rfl _ _ rfl (w.heap.size+1) _ _ [] l rfl rfl hi0 a5 (by simp;omega) (by simp) ?_)
 intro v1 w1 i1 g1;have aQ:To w (.slice va es.length vc) sh lv es a3 v1 (.slice none 0 0) w1 :=
  ⟨l,[],hl,by simp;omega,hg,i1,⟨rfl,.inl ⟨rfl,rfl⟩⟩,a8.out,(aI.below (cn _ _)).kept g1 (fun g e=>by simp[Value.ownBlock]at e;omega),Below.grown (av.trans ((cn _ _).mono av.size)) g1 (by simp;omega) (fun g e=>by simp[Value.ownBlock]at e;omega)⟩
 have af:Hid (To _ _ _ _ _ _ _ _ _):=aQ;clear aQ g1 i1 hi0 a5 a8 aI av hg hl;go_wp2_with fail;go_loopw [1,5] (fun v1 v5 wr=>To w (.slice va es.length vc) sh lv es a3 v1 v5 wr) (fun v1 _ _=>lj v1)
 case atStart=>exact af.out
 case round =>
  clear af;obtain⟨rest,done,cB,cv,bh,i1,d1,bv,av,aY⟩:=hrel;have aT:Hid (done++eb es rest=a3):=bv;clear bv;by_cases h0:rest.length=0
  .have cc:rest=[]:=List.eq_nil_of_length_eq_zero h0
   subst cc;have HF:Hid (done=a3):=by show _=_;rw[<- aT.out,Ha,List.append_nil]
   obtain⟨a6,c6,rfl⟩:=ol i1;have HD:Hid (ah _ _ _ _):=d1;have bG:Hid _:=aY;clear aT d1 aY i1;go_wp2;go_ret;rw[<- HF.out];exact⟨_,rfl,a93 HD.out (by omega),bG.out⟩
  .obtain⟨g1,c1,rfl,hB1,hg1,hc1⟩:=tc i1 (by omega)
   have bt:rest.length≤c1:=by
    rcases i1.form with ⟨h,_⟩|⟨_,_,h,h2,_⟩
    .cases h
    .injection h with _ _ h3;omega
   have hk:=pe (es:=es) (l:=rest) (by omega);have aq:Hid ((done++ju es (fk es rest).1)++eb es (fk es rest).2=a3):=by
    show _=_
    rw[<- aT.out,Ef (es:=es) (l:=rest) (by omega),List.append_assoc]
   have aM:=C8 es (fk es rest).1;have cu:=J6 (es:=es) (l:=rest) (by omega);have cp:(0:Int)<(rest.length:Int):=by omega
   have bL:0<rest.length:=by omega
   have cr:decide (0<rest.length)=true:=decide_eq_true bL;have bp:Hid (St1 w wr (.slice va es.length vc) sh lv (.slice (some ⟨g1,0,none⟩) rest.length c1) u5 rest done):=⟨i1,d1,av,aY⟩;clear aT d1 aY av i1 hc1 hg1;go_wp2_with fail;go_loopw [6,7] (fun nv kv w2=>az0 w (.slice va es.length vc) sh lv (.slice (some ⟨g1,0,none⟩) rest.length c1) u5 es rest done nv kv w2) (fun _ kv _=>5-(intOf kv).toNat)
   case atStart=>exact⟨2,by omega,by omega,rfl,by rw[Ky];rfl,bp.out⟩
   case round =>
    clear bp;obtain⟨k,bw,bW,rfl,rfl,a7⟩:=hrel;obtain⟨n0,aC⟩:∃ n0,Hid (ku es rest k=n0):=⟨_,rfl⟩
    rw[aC.out];have ca:=Ou (es:=es) (l:=rest) (k:=k) (by omega);rw[aC.out]at ca;obtain⟨p0,p1,p2⟩:=a7.box.three;by_cases bx:k≤4∧k≤rest.length
    .have bV:(k:Int)≤4:=by omega
     have c3:(k:Int)≤(rest.length:Int):=by omega
     have cy:k≤c1:=by omega
     have AT:=fun (u:World) (hu:Below wr.heap.size wr u)=>ql (sh:=sh) (lv:=lv) ((HE.out.below a7.bel).below hu) ((a7.ints.take k bx.2).below hu) hn (by rw[List.length_take];omega) hr
     have af:Hid (ku es rest (k+1)=if 0≤atE es (rest.take k) then k else n0):=by
      show _=_
      rw[rm bw,Ka bx.2,aC.out];by_cases c:0≤atE es (rest.take k)
      .rw[decide_eq_true c,if_pos rfl,if_pos c]
      .rw[decide_eq_false c,if_neg (by simp),if_neg c]
     have aG:Hid _:=a7;have KS:Hid (∀ u,Below wr.heap.size wr u→u.cell? ⟨w.heap.size,0,none⟩=some (.slice va es.length vc)∧u.cell? ⟨w.heap.size,1,none⟩=some (.bool sh)∧u.cell? ⟨w.heap.size,2,none⟩=some (.int .i64 lv)):=fun u hu=>(a7.box.below hu).three
     clear a7 aC;generalize atE es (rest.take k)=ae at *;go_wp2_with fail;go_region_held3 (fun u=>u.cell? ⟨w.heap.size,0,none⟩=some (.slice va es.length vc)∧u.cell? ⟨w.heap.size,1,none⟩=some (.bool sh)∧u.cell? ⟨w.heap.size,2,none⟩=some (.int .i64 lv))
      (exact KS.out _ (by repeat (first|with_reducible exact bX|with_reducible exact au|with_reducible refine Below.drew ?_)))
      ((go_at_call 57;refine (AT _ (by repeat (first|with_reducible exact bX|with_reducible refine Below.drew ?_))).mono ?_;rintro e w4 ⟨rfl,b4⟩;have au:Below wr.heap.size wr w4:=by first|exact b4|exact (bX.drew).trans b4))
     all_goals
      have bq:Hid _:=aG.out.below au;clear AT KS aG b4 au p0 p1 p2;by_cases ar:0≤ae
      .have HR:Hid (ku es rest (k+1)=k):=by show _=_;rw[af.out,if_pos ar]
       clear af;go_wp2;exact⟨⟨k+1,by omega,by omega,by go_num,by rw[HR.out],bq.out⟩,by simp[intOf];omega⟩
      .have HR:Hid (ku es rest (k+1)=n0):=by show _=_;rw[af.out,if_neg ar]
       clear af;go_wp2;exact⟨⟨k+1,by omega,by omega,by go_num,by rw[HR.out],bq.out⟩,by simp[intOf];omega⟩
    .have HN:Hid (mw es rest=n0):=by
      show _=_
      rw[<- aC.out];by_cases h5:k=5
      .subst h5;exact (Bf es rest).symm
      .exact (a33 bw bW (by omega)).symm
     have aG:Hid _:=a7;have cb:n0≤c1:=by omega
     clear aC p0 p1 p2;go_upto_region 6 with fail
     go_cut [25] from 18 to 25 (fun b wx=>b=.bool false∧wx=wr)
     case first =>
      by_cases h4:(k:Int)≤4
      .have h5:¬ (k:Int)≤(rest.length:Int):=by omega
       go_wp2;go_meet
       case rel=>exact⟨rfl,rfl⟩
      .go_wp2
       go_meet
       case rel=>exact⟨rfl,rfl⟩
     case rest =>
      obtain⟨rfl,rfl⟩:=hcut;have cD:=a7.bel.size;obtain⟨gq,cq,ch,cs,b0,bg⟩:=tc a7.ints (by omega);injection ch with hv1 _ hv3;injection hv1 with hv2;injection hv2 with hv4;subst hv4;subst hv3;have hi0:ab (wc.alloc (.cells #[] 3)) (w.heap.size+1) (.slice (some ⟨wc.heap.size,0,none⟩) 0 0) []:=uc _ _ _ rfl (by have:=(World.ownsRow.lt a7.ints g1 rfl).1;omega);have a5:il (wc.alloc (.cells #[] 3)) (.slice (some ⟨g1,0,none⟩) n0 c1) (rest.take n0):=il.below (we n0 (by omega) b0 bg) (cn _ _);have ci:w.heap.size+1≤wc.heap.size:=by have:=(World.ownsRow.lt a7.ints g1 rfl).1;omega
      clear a7;go_wp2_with (at_builtin;refine sq rfl _ _ rfl (w.heap.size+1) _ _ [] (rest.take n0) rfl rfl hi0 a5 (by simp;omega) (by simp;omega) ?_)
      intro vr u2 ir gr;have bE:ab u2 (w.heap.size+1) vr (rest.take n0):=ir;have b2:Below wc.heap.size wc u2:=Below.grown (cn wc _) gr (by simp) (fun g e=>by cases e;exact bR);have S2:=aG.out.below b2;have aL:∀ j x,rest[j]? = some x→u2.cell? ⟨g1,0+j,none⟩=some (.int .i64 x):=fun j x hx=>(b2.cell b0).trans (bg j x hx)
      have bi:g1<u2.heap.size:=Nat.lt_of_lt_of_le b0 b2.size;have aR:=b2.size;have b8:Hid (ab _ _ _ _):=bE;have aW:Hid _:=S2;clear ir bE gr hi0 a5 aG S2 bg b0 b2;have hi0:ab (u2.alloc (.cells #[] 3)) u2.heap.size (.slice (some ⟨u2.heap.size,0,none⟩) 0 0) []:=uc _ _ _ rfl bR;go_upto_region 11 with fail
      go_cut [9] from 40 to 44 (fun vq wx=>ab wx u2.heap.size vq (rest.drop n0)∧Below u2.heap.size u2 wx)
      case first =>
       by_cases aK:c1=n0
       .subst aK
        have a5:rest.drop c1=[]:=List.drop_eq_nil_of_le (by omega);go_wp2_with (at_builtin;refine sq rfl _ _ rfl u2.heap.size _ _ [] (rest.drop c1) rfl rfl hi0 (Hz (by first|rfl|omega) a5) (by simp;omega) (by simp) ?_)
        intro vq u4 iq gq;have b4:Below u2.heap.size u2 u4:=Below.grown (cn u2 _) gq (by simp) (fun g e=>by cases e;exact bR);have hK:ab u4 u2.heap.size vq (rest.drop c1)∧Below u2.heap.size u2 u4:=⟨by rw[a5];exact iq,b4⟩;clear iq b4 gq a5 hi0;go_wp2_with fail;go_meet
        case rel=>exact hK
       .have bf:(c1 == n0)=false:=by simpa using aK
        have a5:il (u2.alloc (.cells #[] 3)) (.slice (some ⟨g1,n0,none⟩) (rest.length-n0) (c1-n0)) (rest.drop n0):=il.below (Hy bi aL rfl) (cn _ _);go_wp2_with (at_builtin;refine sq rfl _ _ rfl u2.heap.size _ _ [] (rest.drop n0) rfl rfl hi0 a5 (by simp;omega) (by simp) ?_)
        intro vq u4 iq gq;have b4:Below u2.heap.size u2 u4:=Below.grown (cn u2 _) gq (by simp) (fun g e=>by cases e;exact bR);have hK:ab u4 u2.heap.size vq (rest.drop n0)∧Below u2.heap.size u2 u4:=⟨iq,b4⟩;clear iq b4 gq a5 hi0;go_wp2_with fail;go_meet
        case rel=>exact hK
      case rest =>
       obtain⟨iq,b4⟩:=hcut;have aj:RR w wc (.slice va es.length vc) sh lv u5 vr u9 done (rest.take n0) (rest.drop n0) :=
        ⟨b8.out.below b4,⟨u2.heap.size,iq,by omega,fun g e=>(World.ownsRow.lt b8.out g e).2⟩,(aW.out.below b4).els,(aW.out.below b4).box,(aW.out.below b4).bel⟩
       have aQ:Tp w (.slice va es.length vc) sh lv es u5 done rest.length (fk es rest) vr u9 wc :=
        ⟨rest.take n0,rest.drop n0,by rw[List.length_take];omega,by rw[List.length_take,List.length_drop];omega,by unfold fk;rw[HN.out],aj⟩
       have af:Hid (Tp _ _ _ _ _ _ _ _ _ _ _ _):=aQ;clear aQ aj iq b4 b8 aW aL hi0 HN;obtain⟨bT,bj,bU,aO,az⟩:=hk;generalize fk es rest=tk at *;go_wp2_with fail;go_loopw [8,9] (fun vr vq wr=>Tp w (.slice va es.length vc) sh lv es u5 done rest.length tk vr vq wr) (fun _ vq _=>lj vq)
       case atStart=>exact af.out
       case round =>
        clear af;obtain⟨run,rst,bB,cC,ao,aj⟩:=hrel;obtain⟨T,hq,hT,br⟩:=aj.rest;have MK:=fun (u:World) (hu:Below wr.heap.size wr u)=>Zw (sh:=sh) (lv:=lv) ((HE.out.below aj.bel).below hu) hn hr (aj.run.below hu) (hq.below hu) bB (by omega) (by omega)
        obtain⟨p0,p1,p2⟩:=aj.box.three;have aU:Hid (mf es run rst=tk):=ao;have aV:Hid _:=aj;have aD:=MK _ bX;clear MK ao;rcases Aw es run rst with aA|⟨k,bk,aA⟩
        .rw[aA]at aD
         have HF:Hid (tk=(run,rst)):=by show _=_;rw[<- aU.out];exact K9 aA
         clear aU aA;have cd:=HF.out;subst cd;simp only at bT bj bU aO az aq aM;go_wp2_with fail;refine aD.mono ?_;rintro e w2 ⟨rfl,b2⟩;clear aD p0 p1 p2;have a0:=aV.out.below b2;obtain⟨p0,p1,p2⟩:=a0.box.three;have AT:=ql (sh:=sh) (lv:=lv) (HE.out.below a0.bel) a0.run hn (by omega) hr;have aa:Hid _:=a0;obtain⟨g8,c8,cf,_,bS,bs⟩:=tc a0.run bB;obtain⟨x,hx⟩:∃ x,run[0]? = some x:=⟨_,List.getElem?_eq_getElem (by omega)⟩
         have cj:at0 run 0=x:=by unfold at0;rw[hx];rfl
         have bD:=bh x (aO x (List.mem_of_getElem? hx));have bb:w2.cell? ⟨g8,0,none⟩=some (.int .i64 x):=bs 0 x hx;have c5:(0:Int)<(run.length:Int):=by omega
         have bM:=HE.out.form;clear aj a0 aV hq br bs;subst cf;rcases tn es run with aH|⟨ai,ae,ar,aH⟩
         .have ap:Hid (ju es run=base x):=by show _=_;rw[a92 aH,cj]
          rw[aH]at AT;go_wp2_with fail;refine AT.mono ?_;rintro e w3 ⟨rfl,b3⟩;clear AT p0 p1 p2;have a1:=aa.out.below b3;obtain⟨T3,aP,bc,_⟩:=a1.rest;have bI:w3.cell? ⟨g8,0,none⟩=some (.int .i64 x):=(b3.cell bS).trans bb;have SB:=D8 x bD.1 bD.2 w3;clear bb b3;go_wp2_with fail;refine SB.mono ?_;rintro e w4 ⟨v4,rfl,e4,b4⟩;have a2:=a1.below b4;have d4:ah w4 (w.heap.size+1) u5 done:=a2.els;have am:ab w4 (w.heap.size+1) u9 rst:=fe (aP.below b4) bc;have ak:=a2.box;have ag:=a2.bel;have an:w.heap.size+1≤w4.heap.size:=by have:=(Array.getElem?_eq_some_iff.1 ak).1;omega
          rw[ap.out]at aM;clear SB bI a1 a2 aP b4 aa;go_wp2_with (at_builtin;refine A8 rfl _ _ rfl (w.heap.size+1) _ u5 v4 done (base x) rfl rfl d4 e4 (by omega) (by omega) ?_)
          intro v5 w5 e5 g5;rw[<- ap.out]at aM;clear e4;have HQ:Hid (ab w5 (w.heap.size+1) u9 rst):=World.ownsRow.kept am g5 (dg am d4 (by decide));have ba:Hid (l6 w w5 (.slice va es.length vc) sh lv):=l6.kept ak g5 (fun g e=>(World.ownsRow.lt d4 g e).1);have b1:Hid (Below w.heap.size w w5):=Below.grown ag g5 ag.size (fun g e=>by have:=(World.ownsRow.lt d4 g e).1;omega);have b5:Hid (ah _ _ _ _):=e5;have bl:=ol am;obtain⟨a9,c9,rfl⟩:=bl;clear g5 e5 d4 am ak ag;go_wp2;refine⟨⟨rst,done++ju es run,by omega,by rw[List.length_append];omega,fun x hx=>bh x (az x hx),HQ.out,by rw[ap.out];exact b5.out,aq.out,ba.out,b1.out⟩,?_⟩;show lj _<lj _
          show rst.length<rest.length
          omega
         .have ap:Hid (ju es run=[ae.el]):=a91 ar aH
          obtain⟨ge,ce,cg,bP,cw⟩:∃ ge ce,(va=some ⟨ge,0,none⟩∧vc=ce)∧ge<w.heap.size∧(0:Nat)=0:=by
           rcases bM with ⟨h,h2⟩|⟨ge,ce,h,_,_,h5,_⟩
           .subst h2;simp at ar
           .injection h with h6 _ h8
            exact⟨ge,ce,⟨h6,h8⟩,h5,rfl⟩
          obtain⟨rfl,rfl⟩:=cg;have bO:ai<es.length:=(List.getElem?_eq_some_iff.1 ar).1;have bN:(ai:Int)<(es.length:Int):=by omega
          rw[aH]at AT;go_wp2_with fail;refine AT.mono ?_;rintro e w3 ⟨rfl,b3⟩;clear AT p0 p1 p2 bb;have a1:=aa.out.below b3;obtain⟨p0,p1,p2⟩:=a1.box.three;obtain⟨y1,y2,y3,y4⟩:=Yy (HE.out.below a1.bel) ai ae ar;obtain⟨T3,aP,bc,_⟩:=a1.rest;have bH:=a1.bel;have bd:=(Below.refl w3.heap.size w3).alloc bR (.cells #[.int .i64 ae.el.first,.int .i64 ae.el.second,.int .i64 ae.el.third,.bool ae.el.varies] 111);have a2:=a1.below bd;have d4:ah _ (w.heap.size+1) u5 done:=a2.els;have am:ab _ (w.heap.size+1) u9 rst:=fe (aP.below bd) bc;have ak:=a2.box;have ag:=a2.bel;have e4:=Js w3 [ae.el] 1 rfl (by unfold maxLen;omega) #[.int .i64 ae.el.first,.int .i64 ae.el.second,.int .i64 ae.el.third,.bool ae.el.varies] rfl;have an:w.heap.size+1≤w3.heap.size:=by have:=(Array.getElem?_eq_some_iff.1 a1.box).1;omega
          rw[ap.out]at aM;clear a1 a2 aP bd aa b3 bH;go_wp2_with (at_builtin;refine A8 rfl _ _ rfl (w.heap.size+1) _ u5 _ done [ae.el] rfl rfl d4 e4 (by simp;omega) (by simp;omega) ?_)
          intro v5 w5 e5 g5;rw[<- ap.out]at aM;clear e4 y1 y2 y3 y4 p0 p1 p2;have HQ:Hid (ab w5 (w.heap.size+1) u9 rst):=World.ownsRow.kept am g5 (dg am d4 (by decide));have ba:Hid (l6 w w5 (.slice (some ⟨ge,0,none⟩) es.length vc) sh lv):=l6.kept ak g5 (fun g e=>(World.ownsRow.lt d4 g e).1);have b1:Hid (Below w.heap.size w w5):=Below.grown ag g5 ag.size (fun g e=>by have:=(World.ownsRow.lt d4 g e).1;omega);have b5:Hid (ah _ _ _ _):=e5;have bl:=ol am;obtain⟨a9,c9,rfl⟩:=bl;clear g5 e5 d4 am ak ag;go_wp2;refine⟨⟨rst,done++ju es run,by omega,by rw[List.length_append];omega,fun x hx=>bh x (az x hx),HQ.out,by rw[ap.out];exact b5.out,aq.out,ba.out,b1.out⟩,?_⟩;show lj _<lj _
          show rst.length<rest.length
          omega
        .rw[aA]at aD
         obtain⟨x,hx⟩:∃ x,rst[k]? = some x:=⟨_,List.getElem?_eq_getElem bk⟩
         have HF:Hid (mf es (run++[x]) (rst.eraseIdx k)=tk):=by
          show _=_
          rw[<- aU.out,Su bk aA];unfold at0;rw[hx];rfl
         obtain⟨g9,c9,bC,ct,aZ,be⟩:=tc hq (by omega);have bu:rst.length≤c9:=by
          rw[bC]at hq;rcases hq.form with ⟨h,_⟩|⟨_,_,h,h2,_⟩
          .cases h
          .injection h with _ _ h3;omega
         have c4:¬ ((k:Int)<0):=by omega
         have cx:(k:Int)<(rst.length:Int):=by omega
         clear aU aA;subst bC;obtain⟨i0,hi,co,ck,cm⟩:=info_parts dv;go_wp2_with fail;refine aD.mono ?_;rintro e w2 ⟨rfl,b2⟩;clear aD p0 p1 p2;have a0:=aV.out.below b2;have aE:=a0.run;have bK:w2.cell? ⟨g9,k,none⟩=some (.int .i64 x):=by have:=be k x hx;rw[Nat.zero_add]at this;exact (b2.cell aZ).trans this
         have aJ:∀ j y,rst[j]? = some y→w2.cell? ⟨g9,0+j,none⟩=some (.int .i64 y):=fun j y hy=>(b2.cell aZ).trans (be j y hy)
         have aN:g9<w2.heap.size:=Nat.lt_of_lt_of_le aZ b2.size;have aR:w.heap.size+1≤w2.heap.size:=by have:=(Array.getElem?_eq_some_iff.1 a0.box).1;omega
         have aF:Hid (∀ j y,rst[j]? = some y→w2.cell? ⟨g9,0+j,none⟩=some (.int .i64 y)):=aJ;have aa:Hid _:=a0;unfold ab at aE;clear aj a0 aV hq be aZ b2 aJ hx;go_wp2_with (at_builtin;refine wpList_append_own _ rfl _ _ 39 rfl (w.heap.size+1) 3 i0 (.int .i64 0) 1 8 underlying39 hi co ck cm rfl (by decide) _ _ _ rfl (aE.alloc _) ⟨w2.heap.size,0,none⟩ 1 1 [.int .i64 x] rfl rfl (ic _ _ _ _ (by simp)) (fun u hu=>by simp at hu;subst hu;rfl) (by unfold maxLen;omega) (by omega) (by simp;omega) ?_)
         intro bo w4 bA ax _;have bF:ab w4 (w.heap.size+1) bo (run++[x]):=ab.snoc bA;have bz:some g9≠u8.ownBlock:=fun e=>by have:=br g9 e.symm;omega
         have aw:∀ j y,rst[j]? = some y→w4.cell? ⟨g9,0+j,none⟩=some (.int .i64 y):=fun j y hy=>by
          rw[World.cell?_of_block ((ax.block g9 (by simp;omega) bz).trans (Below.heap_alloc _ _ _ aN))];exact aF.out j y hy
         have ay:g9<w4.heap.size:=Nat.lt_of_lt_of_le aN (Nat.le_trans (by simp) ax.size);have d4:ah w4 (w.heap.size+1) u5 done:=World.ownsRow.kept (World.ownsRow.alloc aa.out.els _) ax (dg aa.out.els aE (by decide));have ak:l6 w w4 (.slice va es.length vc) sh lv:=l6.kept (aa.out.box.below (cn _ _)) ax (fun g e=>(World.ownsRow.lt aE g e).1);have ag:Below w.heap.size w w4:=Below.grown (aa.out.bel.trans ((cn _ _).mono aa.out.bel.size)) ax (by simp;omega) (fun g e=>by have:=(World.ownsRow.lt aE g e).1;omega);have c7:=List.length_eraseIdx_of_lt bk;have a4:Hid (ab _ _ _ _):=bF;have aS:Hid (ah _ _ _ _):=d4;have aX:Hid (l6 _ _ _ _ _):=ak;have aB:Hid _:=ag;have an:w.heap.size+1≤w4.heap.size:=Nat.le_trans aR (Nat.le_trans (by simp) ax.size);clear bA ax aE aa aF bK bF d4 ak ag bz;have c2:k≤c9:=by omega
         have c0:(k:Int)+1≤(rst.length:Int):=by omega
         have bZ:(k:Int)+1≤(c9:Int):=by omega
         have cF:IntKind.i64.wrap ((k:Int)+1)=(k:Int)+1:=by rw[IntKind.wrap_i64];omega
         have cE:((k:Int)+1).toNat=k+1:=by omega
         have cG:(0:Int)≤(k:Int)+1:=by omega
         go_wp2_with fail;by_cases aK:c9=k+1
         .subst aK
          have bQ:rst.drop (k+1)=[]:=List.drop_eq_nil_of_le (by omega);have cz:(k:Int)≤(k:Int)+1:=by omega
          have cA:(rst.length:Int)≤(k:Int)+1:=by omega
          go_region_law (first
           | (refine ng rfl (.tmp 58) (.tmp 61) rfl w4.heap.size (.slice (some ⟨w4.heap.size,0,none⟩) 0 0) (.slice (some ⟨g9,0,none⟩) k (k+1)) [] (rst.take k) rfl rfl (nt (uc w4 _ _ rfl bR) rfl) (Ba (il.below (we k (by omega) ay aw) (cn w4 (.cells #[] 3))) rfl) (by simp;omega) (by simp) ?_;intro v6 w6 i6 g6;have b6:Below w4.heap.size w4 w6:=Below.grown (by repeat (first|with_reducible exact cn _ _|with_reducible refine Below.drew ?_)) g6 (by simp) (fun g e=>by cases e;exact bR);have bm:=b6.size;clear g6)
           | (refine ng rfl (.tmp 62) (.tmp 66) rfl w4.heap.size v6 _ ([]++rst.take k) (rst.drop (k+1)) rfl rfl (nt i6 rfl) (Ba (Hz (by first|rfl|omega) bQ) rfl) (by simp;omega) (by first|omega|(simp;omega)) ?_;intro v7 w7 i7 g7;have b7:Below w4.heap.size w4 w7:=Below.grown (by repeat (first|with_reducible exact b6|with_reducible refine Below.drew ?_)) g7 (by first|omega|(simp;omega)) (fun g e=>(World.ownsRow.lt i6 g e).1);clear g7))
          all_goals
           have iq:ab w7 w4.heap.size v7 (rst.eraseIdx k):=by rw[List.eraseIdx_eq_take_drop_succ];exact i7
           have ad:RR w w7 (.slice va es.length vc) sh lv u5 bo v7 done (run++[x]) (rst.eraseIdx k) :=
            ⟨a4.out.below b7,⟨w4.heap.size,iq,an,fun g e=>(World.ownsRow.lt a4.out g e).2⟩,aS.out.below b7,aX.out.below b7,aB.out.trans (b7.mono aB.out.size)⟩
           obtain⟨a9,bJ,bn⟩:=ol iq;have b9:Hid _:=ad;clear ad iq b7 i7 i6 b6 a4 aS aX aB;go_wp2;refine⟨?_,?_⟩
           .exact⟨_,_,_,_,_,_,_,_,_,_,_,_,_,_,_,_,_,_,_,_,_,_,_,_,_,_,⟨run++[x],rst.eraseIdx k,by simp,by rw[List.length_append];simp;omega,HF.out,b9.out⟩,rfl⟩
           .subst bn
            show lj _<lj _
            show (rst.eraseIdx k).length<rst.length
            omega
         .have bf:(c9 == k+1)=false:=by simpa using aK
          go_region_law (first
           | (refine ng rfl (.tmp 58) (.tmp 61) rfl w4.heap.size (.slice (some ⟨w4.heap.size,0,none⟩) 0 0) (.slice (some ⟨g9,0,none⟩) k c9) [] (rst.take k) rfl rfl (nt (uc w4 _ _ rfl bR) rfl) (Ba (il.below (we k (by omega) ay aw) (cn w4 (.cells #[] 3))) rfl) (by simp;omega) (by simp) ?_;intro v6 w6 i6 g6;have b6:Below w4.heap.size w4 w6:=Below.grown (by repeat (first|with_reducible exact cn _ _|with_reducible refine Below.drew ?_)) g6 (by simp) (fun g e=>by cases e;exact bR);have bm:=b6.size;clear g6)
           | (refine ng rfl (.tmp 62) (.tmp 66) rfl w4.heap.size v6 _ ([]++rst.take k) (rst.drop (k+1)) rfl rfl (nt i6 rfl) (Ba (il.below (Hy ay aw rfl) b6) rfl) (by simp;omega) (by first|omega|(simp;omega)) ?_;intro v7 w7 i7 g7;have b7:Below w4.heap.size w4 w7:=Below.grown (by repeat (first|with_reducible exact b6|with_reducible refine Below.drew ?_)) g7 (by first|omega|(simp;omega)) (fun g e=>(World.ownsRow.lt i6 g e).1);clear g7))
          all_goals
           have iq:ab w7 w4.heap.size v7 (rst.eraseIdx k):=by rw[List.eraseIdx_eq_take_drop_succ];exact i7
           have ad:RR w w7 (.slice va es.length vc) sh lv u5 bo v7 done (run++[x]) (rst.eraseIdx k) :=
            ⟨a4.out.below b7,⟨w4.heap.size,iq,an,fun g e=>(World.ownsRow.lt a4.out g e).2⟩,aS.out.below b7,aX.out.below b7,aB.out.trans (b7.mono aB.out.size)⟩
           obtain⟨a9,bJ,bn⟩:=ol iq;have b9:Hid _:=ad;clear ad iq b7 i7 i6 b6 a4 aS aX aB;go_wp2;refine⟨?_,?_⟩
           .exact⟨_,_,_,_,_,_,_,_,_,_,_,_,_,_,_,_,_,_,_,_,_,_,_,_,_,_,⟨run++[x],rst.eraseIdx k,by simp,by rw[List.length_append];simp;omega,HF.out,b9.out⟩,rfl⟩
           .subst bn
            show lj _<lj _
            show (rst.eraseIdx k).length<rst.length
            omega
theorem cu {w:World} {B:Nat} {v:Value} {es:List Ent}(h:ac w B v es):∃ a c,v=.slice a es.length c:=by
 rcases h.form with ⟨rfl,rfl⟩|⟨_,_,rfl,_,_,_,_⟩
 .exact⟨_,_,rfl⟩
 .exact⟨_,_,rfl⟩
def Bv (u:World) (b:Nat) (v:Value) (sh:Bool) (lv:Int):Prop:=u.heap[b]? = some (.cells #[v,.bool sh,.int .i64 lv] 56)
theorem Bv.below {B b:Nat} {u u':World} {v:Value} {sh:Bool} {lv:Int}(h:Bv u b v sh lv) (hb:Below B u u') (a0:b<B):Bv u' b v sh lv:=(hb.block b a0).trans h
theorem Bv.cells {b:Nat} {u:World} {v:Value} {sh:Bool} {lv:Int}(h:Bv u b v sh lv):u.cell? ⟨b,0,none⟩=some v∧u.cell? ⟨b,1,none⟩=some (.bool sh)∧u.cell? ⟨b,2,none⟩=some (.int .i64 lv) :=
 ⟨cell_of_row _ _ 0 _ _ _ h,cell_of_row _ _ 1 _ _ _ h,cell_of_row _ _ 2 _ _ _ h⟩
def a64 (w0:World) (b:Nat) (v:Value) (sh:Bool) (lv:Int) (u:World):Prop:=u.cell? ⟨b,0,none⟩=some v∧u.cell? ⟨b,1,none⟩=some (.bool sh)∧u.cell? ⟨b,2,none⟩=some (.int .i64 lv)∧b<w0.heap.size∧Below w0.heap.size w0 u
theorem a64.keep {w0 u u':World} {b:Nat} {v:Value} {sh:Bool} {lv:Int}(hb:Below u.heap.size u u')
  (h:u.cell? ⟨b,0,none⟩=some v∧u.cell? ⟨b,1,none⟩=some (.bool sh)∧u.cell? ⟨b,2,none⟩=some (.int .i64 lv)∧b<w0.heap.size∧Below w0.heap.size w0 u) :
  u'.cell? ⟨b,0,none⟩=some v∧u'.cell? ⟨b,1,none⟩=some (.bool sh)∧u'.cell? ⟨b,2,none⟩=some (.int .i64 lv)∧b<w0.heap.size∧Below w0.heap.size w0 u':=by
 obtain⟨h0,h1,h2,h3,h4⟩:=h;have a0:b<u.heap.size:=Nat.lt_of_lt_of_le h3 h4.size;exact⟨(hb.cell a0).trans h0,(hb.cell a0).trans h1,(hb.cell a0).trans h2,h3,h4.trans (hb.mono h4.size)⟩
theorem Ud {w:World} {B:Nat} {v:Value} {es:List El}(h:ah w B v es) :
  ∃ a c,v=.slice a es.length c∧∀ k e,es[k]? = some e→∃ g,a=some ⟨g,0,none⟩∧g<w.heap.size∧w.cell? ⟨g,k*4,none⟩=some (.int .i64 e.first)∧w.cell? ⟨g,k*4+1,none⟩=some (.int .i64 e.second)∧w.cell? ⟨g,k*4+2,none⟩=some (.int .i64 e.third)∧w.cell? ⟨g,k*4+3,none⟩=some (.bool e.varies):=by
 rcases h.form with ⟨rfl,rfl⟩|⟨g,cap,rfl,_,_⟩
 .exact⟨_,_,rfl,fun k e he=>by simp at he⟩
 .exact⟨_,_,rfl,fun k e he=>⟨g,rfl,(World.ownsRow.lt h g rfl).2,h.cells k e he⟩⟩
theorem Ra {w:World} {B:Nat} {v:Value} {l:List Int}(h:ab w B v l) :
  ∃ a c,v=.slice a l.length c∧∀ k,k<l.length→∃ g,a=some ⟨g,0,none⟩∧g<w.heap.size∧w.cell? ⟨g,k,none⟩=some (.int .i64 (at0 l k)):=by
 rcases h.form with ⟨rfl,rfl⟩|⟨g,cap,rfl,_,_⟩
 .exact⟨_,_,rfl,fun k hk=>by simp at hk⟩
 .exact⟨_,_,rfl,fun k hk=>⟨g,rfl,(World.ownsRow.lt h g rfl).2,h.cell k hk⟩⟩
theorem am5 {xs:List El} {k:Nat} {e:El}(h:xs[k]? = some e):n8 xs k=e:=by unfold n8;rw[h];rfl
def az8 (W:World) (xs:List El) (fs:List Int) (n:Nat) (v8 v9:Value) (wr:World):Prop :=
 ∃ l:Nat,l≤n∧v9=.int .i64 ((l:Int)+1)∧Bys wr W.heap.size v8 (km xs fs l)∧Below W.heap.size W wr
def az7 (W:World) (pre:List Int) (lv:Nat) (xs:List El) (fs:List Int) (v8 i:Value) (wr:World):Prop :=
 ∃ k:Nat,k≤xs.length∧i=.int .i64 k∧Bys wr W.heap.size v8 (pre++j9 (er lv xs fs k))∧Below W.heap.size W wr
theorem aj2 {lv:Nat} {xs:List El} {fs:List Int} {k:Nat}(pre:List Int) (h:wtL lv (n8 xs k) (at0 fs k)=0):pre++j9 (er lv xs fs (k+1))=pre++j9 (er lv xs fs k):=by
 rw[er,Hm h,List.append_nil]
theorem aj1 {lv:Nat} {xs:List El} {fs:List Int} {k:Nat}(pre:List Int) (h:wtL lv (n8 xs k) (at0 fs k)≠0):pre++j9 (er lv xs fs (k+1))=(pre++j9 (er lv xs fs k))++[wtL lv (n8 xs k) (at0 fs k) / 256,wtL lv (n8 xs k) (at0 fs k) % 256]:=by
 rw[er,Hl h,Ji,Jk,List.append_assoc]
theorem No {w:World} {B B':Nat} {v vl:Value} {es:List Ent} {sh:Bool} {n:Nat} {l:List Int}(hE:ac w B v es) (hn:es.length≤1048576) (hr:∀ e ∈ es,e.runes.length≤1048576)
  (hL:ab w B' vl l) (hl:l.length≤200) (hg:∀ x ∈ l,0≤x∧x≤1114111) (h1:1≤n) (h4:n≤4) (ae:∀ e ∈ eb es l,lc e) :
  Calls prog 103 #[.agg #[v,.bool sh,.int .i64 n],vl] w fun e w'=>e=.returned (.string (ix (Np es sh n l)))∧Below w.heap.size w w':=by
 obtain⟨va,vc,rfl⟩:=cu hE;obtain⟨al,cl,rfl⟩:=ol hL;obtain⟨i0,hi0,aS,aP,aR⟩:=info_parts Sw;have a5:Below w.heap.size w (w.alloc (.cells #[.slice va es.length vc,.bool sh,.int .i64 n] 56)):=bY _;have a7:Bv (w.alloc (.cells #[.slice va es.length vc,.bool sh,.int .i64 n] 56)) w.heap.size (.slice va es.length vc) sh n:=heap_alloc_new w _;have ai:w.heap.size<(w.alloc (.cells #[.slice va es.length vc,.bool sh,.int .i64 n] 56)).heap.size:=by simp
 have EL:=fun (u:World) (hu:Below (w.alloc (.cells #[.slice va es.length vc,.bool sh,.int .i64 n] 56)).heap.size (w.alloc (.cells #[.slice va es.length vc,.bool sh,.int .i64 n] 56)) u)=>Qe (sh:=sh) (lv:=(n:Int)) ((hE.below a5).below hu) hn hr ((hL.below a5).below hu) (by omega) hg
 have ar:=Ai es l;unfold Np;rw[Int.toNat_natCast];have aQ:=fun lv=>Gf (lv:=lv) (my (sh:=sh) ae (eb es l).length).2 (my (sh:=sh) ae (eb es l).length).1
 generalize eb es l=el at *;have bl:el.length≤400:=by omega
 have FO:=fun (u:World) (B:Nat) (v:Value) (h:ah u B v el)=>Un sh (by omega) h
 have b9:=sw sh el;have aa:=z8 sh el;have af:∀ lv k,∀ m ∈ er lv (ck sh el) (dc sh el) k,1≤m∧m≤65535:=fun lv k=>aQ lv k
 have aJ:∀ e ∈ ck sh el,lc e:=(my (sh:=sh) ae el.length).2
 have aK:∀ f ∈ dc sh el,0≤f∧f≤65535:=(my (sh:=sh) ae el.length).1
 generalize ck sh el=xs at *;generalize dc sh el=fs at *;have bs:xs.length≤400:=by omega
 have aw:Hid (fs.length=xs.length):=by show _=_;omega
 have bh:Hid (∀ lv k,∀ m ∈ er lv xs fs k,1≤m∧m≤65535):=af;have aV:Hid (∀ e ∈ xs,lc e):=aJ;have aW:Hid (∀ f ∈ fs,0≤f∧f≤65535):=aK;clear hE hL hr hg aQ af ar b9 aa ae aJ aK;obtain⟨W0,am⟩:∃ W0,Hid (W0=w.alloc (.cells #[.slice va es.length vc,.bool sh,.int .i64 n] 56)):=⟨_,rfl⟩
 rw[<- am.out]at a5 a7 ai EL;obtain⟨c0,c1,c2⟩:=a7.cells;have hS:W0.cell? ⟨w.heap.size,0,none⟩=some (.slice va es.length vc)∧W0.cell? ⟨w.heap.size,1,none⟩=some (.bool sh)∧W0.cell? ⟨w.heap.size,2,none⟩=some (.int .i64 n)∧w.heap.size<W0.heap.size∧Below W0.heap.size W0 W0:=⟨c0,c1,c2,ai,bX⟩;have aF:=a64.keep ((Below.refl W0.heap.size W0).drew) hS;have au:=fun (u:World) (hu:u.cell? ⟨w.heap.size,0,none⟩=some (.slice va es.length vc)∧u.cell? ⟨w.heap.size,1,none⟩=some (.bool sh)∧u.cell? ⟨w.heap.size,2,none⟩=some (.int .i64 n)∧w.heap.size<W0.heap.size∧Below W0.heap.size W0 u)=>EL u hu.2.2.2.2
 clear EL a7;go_enter func103,ntmps103;go_wp2_with fail;rw[<- am.out];clear am;go_region_held (fun u=>u.cell? ⟨w.heap.size,0,none⟩=some (.slice va es.length vc)∧u.cell? ⟨w.heap.size,1,none⟩=some (.bool sh)∧u.cell? ⟨w.heap.size,2,none⟩=some (.int .i64 n)∧w.heap.size<W0.heap.size∧Below W0.heap.size W0 u)
  (first|exact aF|exact a64.keep (by assumption) (by assumption))
  (first|(go_at_call 134;refine (au _ (by assumption)).mono ?_;rintro e w' ⟨vE,rfl,aA,a4⟩;obtain⟨aE,cE,rfl⟩:=(show ∃ a c,vE=.slice a el.length c by obtain⟨h,_⟩|⟨g,cap,h,_⟩:=aA.form <;> (first|exact⟨_,_,h⟩|(rename_i h2;subst h2;exact⟨_,_,h⟩))))|(go_at_call 133;refine (FO _ _ _ (by assumption)).mono ?_;rintro e w' ⟨v5,v6,rfl,aC,az,a4⟩))
 all_goals
  obtain⟨_,_,d2,_,ao⟩:=(show w'.cell? ⟨w.heap.size,0,none⟩=_∧_∧_∧_∧Below W0.heap.size W0 w' by assumption);have bg:w.heap.size<w'.heap.size:=Nat.lt_of_lt_of_le ai ao.size;have av:Hid (Below w.heap.size w w'):=a5.trans (ao.mono a5.size);obtain⟨fa,fc,rfl,aI⟩:=Ra aC;obtain⟨xa,xc,rfl,aH⟩:=Ud az;have aU:Hid _:=aI;have aT:Hid _:=aH;have ap:=fun l=>Nq xs fs l
  have b2:Hid (∀ l,l≤4→(km xs fs l).length≤3208):=fun l hl=>Nat.le_trans (ap l) (Nat.le_trans (Nat.mul_le_mul hl (show 2+2*xs.length≤802 by omega)) (by omega))
  obtain⟨W,ay⟩:∃ W,Hid (W=w'):=⟨_,rfl⟩
  have b4:=ay.out;subst b4;clear aI aH aC az ao hS aF au FO c0 c1 c2 a5 ai ap ay;try clear aA
  try clear a4
  go_wp2_with fail;go_loopw [7,8] (fun v7 v8 wr=>az8 W xs fs n v7 v8 wr) (fun _ v8 _=>n+1-(intOf v8).toNat)
  case atStart=>exact⟨0,by omega,rfl,World.ownsRow_nil _ _ _ _,bX⟩
  case round =>
   obtain⟨l,hl,rfl,hK,a4⟩:=hrel;have e2:wr.cell? ⟨w.heap.size,2,none⟩=some (.int .i64 n):=(a4.cell (p:=⟨w.heap.size,2,none⟩) bg).trans d2;have ap:=b2.out l (by omega);have bq:=a4.size;by_cases bo:l<n
   .have bd:(l:Int)+1≤(n:Int):=by omega
    have HK:Hid (Bys _ _ _ _):=hK;have a8:Hid _:=a4;clear hK a4;go_upto_if 28 with fail
    go_cut [7] from 21 to 64 (fun v7 wx=>Bys wx W.heap.size v7 (km xs fs l++ml (l+1))∧Below W.heap.size W wx)
    case first =>
     by_cases h0:l=0
     .subst h0
      go_wp2;go_meet
      case rel=>exact⟨by simpa [ml] using HK.out,a8.out⟩
     .have bi:(1:Int)<(l:Int)+1:=by omega
      have hs:ml (l+1)=[0,0]:=by unfold ml;rw[if_pos (by omega)]
      have HS:Hid _:=hs;have hK:=HK.out;unfold Bys at hK;clear hs;go_wp2_with (at_builtin;refine wpList_append_own _ rfl _ _ 22 rfl W.heap.size 5 i0 (.int .u8 0) 1 1 underlying22 hi0 aS aP aR rfl (by decide) _ _ _ rfl (hK.alloc _) ⟨wr.heap.size,0,none⟩ 2 2 [.int .u8 0,.int .u8 0] rfl rfl (y8 _ _ _ _ _ (by simp)) (fun u hu=>by simp at hu;subst hu;rfl) (by unfold maxLen;omega) (by omega) (by simp;omega) ?_)
      intro v4 w4 aN aL _;have aB:Bys w4 W.heap.size v4 (km xs fs l++[0,0]):=Bys.app2 aN;have b6:Below W.heap.size W w4:=Below.grown (a8.out.alloc a8.out.size _) aL (a8.out.alloc a8.out.size _).size (fun j hj=>(World.ownsRow.lt hK j hj).1);have aX:Hid (Bys _ _ _ _):=aB;clear aN aL hK aB;go_wp2;go_meet
      case rel=>exact⟨by rw[HS.out];exact aX.out,b6⟩
    case rest =>
     obtain⟨hK,a4⟩:=hcut;clear HK a8 e2;have bp:(km xs fs l++ml (l+1)).length≤3210:=by
      have:(ml (l+1)).length≤2:=by unfold ml;split <;> simp
      rw[List.length_append];omega
     have b3:Hid (km xs fs (l+1)=(km xs fs l++ml (l+1))++j9 (er (l+1) xs fs xs.length)):=by show _=_;rw[km,List.append_assoc];rfl
     generalize km xs fs l++ml (l+1)=pre at *;have ax:Hid (Bys _ _ _ _):=hK;have a9:Hid _:=a4;clear hK a4;go_wp2_with fail;go_loopw [7,34] (fun v7 i wr=>az7 W pre (l+1) xs fs v7 i wr) (fun _ i _=>xs.length-(intOf i).toNat)
     case atStart=>exact⟨0,Nat.zero_le _,rfl,by rw[er,Jj,List.append_nil];exact ax.out,a9.out⟩
     case round =>
      clear ax a9;obtain⟨k,hk,rfl,hK,a4⟩:=hrel;have br:=ox (l+1) xs fs k;by_cases bb:k<xs.length
      .obtain⟨e,he⟩:∃ e,xs[k]? = some e:=⟨_,List.getElem?_eq_getElem bb⟩
       obtain⟨ge,rfl,ad,y0,y1,y2,y3⟩:=aT.out k e he;obtain⟨gf,rfl,aa,z0⟩:=aU.out k (by have:=aw.out;omega);have ba:(k:Int)<(fs.length:Int):=by have:=aw.out;omega
       have bn:(k:Int)<(xs.length:Int):=by omega
       have a0:wr.cell? ⟨ge,k*4,none⟩=some (.int .i64 e.first):=(a4.cell (p:=⟨ge,k*4,none⟩) ad).trans y0;have a1:wr.cell? ⟨ge,k*4+1,none⟩=some (.int .i64 e.second):=(a4.cell (p:=⟨ge,k*4+1,none⟩) ad).trans y1;have a2:wr.cell? ⟨ge,k*4+2,none⟩=some (.int .i64 e.third):=(a4.cell (p:=⟨ge,k*4+2,none⟩) ad).trans y2;have a3:wr.cell? ⟨ge,k*4+3,none⟩=some (.bool e.varies):=(a4.cell (p:=⟨ge,k*4+3,none⟩) ad).trans y3;have b0:wr.cell? ⟨gf,k,none⟩=some (.int .i64 (at0 fs k)):=(a4.cell (p:=⟨gf,k,none⟩) aa).trans z0;have bm:gf<wr.heap.size:=Nat.lt_of_lt_of_le aa a4.size;obtain⟨X,HX⟩:∃ X,Hid (wtL (l+1) (n8 xs k) (at0 fs k)=X):=⟨_,rfl⟩
       have a6:Hid ((l=0→X=e.first)∧(l=1→X=e.second)∧(l=2→X=e.third)∧(l=3→X=at0 fs k)):=by
        show _∧_
        rw[<- HX.out,am5 he];refine⟨?_,?_,?_,?_⟩ <;> (intro h;subst h;rfl)
       have aG:=Tj (lv:=l+1) (Mr aV.out k) (Sd aW.out k);rw[HX.out]at aG;have b8:(pre++j9 (er (l+1) xs fs k)).length≤4100:=by rw[List.length_append,C4];omega
       have ak:Hid (Bys _ _ _ _):=hK;have ag:Hid _:=a4;have be:=a4.size;clear hK a4 y0 y1 y2 y3 z0 he ad aa;go_upto_region 11 with fail
       go_cut [11,34] from 34 to 64 (fun v11 v34 wx=>v11=.int .i64 X∧v34=.int .i64 k∧Below wr.heap.size wr wx)
       case first =>
        clear ak ag HX;obtain h|h|h|h:l=0∨l=1∨l=2∨l=3:=by omega
        .subst h
         obtain rfl:=a6.out.1 rfl;clear a6;go_region
         all_goals
          go_wp2_with fail;go_meet
          case rel=>exact⟨rfl,rfl,by repeat (first|with_reducible exact bX|with_reducible refine Below.drew ?_|with_reducible refine Below.alloc ?_ (by first|omega|(simp;done)|(simp;omega)) _)⟩
        .subst h
         obtain rfl:=a6.out.2.1 rfl;clear a6;go_region
         all_goals
          go_wp2_with fail;go_meet
          case rel=>exact⟨rfl,rfl,by repeat (first|with_reducible exact bX|with_reducible refine Below.drew ?_|with_reducible refine Below.alloc ?_ (by first|omega|(simp;done)|(simp;omega)) _)⟩
        .subst h
         obtain rfl:=a6.out.2.2.1 rfl;clear a6;go_region
         all_goals
          go_wp2_with fail;go_meet
          case rel=>exact⟨rfl,rfl,by repeat (first|with_reducible exact bX|with_reducible refine Below.drew ?_|with_reducible refine Below.alloc ?_ (by first|omega|(simp;done)|(simp;omega)) _)⟩
        .subst h
         obtain rfl:=a6.out.2.2.2 rfl;clear a6;go_region
         all_goals
          go_wp2_with fail;go_meet
          case rel=>exact⟨rfl,rfl,by repeat (first|with_reducible exact bX|with_reducible refine Below.drew ?_|with_reducible refine Below.alloc ?_ (by first|omega|(simp;done)|(simp;omega)) _)⟩
       case rest =>
        obtain⟨rfl,rfl,a5⟩:=hcut;have hK:=ak.out.below a5;have a4:=ag.out.trans (a5.mono ag.out.size);have bf:=a4.size;clear ak ag a5 a0 a1 a2 a3 b0 a6;by_cases an:X=0
        .have HT:Hid _:=aj2 pre (HX.out.trans an)
         have aZ:Hid (Bys _ _ _ _):=hK;clear hK HX;go_wp2;go_roundw
         case rel=>exact⟨k+1,by omega,by go_num,by rw[HT.out];exact aZ.out,a4⟩
         case measure=>simp[intOf];omega
        .have b5:(X == 0)=false:=by simpa using an
         have hT:=aj1 (lv:=l+1) (xs:=xs) (fs:=fs) (k:=k) pre (by rw[HX.out];exact an);rw[HX.out]at hT;have HT:Hid _:=hT;obtain⟨bj,bk⟩:=aG;obtain⟨cur,aj⟩:∃ cur,Hid (pre++j9 (er (l+1) xs fs k)=cur):=⟨_,rfl⟩
         rw[aj.out]at hK HT b8;unfold Bys at hK;clear HX hT;go_wp2_with (at_builtin;refine wpList_append_own _ rfl _ _ 22 rfl W.heap.size 5 i0 (.int .u8 0) 1 1 underlying22 hi0 aS aP aR rfl (by decide) _ _ _ rfl (hK.alloc _) ⟨wc.heap.size,0,none⟩ 2 2 [.int .u8 (X / 256),.int .u8 (X % 256)] rfl rfl (y8 _ _ _ _ _ (by simp)) (fun u hu=>by simp at hu;rcases hu with rfl|rfl <;> rfl) (by unfold maxLen;omega) (by omega) (by simp;omega) ?_)
         intro v6 w6 aO aM _;have aD:Bys w6 W.heap.size v6 (cur++[X / 256,X % 256]):=Bys.app2 aO;have b7:Below W.heap.size W w6:=Below.grown (a4.alloc a4.size _) aM (a4.alloc a4.size _).size (fun j hj=>(World.ownsRow.lt hK j hj).1);have aY:Hid (Bys _ _ _ _):=aD;clear aO aM hK aD a4;go_wp2;go_roundw
         case rel=>exact⟨k+1,by omega,by go_num,by rw[HT.out];exact aY.out,b7⟩
         case measure=>simp[intOf];omega
      .have aq:k=xs.length:=by omega
       subst aq;have b1:Hid (Bys wr W.heap.size u7 (km xs fs (l+1))):=by show Bys _ _ _ _;rw[b3.out];exact hK
       clear hK;go_wp2;go_roundw
       case rel=>exact⟨l+1,by omega,by go_num,b1.out,a4⟩
       case measure=>simp[intOf];omega
   .have bc:l=n:=by omega
    subst bc;have CV:=xb hK;clear hK;go_wp2;go_ret;exact⟨rfl,av.out.trans (a4.mono av.out.size)⟩
theorem Fb {w:World} {B:Nat} {ve:Value} {es:List Ent} {sh:Bool} {lv:Int}(x:ByteArray) (hx:x.size≤1048576) (hE:ac w B ve es) (hr:∀ e ∈ es,e.runes.length≤1048576) :
  Calls prog 52 #[.agg #[ve,.bool sh,.int .i64 lv],.string x] w fun e w'=>e=.returned (.tuple #[.string (qf es sh lv x),.bool (okE es lv x)])∧Below w.heap.size w w':=by
 obtain⟨va,vc,rfl⟩:=cu hE;have a2:Below w.heap.size w (w.alloc (.cells #[.slice va es.length vc,.bool sh,.int .i64 lv] 56)):=bY _;have a1:Bv (w.alloc (.cells #[.slice va es.length vc,.bool sh,.int .i64 lv] 56)) w.heap.size (.slice va es.length vc) sh lv:=heap_alloc_new w _;have a6:w.heap.size<(w.alloc (.cells #[.slice va es.length vc,.bool sh,.int .i64 lv] 56)).heap.size:=by simp
 have AT:=Ia x (w.alloc (.cells #[.slice va es.length vc,.bool sh,.int .i64 lv] 56)) (by omega);have HE:Hid (ac _ _ _ _):=hE.below a2;have GR:=fun (u:World) (hu:Below (w.alloc (.cells #[.slice va es.length vc,.bool sh,.int .i64 lv] 56)).heap.size (w.alloc (.cells #[.slice va es.length vc,.bool sh,.int .i64 lv] 56)) u)=>yd (sh:=sh) (lv:=lv) (HE.out.below hu) hr
 have a7:=Dy x;unfold qf okE;clear hE
 cases hok:ok4 x
 .rw[hok]at AT
  rw[Bool.false_and,if_neg (by simp)];clear hok GR;go_enter func52,ntmps52;go_wp2_with fail;refine AT.mono ?_;rintro e w1 ⟨v1,rfl,i1,b1⟩;clear AT i1;go_wp2;go_ret2;exact⟨rfl,a2.trans (b1.mono a2.size)⟩
 .obtain⟨hs,hl⟩:=yg hok
  rw[hok]at AT;rw[Bool.true_and];clear hok;generalize rn4 x=rs at *
  cases hro:ay es lv
  .rw[hro]at GR
   rw[if_neg (by simp)];clear hro;go_enter func52,ntmps52;go_wp2_with fail;refine AT.mono ?_;rintro e w1 ⟨v1,rfl,i1,b1⟩;have G1:=GR _ b1;obtain⟨c0,c1,c2⟩:=(a1.below b1 a6).cells;have a4:=b1.size;clear AT GR a1 i1;go_wp2_with fail;refine G1.mono ?_;rintro e w2 ⟨rfl,b2⟩;clear G1;have b3:=a2.trans ((b1.trans (b2.mono b1.size)).mono a2.size);go_wp2;go_ret2;exact⟨rfl,b3⟩
  .rw[hro]at GR
   rw[if_pos rfl];have a8:es.length≤1048576:=by have:=(nn hro).1;omega
   obtain⟨_,a9,aa⟩:=nn hro;have a3:=rd hro a7;obtain⟨n,rfl⟩:∃ n:Nat,lv=(n:Int):=⟨lv.toNat,by omega⟩
   clear hro;go_enter func52,ntmps52;go_wp2_with fail;refine AT.mono ?_;rintro e w1 ⟨v1,rfl,i1,b1⟩;have G1:=GR _ b1;have a0:=a1.below b1 a6;obtain⟨c0,c1,c2⟩:=a0.cells;have a4:=b1.size;have I1:=i1 hs;clear AT GR a1 i1;go_wp2_with fail;refine G1.mono ?_;rintro e w2 ⟨rfl,b2⟩;clear G1 c0 c1 c2;have a5:=b1.trans (b2.mono b1.size);have b3:=a2.trans (a5.mono a2.size);have E2:=No (sh:=sh) (n:=n) (HE.out.below a5) a8 hr (I1.below b2) (by omega) a7 (by omega) (by omega) a3;obtain⟨c0,c1,c2⟩:=(a0.below b2 (by omega)).cells;clear I1 a0;go_wp2_with fail;refine E2.mono ?_;rintro e w3 ⟨rfl,b4⟩;clear E2 c0 c1 c2;go_wp2;go_ret2;exact⟨rfl,b3.trans (b4.mono b3.size)⟩
end Go.Proofs.YtjbmgghehdemdaaGreatDoor
