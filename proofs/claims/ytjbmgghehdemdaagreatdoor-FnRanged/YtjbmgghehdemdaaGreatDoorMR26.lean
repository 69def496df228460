/- SElems -/
import Derived.Test.YtjbmgghehdemdaaGreatDoorMR25
import Derived.BigRegion
namespace Go.Proofs.YtjbmgghehdemdaaGreatDoor
set_option maxRecDepth 100000
set_option maxHeartbeats 16000000
open _root_.Go.Proofs.Tryz
open Go.RowKit
theorem Zy (w:World) (d:Value) (sh:Bool) (lv:Int) (vr:Value) (a:Option Addr) (c:Nat) (es:List Ent) (run:List Int) :
  Calls prog 151 #[.agg #[d,.bool sh,.int .i64 lv],vr,.slice a 0 c] w fun e w'=>e=.returned (.int .i64 (kn es run []))/\Below w.heap.size w w':=by
 have b:Hid (-1=kn es run []):=rfl;go_enter func151,ntmps151;go_wp2;go_loop [15] (fun i=>i=.int .i64 0) (fun _=>0)
 case atStart=>rfl
 case round =>
  subst hrel;go_wp2;go_ret;rw[<- b.out];exact⟨rfl,bY _⟩
theorem Zx {w:World} {B a b:Nat} {v vr f:Value} {es:List Ent} {sh:Bool} {lv:Int} {run rest:List Int}(m:ac w B v es) (hn:es.length<=1048576) (n:∀ e ∈ es,e.runes.length<=1048576)
  (c:ab w a vr run) (d:ab w b f rest) (h1:1<=run.length) (g:run.length<=4000) (h:rest.length<=4000) :
  Calls prog 151 #[.agg #[v,.bool sh,.int .i64 lv],vr,f] w fun e w'=>e=.returned (.int .i64 (kn es run rest))/\Below w.heap.size w w':=by
 rcases d.form with ⟨rfl,rfl⟩|⟨l,j,rfl,_,_⟩
 .exact Zy w v sh lv vr none 0 es run
 .rcases c.form with ⟨rfl,rfl⟩|⟨k,i,rfl,_,_⟩
  .simp at h1
  .exact Zz w B a b k i l j v es sh lv run rest m hn n c d h1 g h
theorem l6.three {w u:World} {v:Value} {sh:Bool} {lv:Int}(h:l6 w u v sh lv):u.cell? ⟨w.heap.size,0,none⟩=some v/\u.cell? ⟨w.heap.size,1,none⟩=some (.bool sh)/\u.cell? ⟨w.heap.size,2,none⟩=some (.int .i64 lv) :=
 ⟨cell_of_row _ _ 0 _ _ _ h,cell_of_row _ _ 1 _ _ _ h,cell_of_row _ _ 2 _ _ _ h⟩
theorem l6.kept {w u u':World} {v:Value} {sh:Bool} {lv:Int} {row:Option Nat}(h:l6 w u v sh lv) (b:u.grownBy u' row) (a:∀ g,row=some g->w.heap.size+1<=g):l6 w u' v sh lv:=by
 unfold l6 at h ⊢;rw[b.block _ (Array.getElem?_eq_some_iff.1 h).1 (fun e=>by have:=a _ e.symm;omega)];exact h
def lj:Value->Nat
 | .slice _ n _=>n
 | _=>0
structure RR (w u:World) (v:Value) (sh:Bool) (lv:Int) (v5 vr vq:Value) (done:List El) (run rest:List Int):Prop where
 run:ab u (w.heap.size+1) vr run
 rest:∃ T,ab u T vq rest/\w.heap.size+1<=T/\∀ g,vr.ownBlock=some g->g<T
 els:ah u (w.heap.size+1) v5 done
 box:l6 w u v sh lv
 bel:Below w.heap.size w u
theorem RR.below {w u u':World} {v v5 vr b:Value} {sh:Bool} {lv:Int} {done:List El} {run rest:List Int}(h:RR w u v sh lv v5 vr b done run rest) (a:Below u.heap.size u u'):RR w u' v sh lv v5 vr b done run rest:=by
 obtain⟨T,c,d,e⟩:=h.rest;exact⟨h.run.below a,⟨T,c.below a,d,e⟩,h.els.below a,h.box.below a,h.bel.trans (a.mono h.bel.size)⟩
def Tp (w:World) (v:Value) (sh:Bool) (lv:Int) (es:List Ent) (v5:Value) (done:List El) (N:Nat) (goal:List Int × List Int) (vr vq:Value) (wr:World):Prop :=
 ∃ run rest,1<=run.length/\run.length+rest.length=N/\mf es run rest=goal/\RR w wr v sh lv v5 vr vq done run rest
def To (w:World) (v:Value) (sh:Bool) (lv:Int) (es:List Ent) (goal:List El) (v1 v5:Value) (wr:World):Prop :=
 ∃ (rest:List Int) (done:List El),rest.length<=1800/\done.length+2*rest.length<=3600/\(∀ x ∈ rest,0<=x/\x<=1114111)/\ab wr (w.heap.size+1) v1 rest/\ah wr (w.heap.size+1) v5 done/\done++eb es rest=goal/\l6 w wr v sh lv/\Below w.heap.size w wr
structure St1 (w u:World) (v:Value) (sh:Bool) (lv:Int) (v1 v5:Value) (rest:List Int) (done:List El):Prop where
 ints:ab u (w.heap.size+1) v1 rest
 els:ah u (w.heap.size+1) v5 done
 box:l6 w u v sh lv
 bel:Below w.heap.size w u
theorem St1.below {w u u':World} {v b v5:Value} {sh:Bool} {lv:Int} {rest:List Int} {done:List El}(h:St1 w u v sh lv b v5 rest done) (a:Below u.heap.size u u'):St1 w u' v sh lv b v5 rest done :=
 ⟨h.ints.below a,h.els.below a,h.box.below a,h.bel.trans (a.mono h.bel.size)⟩
def az1 (w:World) (v:Value) (sh:Bool) (lv:Int) (v1 v5:Value) (es:List Ent) (rest:List Int) (done:List El) (nv kv:Value) (wr:World):Prop :=
 ∃ k:Nat,2<=k/\k<=5/\kv=.int .i64 k/\nv=.int .i64 (ku es rest k)/\St1 w wr v sh lv v1 v5 rest done
theorem Hy {w:World} {g c n m:Nat} {l:List Int}(b:g<w.heap.size) (a:∀ j x,l[j]? = some x->w.cell? ⟨g,0+j,none⟩=some (.int .i64 x)) (d:m=l.length-n):il w (.slice (some ⟨g,n,none⟩) m c) (l.drop n):=by
 subst d;refine .inr ⟨g,n,c,by rw[List.length_drop],b,fun j x hx=>?_⟩;rw[List.getElem?_drop]at hx;have:=a (n+j) x hx;rw[Nat.zero_add]at this;exact this
theorem Hz {w:World} {a:Option Addr} {c m:Nat} {l:List Int}(d:m=0) (b:l=[]):il w (.slice a m c) l:=.inl ⟨a,c,by rw[d],b⟩
theorem a94 {w:World} {B a:Nat} {v:Value} {es:List El}(h:ah w a v es) (i:B<=a):ah w B v es:=by
 refine⟨h.1,?_⟩;rcases h.2 with h|⟨g,b,c,d,e,f⟩
 .exact .inl h
 .exact .inr ⟨g,b,c,d,Nat.le_trans i e,f⟩
theorem tc {w:World} {B:Nat} {v:Value} {l:List Int}(h:ab w B v l) (h1:1<=l.length):∃ g c,v=.slice (some ⟨g,0,none⟩) l.length c/\B<=g/\g<w.heap.size/\∀ j x,l[j]? = some x->w.cell? ⟨g,0+j,none⟩=some (.int .i64 x):=by
 rcases h.form with ⟨rfl,rfl⟩|⟨g,a,rfl,_,_⟩
 .simp at h1
 .refine⟨g,a,rfl,(World.ownsRow.lt h g rfl).1,(World.ownsRow.lt h g rfl).2,fun j x hx=>?_⟩
  have b:=(List.getElem?_eq_some_iff.1 hx).1;rw[Nat.zero_add,h.cell j b,hx];rfl
theorem Ba {w w':World} {v:Value} {l:List Int}(h:il w v l) (e:w'.heap=w.heap):il w' v l:=by
 rcases h with h|⟨g,f,c,a,b,d⟩
 .exact .inl h
 .exact .inr ⟨g,f,c,a,by rw[e];exact b,fun j x hx=>(World.cell?_of_block (by rw[e])).trans (d j x hx)⟩
theorem Yz {w:World} {B g cap:Nat} {es:List Ent}(h:ac w B (.slice (some ⟨g,0,none⟩) es.length cap) es) (k:Nat) (e:Ent) (f:es[k]? = some e) :
  w.cell? ⟨g,k*5+1,none⟩=some (.int .i64 e.el.first)/\w.cell? ⟨g,k*5+2,none⟩=some (.int .i64 e.el.second)/\w.cell? ⟨g,k*5+3,none⟩=some (.int .i64 e.el.third)/\w.cell? ⟨g,k*5+4,none⟩=some (.bool e.el.varies):=by
 obtain⟨_,_,_,a,b,c,d⟩:=h.cells k e f;exact⟨a,b,c,d⟩
theorem a92 {es:List Ent} {run:List Int} {i:Nat} {e:Ent}(a:es[i]? = some e) (h:atE es run=(i:Int)):ju es run=[e.el]:=by
 have:dj es run=some e.el:=by unfold dj;rw[h,if_pos (by omega),Int.toNat_natCast,a];rfl
 unfold ju;rw[this]
theorem a93 {es:List Ent} {run:List Int}(h:atE es run=-1):ju es run=base (at0 run 0):=by
 have:dj es run=none:=by unfold dj;rw[h,if_neg (by omega)]
 unfold ju;rw[this]
theorem ol {w:World} {B:Nat} {v:Value} {l:List Int}(h:ab w B v l):∃ a c,v=.slice a l.length c:=h.rowAt.slice
theorem Qe {w:World} {B B':Nat} {v vl:Value} {es:List Ent} {sh:Bool} {lv:Int} {l:List Int}(hE:ac w B v es) (hn:es.length<=1048576) (hr:∀ e ∈ es,e.runes.length<=1048576)
  (hL:ab w B' vl l) (hl:l.length<=1800) (hg:∀ x ∈ l,0<=x/\x<=1114111) :
  Calls prog 134 #[.agg #[v,.bool sh,.int .i64 lv],vl] w fun e w'=>∃ v',e=.returned v'/\ah w' w.heap.size v' (eb es l)/\Below w.heap.size w w':=by
 obtain⟨m,f,rfl⟩:∃ a c,v=.slice a es.length c:=by
  rcases hE.form with ⟨rfl,rfl⟩|⟨_,_,rfl,_,_,_,_⟩
  .exact⟨_,_,rfl⟩
  .exact⟨_,_,rfl⟩
 obtain⟨al,cl,rfl⟩:=ol hL;have aa:Below w.heap.size w (w.alloc (.cells #[.slice m es.length f,.bool sh,.int .i64 lv] 56)):=bY _;have av:l6 w (w.alloc (.cells #[.slice m es.length f,.bool sh,.int .i64 lv] 56)) (.slice m es.length f) sh lv:=heap_alloc_new w _;obtain⟨a1,a2⟩:∃ a1,Hid (eb es l=a1):=⟨_,rfl⟩
 rw[a2.out];have HE:Hid (ac _ _ _ _):=hE;have hi0:ab ((w.alloc (.cells #[.slice m es.length f,.bool sh,.int .i64 lv] 56)).alloc (.cells #[] 3)) (w.heap.size+1) (.slice (some ⟨w.heap.size+1,0,none⟩) 0 0) []:=uc _ _ _ (by simp) (by omega);have t:il ((w.alloc (.cells #[.slice m es.length f,.bool sh,.int .i64 lv] 56)).alloc (.cells #[] 3)) (.slice al l.length cl) l:=((hL.below aa).below (cn _ _)).rowAt;clear hE hL;go_enter func134,ntmps134;go_wp2_with (at_builtin;refine sq rfl _ _ rfl (w.heap.size+1) _ _ [] l rfl rfl hi0 t (by simp;omega) (by simp) ?_)
 intro v1 w1 U A;have aD:To w (.slice m es.length f) sh lv es a1 v1 (.slice none 0 0) w1 :=
  ⟨l,[],hl,by simp;omega,hg,U,⟨rfl,.inl ⟨rfl,rfl⟩⟩,a2.out,(av.below (cn _ _)).kept A (fun g e=>by simp[Value.ownBlock]at e;omega),Below.grown (aa.trans ((cn _ _).mono aa.size)) A (by simp;omega) (fun g e=>by simp[Value.ownBlock]at e;omega)⟩
 have H:Hid (To _ _ _ _ _ _ _ _ _):=aD;clear aD A U hi0 t a2 av aa hg hl;go_wp2_with fail;go_loopw [1,5] (fun v1 v5 wr=>To w (.slice m es.length f) sh lv es a1 v1 v5 wr) (fun v1 _ _=>lj v1)
 case atStart=>exact H.out
 case round =>
  clear H;obtain⟨rest,done,cv,co,aZ,U,d1,bi,aa,aL⟩:=hrel;have aG:=hZ bi;clear bi;by_cases h0:rest.length=0
  .have bV:rest=[]:=List.eq_nil_of_length_eq_zero h0
   subst bV;have HF:Hid (done=a1):=by show _=_;rw[<- aG.out,Ha,List.append_nil]
   obtain⟨a6,c6,rfl⟩:=ol U;have HD:Hid (ah _ _ _ _):=d1;have bs:Hid _:=aL;clear aG d1 aL U;go_wp2;go_ret;rw[<- HF.out];exact⟨_,rfl,a94 HD.out (by omega),bs.out⟩
  .obtain⟨A,c1,rfl,ci,bF,bC⟩:=tc U (by omega)
   have bg:rest.length<=c1:=by
    rcases U.form with ⟨h,_⟩|⟨_,_,h,h2,_⟩
    .cases h
    .injection h with _ _ h3;omega
   have hk:=pe (es:=es) (l:=rest) (by omega);have a7:Hid ((done++ju es (fk es rest).1)++eb es (fk es rest).2=a1):=by
    show _=_
    rw[<- aG.out,Ef (es:=es) (l:=rest) (by omega),List.append_assoc]
   have az:=C8 es (fk es rest).1;have cm:=J6 (es:=es) (l:=rest) (by omega);have cg:(0:Int)<(rest.length:Int):=by omega
   have bx:0<rest.length:=by omega
   have ch:decide (0<rest.length)=true:=decide_eq_true bx;have bc:Hid (St1 w wr (.slice m es.length f) sh lv (.slice (some ⟨A,0,none⟩) rest.length c1) u5 rest done):=⟨U,d1,aa,aL⟩;clear aG d1 aL aa U bC bF;go_wp2_with fail;go_loopw [6,7] (fun nv kv W=>az1 w (.slice m es.length f) sh lv (.slice (some ⟨A,0,none⟩) rest.length c1) u5 es rest done nv kv W) (fun _ kv _=>5-(intOf kv).toNat)
   case atStart=>exact⟨2,by omega,by omega,rfl,by rw[Ky];rfl,bc.out⟩
   case round =>
    clear bc;obtain⟨k,bj,bK,rfl,rfl,z⟩:=hrel;obtain⟨d,an⟩:∃ d,Hid (ku es rest k=d):=⟨_,rfl⟩
    rw[an.out];have bT:=Ou (es:=es) (l:=rest) (k:=k) (by omega);rw[an.out]at bT;obtain⟨L,M,N⟩:=z.box.three;by_cases bk:k<=4/\k<=rest.length
    .have bJ:(k:Int)<=4:=by omega
     have bO:(k:Int)<=(rest.length:Int):=by omega
     have cs:k<=c1:=by omega
     have R:=fun (u:World) (G:Below wr.heap.size wr u)=>ql (sh:=sh) (lv:=lv) ((HE.out.below z.bel).below G) ((z.ints.take k bk.2).below G) hn (by rw[List.length_take];omega) hr
     have H:Hid (ku es rest (k+1)=if 0<=atE es (rest.take k) then k else d):=by
      show _=_
      rw[rm bj,Ka bk.2,an.out];by_cases c:0<=atE es (rest.take k)
      .rw[decide_eq_true c,if_pos rfl,if_pos c]
      .rw[decide_eq_false c,if_neg (by simp),if_neg c]
     have ar:Hid _:=z;have KS:Hid (∀ u,Below wr.heap.size wr u->u.cell? ⟨w.heap.size,0,none⟩=some (.slice m es.length f)/\u.cell? ⟨w.heap.size,1,none⟩=some (.bool sh)/\u.cell? ⟨w.heap.size,2,none⟩=some (.int .i64 lv)):=fun u G=>(z.box.below G).three
     clear z an;generalize atE es (rest.take k)=p at *;go_wp2_with fail;go_region_held3 (fun u=>u.cell? ⟨w.heap.size,0,none⟩=some (.slice m es.length f)/\u.cell? ⟨w.heap.size,1,none⟩=some (.bool sh)/\u.cell? ⟨w.heap.size,2,none⟩=some (.int .i64 lv))
      (exact KS.out _ (by repeat (first|with_reducible exact bX|with_reducible exact a8|with_reducible refine Below.drew ?_)))
      ((go_at_call 57;refine (R _ (by repeat (first|with_reducible exact bX|with_reducible refine Below.drew ?_))).mono ?_;rintro e w4 ⟨rfl,i⟩;have a8:Below wr.heap.size wr w4:=by first|exact i|exact (bX.drew).trans i))
     all_goals
      have bd:Hid _:=ar.out.below a8;clear R KS ar i a8 L M N;by_cases Z:0<=p
      .have HR:Hid (ku es rest (k+1)=k):=by show _=_;rw[H.out,if_pos Z]
       clear H;go_wp2;exact⟨⟨k+1,by omega,by omega,by go_num,by rw[HR.out],bd.out⟩,by simp[intOf];omega⟩
      .have HR:Hid (ku es rest (k+1)=d):=by show _=_;rw[H.out,if_neg Z]
       clear H;go_wp2;exact⟨⟨k+1,by omega,by omega,by go_num,by rw[HR.out],bd.out⟩,by simp[intOf];omega⟩
    .have HN:Hid (mw es rest=d):=by
      show _=_
      rw[<- an.out];by_cases h5:k=5
      .subst h5;exact (Bf es rest).symm
      .exact (a34 bj bK (by omega)).symm
     have ar:Hid _:=z;have bU:d<=c1:=by omega
     clear an L M N;go_upto_region 6 with fail
     go_cut [25] from 18 to 25 (fun b wx=>b=.bool false/\wx=wr)
     case first =>
      by_cases h4:(k:Int)<=4
      .have h5:¬ (k:Int)<=(rest.length:Int):=by omega
       go_wp2;go_meet
       case rel=>exact⟨rfl,rfl⟩
      .go_wp2
       go_meet
       case rel=>exact⟨rfl,rfl⟩
     case rest =>
      obtain⟨rfl,rfl⟩:=hcut;have cx:=z.bel.size;obtain⟨gq,cq,c7,cj,aN,aY⟩:=tc z.ints (by omega);injection c7 with c0 _ c3;injection c0 with c2;injection c2 with c4;subst c4;subst c3;have hi0:ab (wc.alloc (.cells #[] 3)) (w.heap.size+1) (.slice (some ⟨wc.heap.size,0,none⟩) 0 0) []:=uc _ _ _ rfl (by have:=(World.ownsRow.lt z.ints A rfl).1;omega);have t:il (wc.alloc (.cells #[] 3)) (.slice (some ⟨A,0,none⟩) d c1) (rest.take d):=il.below (we d (by omega) aN aY) (cn _ _);have ca:w.heap.size+1<=wc.heap.size:=by have:=(World.ownsRow.lt z.ints A rfl).1;omega
      clear z;go_wp2_with (at_builtin;refine sq rfl _ _ rfl (w.heap.size+1) _ _ [] (rest.take d) rfl rfl hi0 t (by simp;omega) (by simp;omega) ?_)
      intro vr u2 ir gr;have bq:ab u2 (w.heap.size+1) vr (rest.take d):=ir;have r:Below wc.heap.size wc u2:=Below.grown (cn wc _) gr (by simp) (fun g e=>by cases e;exact bR);have S2:=ar.out.below r;have ay:∀ j x,rest[j]? = some x->u2.cell? ⟨A,0+j,none⟩=some (.int .i64 x):=fun j x s=>(r.cell aN).trans (aY j x s)
      have b0:A<u2.heap.size:=Nat.lt_of_lt_of_le aN r.size;have aE:=r.size;have aQ:Hid (ab _ _ _ _):=bq;have aJ:Hid _:=S2;clear ir bq gr hi0 t ar S2 aY aN r;have hi0:ab (u2.alloc (.cells #[] 3)) u2.heap.size (.slice (some ⟨u2.heap.size,0,none⟩) 0 0) []:=uc _ _ _ rfl bR;go_upto_region 11 with fail
      go_cut [9] from 40 to 44 (fun V wx=>ab wx u2.heap.size V (rest.drop d)/\Below u2.heap.size u2 wx)
      case first =>
       by_cases ax:c1=d
       .subst ax
        have t:rest.drop c1=[]:=List.drop_eq_nil_of_le (by omega);go_wp2_with (at_builtin;refine sq rfl _ _ rfl u2.heap.size _ _ [] (rest.drop c1) rfl rfl hi0 (Hz (by first|rfl|omega) t) (by simp;omega) (by simp) ?_)
        intro V u4 o gq;have i:Below u2.heap.size u2 u4:=Below.grown (cn u2 _) gq (by simp) (fun g e=>by cases e;exact bR);have hK:ab u4 u2.heap.size V (rest.drop c1)/\Below u2.heap.size u2 u4:=⟨by rw[t];exact o,i⟩;clear o i gq t hi0;go_wp2_with fail;go_meet
        case rel=>exact hK
       .have aX:(c1 == d)=false:=by simpa using ax
        have t:il (u2.alloc (.cells #[] 3)) (.slice (some ⟨A,d,none⟩) (rest.length-d) (c1-d)) (rest.drop d):=il.below (Hy b0 ay rfl) (cn _ _);go_wp2_with (at_builtin;refine sq rfl _ _ rfl u2.heap.size _ _ [] (rest.drop d) rfl rfl hi0 t (by simp;omega) (by simp) ?_)
        intro V u4 o gq;have i:Below u2.heap.size u2 u4:=Below.grown (cn u2 _) gq (by simp) (fun g e=>by cases e;exact bR);have hK:ab u4 u2.heap.size V (rest.drop d)/\Below u2.heap.size u2 u4:=⟨o,i⟩;clear o i gq t hi0;go_wp2_with fail;go_meet
        case rel=>exact hK
      case rest =>
       obtain⟨o,i⟩:=hcut;have J:RR w wc (.slice m es.length f) sh lv u5 vr u9 done (rest.take d) (rest.drop d) :=
        ⟨aQ.out.below i,⟨u2.heap.size,o,by omega,fun g e=>(World.ownsRow.lt aQ.out g e).2⟩,(aJ.out.below i).els,(aJ.out.below i).box,(aJ.out.below i).bel⟩
       have aD:Tp w (.slice m es.length f) sh lv es u5 done rest.length (fk es rest) vr u9 wc :=
        ⟨rest.take d,rest.drop d,by rw[List.length_take];omega,by rw[List.length_take,List.length_drop];omega,by unfold fk;rw[HN.out],J⟩
       have H:Hid (Tp _ _ _ _ _ _ _ _ _ _ _ _):=aD;clear aD J o i aQ aJ ay hi0 HN;obtain⟨bH,b1,bI,aB,aj⟩:=hk;generalize fk es rest=tk at *;go_wp2_with fail;go_loopw [8,9] (fun vr V wr=>Tp w (.slice m es.length f) sh lv es u5 done rest.length tk vr V wr) (fun _ V _=>lj V)
       case atStart=>exact H.out
       case round =>
        clear H;obtain⟨n,rst,bn,cw,a5,J⟩:=hrel;obtain⟨T,hq,hT,be⟩:=J.rest;have MK:=fun (u:World) (G:Below wr.heap.size wr u)=>Zx (sh:=sh) (lv:=lv) ((HE.out.below J.bel).below G) hn hr (J.run.below G) (hq.below G) bn (by omega) (by omega)
        obtain⟨L,M,N⟩:=J.box.three;have aH:=hZ a5;have aI:Hid _:=J;have ao:=MK _ bX;clear MK a5;rcases Aw es n rst with ak|⟨k,b5,ak⟩
        .rw[ak]at ao
         have HF:Hid (tk=(n,rst)):=by show _=_;rw[<- aH.out];exact K9 ak
         clear aH ak;have bW:=HF.out;subst bW;simp only at bH b1 bI aB aj a7 az;go_wp2_with fail;refine ao.mono ?_;rintro e W ⟨rfl,r⟩;clear ao L M N;have D:=aI.out.below r;obtain⟨L,M,N⟩:=D.box.three;have R:=ql (sh:=sh) (lv:=lv) (HE.out.below D.bel) D.run hn (by omega) hr;have C:Hid _:=D;obtain⟨g8,c8,bZ,_,bG,bf⟩:=tc D.run bn;obtain⟨x,s⟩:∃ x,n[0]? = some x:=⟨_,List.getElem?_eq_getElem (by omega)⟩
         have cb:at0 n 0=x:=by unfold at0;rw[s];rfl
         have bp:=aZ x (aB x (List.mem_of_getElem? s));have aT:W.cell? ⟨g8,0,none⟩=some (.int .i64 x):=bf 0 x s;have bQ:(0:Int)<(n.length:Int):=by omega
         have bz:=HE.out.form;clear J D aI hq be bf;subst bZ;rcases tn es n with au|⟨ai,p,Z,au⟩
         .have Y:Hid (ju es n=base x):=by show _=_;rw[a93 au,cb]
          rw[au]at R;go_wp2_with fail;refine R.mono ?_;rintro e w3 ⟨rfl,b3⟩;clear R L M N;have E:=C.out.below b3;obtain⟨T3,aC,aU,_⟩:=E.rest;have bu:w3.cell? ⟨g8,0,none⟩=some (.int .i64 x):=(b3.cell bG).trans aT;have SB:=D8 x bp.1 bp.2 w3;clear aT b3;go_wp2_with fail;refine SB.mono ?_;rintro e w4 ⟨v4,rfl,e4,i⟩;have Q:=E.below i;have q:ah w4 (w.heap.size+1) u5 done:=Q.els;have P:ab w4 (w.heap.size+1) u9 rst:=fe (aC.below i) aU;have O:=Q.box;have I:=Q.bel;have a4:w.heap.size+1<=w4.heap.size:=by have:=(Array.getElem?_eq_some_iff.1 O).1;omega
          rw[Y.out]at az;clear SB bu E Q aC i C;go_wp2_with (at_builtin;refine A8 rfl _ _ rfl (w.heap.size+1) _ u5 v4 done (base x) rfl rfl q e4 (by omega) (by omega) ?_)
          intro v5 w5 e5 S;rw[<- Y.out]at az;clear e4;have HQ:Hid (ab w5 (w.heap.size+1) u9 rst):=World.ownsRow.kept P S (dg P q (by decide));have aS:Hid (l6 w w5 (.slice m es.length f) sh lv):=l6.kept O S (fun g e=>(World.ownsRow.lt q g e).1);have aO:Hid (Below w.heap.size w w5):=Below.grown I S I.size (fun g e=>by have:=(World.ownsRow.lt q g e).1;omega);have aP:Hid (ah _ _ _ _):=e5;have b8:=ol P;obtain⟨a9,c9,rfl⟩:=b8;clear S e5 q P O I;go_wp2;refine⟨⟨rst,done++ju es n,by omega,by rw[List.length_append];omega,fun x s=>aZ x (aj x s),HQ.out,by rw[Y.out];exact aP.out,a7.out,aS.out,aO.out⟩,?_⟩;show lj _<lj _
          show rst.length<rest.length
          omega
         .have Y:Hid (ju es n=[p.el]):=a92 Z au
          obtain⟨ge,ce,c5,bD,cp⟩:∃ ge ce,(m=some ⟨ge,0,none⟩/\f=ce)/\ge<w.heap.size/\(0:Nat)=0:=by
           rcases bz with ⟨h,h2⟩|⟨ge,ce,h,_,_,h5,_⟩
           .subst h2;simp at Z
           .injection h with h6 _ h8
            exact⟨ge,ce,⟨h6,h8⟩,h5,rfl⟩
          obtain⟨rfl,rfl⟩:=c5;have bB:ai<es.length:=(List.getElem?_eq_some_iff.1 Z).1;have bA:(ai:Int)<(es.length:Int):=by omega
          rw[au]at R;go_wp2_with fail;refine R.mono ?_;rintro e w3 ⟨rfl,b3⟩;clear R L M N aT;have E:=C.out.below b3;obtain⟨L,M,N⟩:=E.box.three;obtain⟨y1,y2,y3,y4⟩:=Yz (HE.out.below E.bel) ai p Z;obtain⟨T3,aC,aU,_⟩:=E.rest;have bt:=E.bel;have aV:=(Below.refl w3.heap.size w3).alloc bR (.cells #[.int .i64 p.el.first,.int .i64 p.el.second,.int .i64 p.el.third,.bool p.el.varies] 111);have Q:=E.below aV;have q:ah _ (w.heap.size+1) u5 done:=Q.els;have P:ab _ (w.heap.size+1) u9 rst:=fe (aC.below aV) aU;have O:=Q.box;have I:=Q.bel;have e4:=Js w3 [p.el] 1 rfl (by unfold maxLen;omega) #[.int .i64 p.el.first,.int .i64 p.el.second,.int .i64 p.el.third,.bool p.el.varies] rfl;have a4:w.heap.size+1<=w3.heap.size:=by have:=(Array.getElem?_eq_some_iff.1 E.box).1;omega
          rw[Y.out]at az;clear E Q aC aV C b3 bt;go_wp2_with (at_builtin;refine A8 rfl _ _ rfl (w.heap.size+1) _ u5 _ done [p.el] rfl rfl q e4 (by simp;omega) (by simp;omega) ?_)
          intro v5 w5 e5 S;rw[<- Y.out]at az;clear e4 y1 y2 y3 y4 L M N;have HQ:Hid (ab w5 (w.heap.size+1) u9 rst):=World.ownsRow.kept P S (dg P q (by decide));have aS:Hid (l6 w w5 (.slice (some ⟨ge,0,none⟩) es.length f) sh lv):=l6.kept O S (fun g e=>(World.ownsRow.lt q g e).1);have aO:Hid (Below w.heap.size w w5):=Below.grown I S I.size (fun g e=>by have:=(World.ownsRow.lt q g e).1;omega);have aP:Hid (ah _ _ _ _):=e5;have b8:=ol P;obtain⟨a9,c9,rfl⟩:=b8;clear S e5 q P O I;go_wp2;refine⟨⟨rst,done++ju es n,by omega,by rw[List.length_append];omega,fun x s=>aZ x (aj x s),HQ.out,by rw[Y.out];exact aP.out,a7.out,aS.out,aO.out⟩,?_⟩;show lj _<lj _
          show rst.length<rest.length
          omega
        .rw[ak]at ao
         obtain⟨x,s⟩:∃ x,rst[k]? = some x:=⟨_,List.getElem?_eq_getElem b5⟩
         have HF:Hid (mf es (n++[x]) (rst.eraseIdx k)=tk):=by
          show _=_
          rw[<- aH.out,Su b5 ak];unfold at0;rw[s];rfl
         obtain⟨K,c9,bo,ck,aM,aW⟩:=tc hq (by omega);have bh:rst.length<=c9:=by
          rw[bo]at hq;rcases hq.form with ⟨h,_⟩|⟨_,_,h,h2,_⟩
          .cases h
          .injection h with _ _ h3;omega
         have bP:¬ ((k:Int)<0):=by omega
         have cr:(k:Int)<(rst.length:Int):=by omega
         clear aH ak;subst bo;obtain⟨i0,hi,cf,cc,cd⟩:=info_parts dv;go_wp2_with fail;refine ao.mono ?_;rintro e W ⟨rfl,r⟩;clear ao L M N;have D:=aI.out.below r;have ap:=D.run;have bw:W.cell? ⟨K,k,none⟩=some (.int .i64 x):=by have:=aW k x s;rw[Nat.zero_add]at this;exact (r.cell aM).trans this
         have aw:∀ j y,rst[j]? = some y->W.cell? ⟨K,0+j,none⟩=some (.int .i64 y):=fun j y hy=>(r.cell aM).trans (aW j y hy)
         have aA:K<W.heap.size:=Nat.lt_of_lt_of_le aM r.size;have aE:w.heap.size+1<=W.heap.size:=by have:=(Array.getElem?_eq_some_iff.1 D.box).1;omega
         have aq:=hZ aw;have C:Hid _:=D;unfold ab at ap;clear J D aI hq aW aM r aw s;go_wp2_with (at_builtin;refine wpList_append_own _ rfl _ _ 39 rfl (w.heap.size+1) 3 i0 (.int .i64 0) 1 8 underlying39 hi cf cc cd rfl (by decide) _ _ _ rfl (ap.alloc _) ⟨W.heap.size,0,none⟩ 1 1 [.int .i64 x] rfl rfl (ic _ _ _ _ (by simp)) (fun u G=>by simp at G;subst G;rfl) (by unfold maxLen;omega) (by omega) (by simp;omega) ?_)
         intro bb w4 bm af _;have br:ab w4 (w.heap.size+1) bb (n++[x]):=ab.snoc bm;have bl:some K≠u8.ownBlock:=fun e=>by have:=be K e.symm;omega
         have ad:∀ j y,rst[j]? = some y->w4.cell? ⟨K,0+j,none⟩=some (.int .i64 y):=fun j y hy=>by
          rw[World.cell?_of_block ((af.block K (by simp;omega) bl).trans (Below.heap_alloc _ _ _ aA))];exact aq.out j y hy
         have ag:K<w4.heap.size:=Nat.lt_of_lt_of_le aA (Nat.le_trans (by simp) af.size);have q:ah w4 (w.heap.size+1) u5 done:=World.ownsRow.kept (World.ownsRow.alloc C.out.els _) af (dg C.out.els ap (by decide));have O:l6 w w4 (.slice m es.length f) sh lv:=l6.kept (C.out.box.below (cn _ _)) af (fun g e=>(World.ownsRow.lt ap g e).1);have I:Below w.heap.size w w4:=Below.grown (C.out.bel.trans ((cn _ _).mono C.out.bel.size)) af (by simp;omega) (fun g e=>by have:=(World.ownsRow.lt ap g e).1;omega);have bS:=List.length_eraseIdx_of_lt b5;have a0:Hid (ab _ _ _ _):=br;have aF:Hid (ah _ _ _ _):=q;have aK:Hid (l6 _ _ _ _ _):=O;have am:Hid _:=I;have a4:w.heap.size+1<=w4.heap.size:=Nat.le_trans aE (Nat.le_trans (by simp) af.size);clear bm af ap C aq bw br q O I bl;have bN:k<=c9:=by omega
         have bM:(k:Int)+1<=(rst.length:Int):=by omega
         have bL:(k:Int)+1<=(c9:Int):=by omega
         have cz:IntKind.i64.wrap ((k:Int)+1)=(k:Int)+1:=by rw[IntKind.wrap_i64];omega
         have cy:((k:Int)+1).toNat=k+1:=by omega
         have cA:(0:Int)<=(k:Int)+1:=by omega
         go_wp2_with fail;by_cases ax:c9=k+1
         .subst ax
          have bE:rst.drop (k+1)=[]:=List.drop_eq_nil_of_le (by omega);have ct:(k:Int)<=(k:Int)+1:=by omega
          have cu:(rst.length:Int)<=(k:Int)+1:=by omega
          go_region_law (first
           | (refine ng rfl (.tmp 58) (.tmp 61) rfl w4.heap.size (.slice (some ⟨w4.heap.size,0,none⟩) 0 0) (.slice (some ⟨K,0,none⟩) k (k+1)) [] (rst.take k) rfl rfl (nt (uc w4 _ _ rfl bR) rfl) (Ba (il.below (we k (by omega) ag ad) (cn w4 (.cells #[] 3))) rfl) (by simp;omega) (by simp) ?_;intro v6 w6 i6 g6;have X:Below w4.heap.size w4 w6:=Below.grown (by repeat (first|with_reducible exact cn _ _|with_reducible refine Below.drew ?_)) g6 (by simp) (fun g e=>by cases e;exact bR);have b9:=X.size;clear g6)
           | (refine ng rfl (.tmp 62) (.tmp 66) rfl w4.heap.size v6 _ ([]++rst.take k) (rst.drop (k+1)) rfl rfl (nt i6 rfl) (Ba (Hz (by first|rfl|omega) bE) rfl) (by simp;omega) (by first|omega|(simp;omega)) ?_;intro v7 w7 i7 g7;have F:Below w4.heap.size w4 w7:=Below.grown (by repeat (first|with_reducible exact X|with_reducible refine Below.drew ?_)) g7 (by first|omega|(simp;omega)) (fun g e=>(World.ownsRow.lt i6 g e).1);clear g7))
          all_goals
           have o:ab w7 w4.heap.size v7 (rst.eraseIdx k):=by rw[List.eraseIdx_eq_take_drop_succ];exact i7
           have a3:RR w w7 (.slice m es.length f) sh lv u5 bb v7 done (n++[x]) (rst.eraseIdx k) :=
            ⟨a0.out.below F,⟨w4.heap.size,o,a4,fun g e=>(World.ownsRow.lt a0.out g e).2⟩,aF.out.below F,aK.out.below F,am.out.trans (F.mono am.out.size)⟩
           obtain⟨a9,bv,ba⟩:=ol o;have aR:Hid _:=a3;clear a3 o F i7 i6 X a0 aF aK am;go_wp2;refine⟨?_,?_⟩
           .exact⟨_,_,_,_,_,_,_,_,_,_,_,_,_,_,_,_,_,_,_,_,_,_,_,_,_,_,⟨n++[x],rst.eraseIdx k,by simp,by rw[List.length_append];simp;omega,HF.out,aR.out⟩,rfl⟩
           .subst ba
            show lj _<lj _
            show (rst.eraseIdx k).length<rst.length
            omega
         .have aX:(c9 == k+1)=false:=by simpa using ax
          go_region_law (first
           | (refine ng rfl (.tmp 58) (.tmp 61) rfl w4.heap.size (.slice (some ⟨w4.heap.size,0,none⟩) 0 0) (.slice (some ⟨K,0,none⟩) k c9) [] (rst.take k) rfl rfl (nt (uc w4 _ _ rfl bR) rfl) (Ba (il.below (we k (by omega) ag ad) (cn w4 (.cells #[] 3))) rfl) (by simp;omega) (by simp) ?_;intro v6 w6 i6 g6;have X:Below w4.heap.size w4 w6:=Below.grown (by repeat (first|with_reducible exact cn _ _|with_reducible refine Below.drew ?_)) g6 (by simp) (fun g e=>by cases e;exact bR);have b9:=X.size;clear g6)
           | (refine ng rfl (.tmp 62) (.tmp 66) rfl w4.heap.size v6 _ ([]++rst.take k) (rst.drop (k+1)) rfl rfl (nt i6 rfl) (Ba (il.below (Hy ag ad rfl) X) rfl) (by simp;omega) (by first|omega|(simp;omega)) ?_;intro v7 w7 i7 g7;have F:Below w4.heap.size w4 w7:=Below.grown (by repeat (first|with_reducible exact X|with_reducible refine Below.drew ?_)) g7 (by first|omega|(simp;omega)) (fun g e=>(World.ownsRow.lt i6 g e).1);clear g7))
          all_goals
           have o:ab w7 w4.heap.size v7 (rst.eraseIdx k):=by rw[List.eraseIdx_eq_take_drop_succ];exact i7
           have a3:RR w w7 (.slice m es.length f) sh lv u5 bb v7 done (n++[x]) (rst.eraseIdx k) :=
            ⟨a0.out.below F,⟨w4.heap.size,o,a4,fun g e=>(World.ownsRow.lt a0.out g e).2⟩,aF.out.below F,aK.out.below F,am.out.trans (F.mono am.out.size)⟩
           obtain⟨a9,bv,ba⟩:=ol o;have aR:Hid _:=a3;clear a3 o F i7 i6 X a0 aF aK am;go_wp2;refine⟨?_,?_⟩
           .exact⟨_,_,_,_,_,_,_,_,_,_,_,_,_,_,_,_,_,_,_,_,_,_,_,_,_,_,⟨n++[x],rst.eraseIdx k,by simp,by rw[List.length_append];simp;omega,HF.out,aR.out⟩,rfl⟩
           .subst ba
            show lj _<lj _
            show (rst.eraseIdx k).length<rst.length
            omega
theorem cu {w:World} {B:Nat} {v:Value} {es:List Ent}(h:ac w B v es):∃ a c,v=.slice a es.length c:=by
 rcases h.form with ⟨rfl,rfl⟩|⟨_,_,rfl,_,_,_,_⟩
 .exact⟨_,_,rfl⟩
 .exact⟨_,_,rfl⟩
def Bv (u:World) (b:Nat) (v:Value) (sh:Bool) (lv:Int):Prop:=u.heap[b]? = some (.cells #[v,.bool sh,.int .i64 lv] 56)
theorem Bv.below {B b:Nat} {u u':World} {v:Value} {sh:Bool} {lv:Int}(h:Bv u b v sh lv) (c:Below B u u') (a:b<B):Bv u' b v sh lv:=(c.block b a).trans h
theorem Bv.cells {b:Nat} {u:World} {v:Value} {sh:Bool} {lv:Int}(h:Bv u b v sh lv):u.cell? ⟨b,0,none⟩=some v/\u.cell? ⟨b,1,none⟩=some (.bool sh)/\u.cell? ⟨b,2,none⟩=some (.int .i64 lv) :=
 ⟨cell_of_row _ _ 0 _ _ _ h,cell_of_row _ _ 1 _ _ _ h,cell_of_row _ _ 2 _ _ _ h⟩
def a65 (w0:World) (b:Nat) (v:Value) (sh:Bool) (lv:Int) (u:World):Prop:=u.cell? ⟨b,0,none⟩=some v/\u.cell? ⟨b,1,none⟩=some (.bool sh)/\u.cell? ⟨b,2,none⟩=some (.int .i64 lv)/\b<w0.heap.size/\Below w0.heap.size w0 u
theorem a65.keep {a u u':World} {b:Nat} {v:Value} {sh:Bool} {lv:Int}(c:Below u.heap.size u u')
  (h:u.cell? ⟨b,0,none⟩=some v/\u.cell? ⟨b,1,none⟩=some (.bool sh)/\u.cell? ⟨b,2,none⟩=some (.int .i64 lv)/\b<a.heap.size/\Below a.heap.size a u) :
  u'.cell? ⟨b,0,none⟩=some v/\u'.cell? ⟨b,1,none⟩=some (.bool sh)/\u'.cell? ⟨b,2,none⟩=some (.int .i64 lv)/\b<a.heap.size/\Below a.heap.size a u':=by
 obtain⟨g,i,j,f,e⟩:=h;have d:b<u.heap.size:=Nat.lt_of_lt_of_le f e.size;exact⟨(c.cell d).trans g,(c.cell d).trans i,(c.cell d).trans j,f,e.trans (c.mono e.size)⟩
theorem Ud {w:World} {B:Nat} {v:Value} {es:List El}(h:ah w B v es) :
  ∃ a c,v=.slice a es.length c/\∀ k e,es[k]? = some e->∃ g,a=some ⟨g,0,none⟩/\g<w.heap.size/\w.cell? ⟨g,k*4,none⟩=some (.int .i64 e.first)/\w.cell? ⟨g,k*4+1,none⟩=some (.int .i64 e.second)/\w.cell? ⟨g,k*4+2,none⟩=some (.int .i64 e.third)/\w.cell? ⟨g,k*4+3,none⟩=some (.bool e.varies):=by
 rcases h.form with ⟨rfl,rfl⟩|⟨g,b,rfl,_,_⟩
 .exact⟨_,_,rfl,fun k e he=>by simp at he⟩
 .exact⟨_,_,rfl,fun k e he=>⟨g,rfl,(World.ownsRow.lt h g rfl).2,h.cells k e he⟩⟩
theorem Ra {w:World} {B:Nat} {v:Value} {l:List Int}(h:ab w B v l) :
  ∃ a c,v=.slice a l.length c/\∀ k,k<l.length->∃ g,a=some ⟨g,0,none⟩/\g<w.heap.size/\w.cell? ⟨g,k,none⟩=some (.int .i64 (at0 l k)):=by
 rcases h.form with ⟨rfl,rfl⟩|⟨g,b,rfl,_,_⟩
 .exact⟨_,_,rfl,fun k hk=>by simp at hk⟩
 .exact⟨_,_,rfl,fun k hk=>⟨g,rfl,(World.ownsRow.lt h g rfl).2,h.cell k hk⟩⟩
theorem am6 {xs:List El} {k:Nat} {e:El}(h:xs[k]? = some e):n8 xs k=e:=by unfold n8;rw[h];rfl
def az9 (W:World) (xs:List El) (fs:List Int) (n:Nat) (v8 v9:Value) (wr:World):Prop :=
 ∃ l:Nat,l<=n/\v9=.int .i64 ((l:Int)+1)/\Bys wr W.heap.size v8 (km xs fs l)/\Below W.heap.size W wr
def az8 (W:World) (pre:List Int) (lv:Nat) (xs:List El) (fs:List Int) (v8 i:Value) (wr:World):Prop :=
 ∃ k:Nat,k<=xs.length/\i=.int .i64 k/\Bys wr W.heap.size v8 (pre++j9 (er lv xs fs k))/\Below W.heap.size W wr
theorem aj3 {lv:Nat} {xs:List El} {fs:List Int} {k:Nat}(a:List Int) (h:wtL lv (n8 xs k) (at0 fs k)=0):a++j9 (er lv xs fs (k+1))=a++j9 (er lv xs fs k):=by
 rw[er,Hm h,List.append_nil]
theorem aj2 {lv:Nat} {xs:List El} {fs:List Int} {k:Nat}(a:List Int) (h:wtL lv (n8 xs k) (at0 fs k)≠0):a++j9 (er lv xs fs (k+1))=(a++j9 (er lv xs fs k))++[wtL lv (n8 xs k) (at0 fs k) / 256,wtL lv (n8 xs k) (at0 fs k) % 256]:=by
 rw[er,Hl h,Ji,Jk,List.append_assoc]
theorem No {w:World} {B B':Nat} {v vl:Value} {es:List Ent} {sh:Bool} {n:Nat} {l:List Int}(R:ac w B v es) (hn:es.length<=1048576) (hr:∀ e ∈ es,e.runes.length<=1048576)
  (S:ab w B' vl l) (V:l.length<=200) (hg:∀ x ∈ l,0<=x/\x<=1114111) (h1:1<=n) (h4:n<=4) (D:∀ e ∈ eb es l,lc e) :
  Calls prog 103 #[.agg #[v,.bool sh,.int .i64 n],vl] w fun e w'=>e=.returned (.string (ix (Np es sh n l)))/\Below w.heap.size w w':=by
 obtain⟨r,s,rfl⟩:=cu R;obtain⟨al,cl,rfl⟩:=ol S;obtain⟨i0,hi0,aA,ax,az⟩:=info_parts Sw;have o:Below w.heap.size w (w.alloc (.cells #[.slice r es.length s,.bool sh,.int .i64 n] 56)):=bY _;have M:Bv (w.alloc (.cells #[.slice r es.length s,.bool sh,.int .i64 n] 56)) w.heap.size (.slice r es.length s) sh n:=heap_alloc_new w _;have F:w.heap.size<(w.alloc (.cells #[.slice r es.length s,.bool sh,.int .i64 n] 56)).heap.size:=by simp
 have O:=fun (u:World) (q:Below (w.alloc (.cells #[.slice r es.length s,.bool sh,.int .i64 n] 56)).heap.size (w.alloc (.cells #[.slice r es.length s,.bool sh,.int .i64 n] 56)) u)=>Qe (sh:=sh) (lv:=(n:Int)) ((R.below o).below q) hn hr ((S.below o).below q) (by omega) hg
 have a8:=Ai es l;unfold Np;rw[Int.toNat_natCast];have ay:=fun lv=>Gf (lv:=lv) (my (sh:=sh) D (eb es l).length).2 (my (sh:=sh) D (eb es l).length).1
 generalize eb es l=el at *;have b5:el.length<=400:=by omega
 have FO:=fun (u:World) (B:Nat) (v:Value) (h:ah u B v el)=>Un sh (by omega) h
 have aR:=sw sh el;have A:=z8 sh el;have a5:∀ lv k,∀ m ∈ er lv (ck sh el) (dc sh el) k,1<=m/\m<=65535:=fun lv k=>ay lv k
 have ap:∀ e ∈ ck sh el,lc e:=(my (sh:=sh) D el.length).2
 have aq:∀ f ∈ dc sh el,0<=f/\f<=65535:=(my (sh:=sh) D el.length).1
 generalize ck sh el=xs at *;generalize dc sh el=fs at *;have bc:xs.length<=400:=by omega
 have a9:Hid (fs.length=xs.length):=by show _=_;omega
 have aZ:=hZ a5;have aD:=hZ ap;have aF:=hZ aq;clear R S hr hg ay a5 a8 aR A D ap aq;obtain⟨W0,I⟩:∃ W0,Hid (W0=w.alloc (.cells #[.slice r es.length s,.bool sh,.int .i64 n] 56)):=⟨_,rfl⟩
 rw[<- I.out]at o M F O;obtain⟨c0,c1,c2⟩:=M.cells;have hS:W0.cell? ⟨w.heap.size,0,none⟩=some (.slice r es.length s)/\W0.cell? ⟨w.heap.size,1,none⟩=some (.bool sh)/\W0.cell? ⟨w.heap.size,2,none⟩=some (.int .i64 n)/\w.heap.size<W0.heap.size/\Below W0.heap.size W0 W0:=⟨c0,c1,c2,F,bX⟩;have ak:=a65.keep ((Below.refl W0.heap.size W0).drew) hS;have Y:=fun (u:World) (q:u.cell? ⟨w.heap.size,0,none⟩=some (.slice r es.length s)/\u.cell? ⟨w.heap.size,1,none⟩=some (.bool sh)/\u.cell? ⟨w.heap.size,2,none⟩=some (.int .i64 n)/\w.heap.size<W0.heap.size/\Below W0.heap.size W0 u)=>O u q.2.2.2.2
 clear O M;go_enter func103,ntmps103;go_wp2_with fail;rw[<- I.out];clear I;go_region_held (fun u=>u.cell? ⟨w.heap.size,0,none⟩=some (.slice r es.length s)/\u.cell? ⟨w.heap.size,1,none⟩=some (.bool sh)/\u.cell? ⟨w.heap.size,2,none⟩=some (.int .i64 n)/\w.heap.size<W0.heap.size/\Below W0.heap.size W0 u)
  (first|exact ak|exact a65.keep (by assumption) (by assumption))
  (first|(go_at_call 134;refine (Y _ (by assumption)).mono ?_;rintro e w' ⟨vE,rfl,af,b⟩;obtain⟨aE,cE,rfl⟩:=(show ∃ a c,vE=.slice a el.length c by obtain⟨h,_⟩|⟨g,b1,h,_⟩:=af.form <;> (first|exact⟨_,_,h⟩|(rename_i h2;subst h2;exact⟨_,_,h⟩))))|(go_at_call 133;refine (FO _ _ _ (by assumption)).mono ?_;rintro e w' ⟨v5,v6,rfl,ai,ae,b⟩))
 all_goals
  obtain⟨_,_,d2,_,L⟩:=(show w'.cell? ⟨w.heap.size,0,none⟩=_/\_/\_/\_/\Below W0.heap.size W0 w' by assumption);have aY:w.heap.size<w'.heap.size:=Nat.lt_of_lt_of_le F L.size;have Z:=hZ (o.trans (L.mono o.size));obtain⟨fa,fc,rfl,ao⟩:=Ra ai;obtain⟨xa,xc,rfl,an⟩:=Ud ae;have aC:Hid _:=ao;have aB:Hid _:=an;have N:=fun l=>Nq xs fs l
  have aK:Hid (∀ l,l<=4->(km xs fs l).length<=3208):=fun l V=>Nat.le_trans (N l) (Nat.le_trans (Nat.mul_le_mul V (show 2+2*xs.length<=802 by omega)) (by omega))
  obtain⟨W,ad⟩:∃ W,Hid (W=w'):=⟨_,rfl⟩
  have aM:=ad.out;subst aM;clear ao an ai ae L hS ak Y FO c0 c1 c2 o F N ad;try clear af
  try clear b
  go_wp2_with fail;go_loopw [7,8] (fun v7 v8 wr=>az9 W xs fs n v7 v8 wr) (fun _ v8 _=>n+1-(intOf v8).toNat)
  case atStart=>exact⟨0,by omega,rfl,World.ownsRow_nil _ _ _ _,bX⟩
  case round =>
   obtain⟨l,V,rfl,d,b⟩:=hrel;have e2:wr.cell? ⟨w.heap.size,2,none⟩=some (.int .i64 n):=(b.cell (p:=⟨w.heap.size,2,none⟩) aY).trans d2;have N:=aK.out l (by omega);have ba:=b.size;by_cases b8:l<n
   .have aV:(l:Int)+1<=(n:Int):=by omega
    have P:Hid (Bys _ _ _ _):=d;have z:Hid _:=b;clear d b;go_upto_if 28 with fail
    go_cut [7] from 21 to 64 (fun v7 wx=>Bys wx W.heap.size v7 (km xs fs l++ml (l+1))/\Below W.heap.size W wx)
    case first =>
     by_cases h0:l=0
     .subst h0
      go_wp2;go_meet
      case rel=>exact⟨by simpa [ml] using P.out,z.out⟩
     .have b2:(1:Int)<(l:Int)+1:=by omega
      have hs:ml (l+1)=[0,0]:=by unfold ml;rw[if_pos (by omega)]
      have HS:Hid _:=hs;have d:=P.out;unfold Bys at d;clear hs;go_wp2_with (at_builtin;refine wpList_append_own _ rfl _ _ 22 rfl W.heap.size 5 i0 (.int .u8 0) 1 1 underlying22 hi0 aA ax az rfl (by decide) _ _ _ rfl (d.alloc _) ⟨wr.heap.size,0,none⟩ 2 2 [.int .u8 0,.int .u8 0] rfl rfl (y8 _ _ _ _ _ (by simp)) (fun u q=>by simp at q;subst q;rfl) (by unfold maxLen;omega) (by omega) (by simp;omega) ?_)
      intro v4 w4 av ar _;have ag:Bys w4 W.heap.size v4 (km xs fs l++[0,0]):=Bys.app2 av;have aO:Below W.heap.size W w4:=Below.grown (z.out.alloc z.out.size _) ar (z.out.alloc z.out.size _).size (fun j hj=>(World.ownsRow.lt d j hj).1);have aG:Hid (Bys _ _ _ _):=ag;clear av ar d ag;go_wp2;go_meet
      case rel=>exact⟨by rw[HS.out];exact aG.out,aO⟩
    case rest =>
     obtain⟨d,b⟩:=hcut;clear P z e2;have b9:(km xs fs l++ml (l+1)).length<=3210:=by
      have:(ml (l+1)).length<=2:=by unfold ml;split <;> simp
      rw[List.length_append];omega
     have aL:Hid (km xs fs (l+1)=(km xs fs l++ml (l+1))++j9 (er (l+1) xs fs xs.length)):=by show _=_;rw[km,List.append_assoc];rfl
     generalize km xs fs l++ml (l+1)=pre at *;have aa:Hid (Bys _ _ _ _):=d;have a4:Hid _:=b;clear d b;go_wp2_with fail;go_loopw [7,34] (fun v7 i wr=>az8 W pre (l+1) xs fs v7 i wr) (fun _ i _=>xs.length-(intOf i).toNat)
     case atStart=>exact⟨0,Nat.zero_le _,rfl,by rw[er,Jj,List.append_nil];exact aa.out,a4.out⟩
     case round =>
      clear aa a4;obtain⟨k,hk,rfl,d,b⟩:=hrel;have bb:=ox (l+1) xs fs k;by_cases aT:k<xs.length
      .obtain⟨e,U⟩:∃ e,xs[k]? = some e:=⟨_,List.getElem?_eq_getElem aT⟩
       obtain⟨ge,rfl,C,y0,y1,y2,y3⟩:=aB.out k e U;obtain⟨Q,rfl,A,z0⟩:=aC.out k (by have:=a9.out;omega);have aS:(k:Int)<(fs.length:Int):=by have:=a9.out;omega
       have b7:(k:Int)<(xs.length:Int):=by omega
       have a0:wr.cell? ⟨ge,k*4,none⟩=some (.int .i64 e.first):=(b.cell (p:=⟨ge,k*4,none⟩) C).trans y0;have a1:wr.cell? ⟨ge,k*4+1,none⟩=some (.int .i64 e.second):=(b.cell (p:=⟨ge,k*4+1,none⟩) C).trans y1;have a2:wr.cell? ⟨ge,k*4+2,none⟩=some (.int .i64 e.third):=(b.cell (p:=⟨ge,k*4+2,none⟩) C).trans y2;have a3:wr.cell? ⟨ge,k*4+3,none⟩=some (.bool e.varies):=(b.cell (p:=⟨ge,k*4+3,none⟩) C).trans y3;have b0:wr.cell? ⟨Q,k,none⟩=some (.int .i64 (at0 fs k)):=(b.cell (p:=⟨Q,k,none⟩) A).trans z0;have b6:Q<wr.heap.size:=Nat.lt_of_lt_of_le A b.size;obtain⟨X,y⟩:∃ X,Hid (wtL (l+1) (n8 xs k) (at0 fs k)=X):=⟨_,rfl⟩
       have t:Hid ((l=0->X=e.first)/\(l=1->X=e.second)/\(l=2->X=e.third)/\(l=3->X=at0 fs k)):=by
        show _/\_
        rw[<- y.out,am6 U];refine⟨?_,?_,?_,?_⟩ <;> (intro h;subst h;rfl)
       have am:=Tj (lv:=l+1) (Mr aD.out k) (Sd aF.out k);rw[y.out]at am;have aQ:(pre++j9 (er (l+1) xs fs k)).length<=4100:=by rw[List.length_append,C4];omega
       have H:Hid (Bys _ _ _ _):=d;have E:Hid _:=b;have aW:=b.size;clear d b y0 y1 y2 y3 z0 U C A;go_upto_region 11 with fail
       go_cut [11,34] from 34 to 64 (fun v11 v34 wx=>v11=.int .i64 X/\v34=.int .i64 k/\Below wr.heap.size wr wx)
       case first =>
        clear H E y;obtain h|h|h|h:l=0\/l=1\/l=2\/l=3:=by omega
        .subst h
         obtain rfl:=t.out.1 rfl;clear t;go_region
         all_goals
          go_wp2_with fail;go_meet
          case rel=>exact⟨rfl,rfl,by repeat (first|with_reducible exact bX|with_reducible refine Below.drew ?_|with_reducible refine Below.alloc ?_ (by first|omega|(simp;done)|(simp;omega)) _)⟩
        .subst h
         obtain rfl:=t.out.2.1 rfl;clear t;go_region
         all_goals
          go_wp2_with fail;go_meet
          case rel=>exact⟨rfl,rfl,by repeat (first|with_reducible exact bX|with_reducible refine Below.drew ?_|with_reducible refine Below.alloc ?_ (by first|omega|(simp;done)|(simp;omega)) _)⟩
        .subst h
         obtain rfl:=t.out.2.2.1 rfl;clear t;go_region
         all_goals
          go_wp2_with fail;go_meet
          case rel=>exact⟨rfl,rfl,by repeat (first|with_reducible exact bX|with_reducible refine Below.drew ?_|with_reducible refine Below.alloc ?_ (by first|omega|(simp;done)|(simp;omega)) _)⟩
        .subst h
         obtain rfl:=t.out.2.2.2 rfl;clear t;go_region
         all_goals
          go_wp2_with fail;go_meet
          case rel=>exact⟨rfl,rfl,by repeat (first|with_reducible exact bX|with_reducible refine Below.drew ?_|with_reducible refine Below.alloc ?_ (by first|omega|(simp;done)|(simp;omega)) _)⟩
       case rest =>
        obtain⟨rfl,rfl,o⟩:=hcut;have d:=H.out.below o;have b:=E.out.trans (o.mono E.out.size);have aX:=b.size;clear H E o a0 a1 a2 a3 b0 t;by_cases K:X=0
        .have G:Hid _:=aj3 pre (y.out.trans K)
         have aI:Hid (Bys _ _ _ _):=d;clear d y;go_wp2;go_roundw
         case rel=>exact⟨k+1,by omega,by go_num,by rw[G.out];exact aI.out,b⟩
         case measure=>simp[intOf];omega
        .have aN:(X == 0)=false:=by simpa using K
         have T:=aj2 (lv:=l+1) (xs:=xs) (fs:=fs) (k:=k) pre (by rw[y.out];exact K);rw[y.out]at T;have G:Hid _:=T;obtain⟨b3,b4⟩:=am;obtain⟨J,a6⟩:∃ J,Hid (pre++j9 (er (l+1) xs fs k)=J):=⟨_,rfl⟩
         rw[a6.out]at d G aQ;unfold Bys at d;clear y T;go_wp2_with (at_builtin;refine wpList_append_own _ rfl _ _ 22 rfl W.heap.size 5 i0 (.int .u8 0) 1 1 underlying22 hi0 aA ax az rfl (by decide) _ _ _ rfl (d.alloc _) ⟨wc.heap.size,0,none⟩ 2 2 [.int .u8 (X / 256),.int .u8 (X % 256)] rfl rfl (y8 _ _ _ _ _ (by simp)) (fun u q=>by simp at q;rcases q with rfl|rfl <;> rfl) (by unfold maxLen;omega) (by omega) (by simp;omega) ?_)
         intro v6 w6 aw au _;have aj:Bys w6 W.heap.size v6 (J++[X / 256,X % 256]):=Bys.app2 aw;have aP:Below W.heap.size W w6:=Below.grown (b.alloc b.size _) au (b.alloc b.size _).size (fun j hj=>(World.ownsRow.lt d j hj).1);have aH:Hid (Bys _ _ _ _):=aj;clear aw au d aj b;go_wp2;go_roundw
         case rel=>exact⟨k+1,by omega,by go_num,by rw[G.out];exact aH.out,aP⟩
         case measure=>simp[intOf];omega
      .have a7:k=xs.length:=by omega
       subst a7;have aJ:Hid (Bys wr W.heap.size u7 (km xs fs (l+1))):=by show Bys _ _ _ _;rw[aL.out];exact d
       clear d;go_wp2;go_roundw
       case rel=>exact⟨l+1,by omega,by go_num,aJ.out,b⟩
       case measure=>simp[intOf];omega
   .have aU:l=n:=by omega
    subst aU;have CV:=xb d;clear d;go_wp2;go_ret;exact⟨rfl,Z.out.trans (b.mono Z.out.size)⟩
theorem Fb {w:World} {B:Nat} {E:Value} {es:List Ent} {sh:Bool} {lv:Int}(x:ByteArray) (Q:x.size<=1048576) (r:ac w B E es) (C:∀ e ∈ es,e.runes.length<=1048576) :
  Calls prog 52 #[.agg #[E,.bool sh,.int .i64 lv],.string x] w fun e w'=>e=.returned (.tuple #[.string (qf es sh lv x),.bool (okE es lv x)])/\Below w.heap.size w w':=by
 obtain⟨f,g,rfl⟩:=cu r;have c:Below w.heap.size w (w.alloc (.cells #[.slice f es.length g,.bool sh,.int .i64 lv] 56)):=bY _;have k:Bv (w.alloc (.cells #[.slice f es.length g,.bool sh,.int .i64 lv] 56)) w.heap.size (.slice f es.length g) sh lv:=heap_alloc_new w _;have t:w.heap.size<(w.alloc (.cells #[.slice f es.length g,.bool sh,.int .i64 lv] 56)).heap.size:=by simp
 have b:=Ia x (w.alloc (.cells #[.slice f es.length g,.bool sh,.int .i64 lv] 56)) (by omega);have z:Hid (ac _ _ _ _):=r.below c;have d:=fun (u:World) (L:Below (w.alloc (.cells #[.slice f es.length g,.bool sh,.int .i64 lv] 56)).heap.size (w.alloc (.cells #[.slice f es.length g,.bool sh,.int .i64 lv] 56)) u)=>yd (sh:=sh) (lv:=lv) (z.out.below L) C
 have v:=Dy x;unfold qf okE;clear r
 cases hok:ok4 x
 .rw[hok]at b
  rw[Bool.false_and,if_neg (by simp)];clear hok d;go_enter func52,ntmps52;go_wp2_with fail;refine b.mono ?_;rintro e F ⟨D,rfl,h,a⟩;clear b h;go_wp2;go_ret2;exact⟨rfl,c.trans (a.mono c.size)⟩
 .obtain⟨K,P⟩:=yg hok
  rw[hok]at b;rw[Bool.true_and];clear hok;generalize rn4 x=rs at *
  cases hro:ay es lv
  .rw[hro]at d
   rw[if_neg (by simp)];clear hro;go_enter func52,ntmps52;go_wp2_with fail;refine b.mono ?_;rintro e F ⟨D,rfl,h,a⟩;have i:=d _ a;obtain⟨m,o,p⟩:=(k.below a t).cells;have I:=a.size;clear b d k h;go_wp2_with fail;refine i.mono ?_;rintro e M ⟨rfl,j⟩;clear i;have l:=c.trans ((a.trans (j.mono a.size)).mono c.size);go_wp2;go_ret2;exact⟨rfl,l⟩
  .rw[hro]at d
   rw[if_pos rfl];have H:es.length<=1048576:=by have:=(nn hro).1;omega
   obtain⟨_,N,O⟩:=nn hro;have G:=rd hro v;obtain⟨n,rfl⟩:∃ n:Nat,lv=(n:Int):=⟨lv.toNat,by omega⟩
   clear hro;go_enter func52,ntmps52;go_wp2_with fail;refine b.mono ?_;rintro e F ⟨D,rfl,h,a⟩;have i:=d _ a;have q:=k.below a t;obtain⟨m,o,p⟩:=q.cells;have I:=a.size;have A:=h K;clear b d k h;go_wp2_with fail;refine i.mono ?_;rintro e M ⟨rfl,j⟩;clear i m o p;have s:=a.trans (j.mono a.size);have l:=c.trans (s.mono c.size);have y:=No (sh:=sh) (n:=n) (z.out.below s) H C (A.below j) (by omega) v (by omega) (by omega) G;obtain⟨m,o,p⟩:=(q.below j (by omega)).cells;clear A q;go_wp2_with fail;refine y.mono ?_;rintro e R ⟨rfl,J⟩;clear y m o p;go_wp2;go_ret2;exact⟨rfl,l.trans (J.mono l.size)⟩
end Go.Proofs.YtjbmgghehdemdaaGreatDoor
