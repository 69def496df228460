/- IPut -/
import Derived.Test.YtjbmgghehdemdaaGreatDoorMT34
import Derived.BigRegion
import Derived.ScopeJumps
import Derived.Laws.ResultCell
namespace Go.Proofs.YtjbmgghehdemdaaGreatDoor
set_option maxRecDepth 100000
set_option maxHeartbeats 16000000
open _root_.Go.Proofs.Tryz
open Go.RowKit
theorem Lf {st:RS} {lev:Nat} {l:List Int}(h:bd l=true) (hl:lev≠0) (h2:st.reset=false):d8 st lev l=.error 3:=by
 unfold d8;rw[if_neg (by simp[h]),if_neg hl,if_pos h2]
theorem W5 {st:RS} {lev:Nat} {l:List Int}(h:bd l=true) (hl:lev≠0) (h2:st.reset=true) (h3:0≤atE st.es l):d8 st lev l=.error 4:=by
 unfold d8;rw[if_neg (by simp[h]),if_neg hl,if_neg (by simp[h2]),if_pos h3]
theorem W9 {st:RS} {lev:Nat} {l:List Int}(h:bd l=true) (hl:lev≠0) (h2:st.reset=true) (h3:¬ 0≤atE st.es l) (h4:ay (st.es++[⟨l,gk st.es st.last lev⟩]) st.lv=false):d8 st lev l=.error 5:=by
 unfold d8;rw[if_neg (by simp[h]),if_neg hl,if_neg (by simp[h2]),if_neg h3,if_neg (by simp[h4])]
theorem ae9 {st:RS} {lev:Nat} {l:List Int}(h:bd l=true) (hl:lev≠0) (h2:st.reset=true) (h3:¬ 0≤atE st.es l) (h4:ay (st.es++[⟨l,gk st.es st.last lev⟩]) st.lv=true):d8 st lev l=.ok { st with es:=st.es++[⟨l,gk st.es st.last lev⟩],last:=gk st.es st.last lev }:=by
 unfold d8;rw[if_neg (by simp[h]),if_neg hl,if_neg (by simp[h2]),if_neg h3,if_pos h4]
theorem ae0 {u:World} {B b:Nat} {v:Value} {l:List Int}(h:ab u B v l) (hb:b+1≤B):v.ownBlock=none∨v.ownBlock≠some b:=by
 cases e:v.ownBlock with
 | none=>exact .inl rfl
 | some g =>
  refine .inr fun c=>?_
  have:=(World.ownsRow.lt h g e).1
  cases c
  omega
theorem al7 {w u:World} {b T n:Nat} {l:List UInt8} {st:RS} {vE:Value}(h:RdM w u b T l st vE) (hi:gj st) (hn:n=1∨n=2∨n=3) :
  Calls prog 169 #[vE,.agg #[.int .i64 st.last.first,.int .i64 st.last.second,.int .i64 st.last.third,.bool st.last.varies],.int .i64 (n:Int)] u fun x u'=>x=.returned (elV (gk st.es st.last n))∧Below u.heap.size u u'∧(u'.cell? ⟨b,4,none⟩=some (.int .i64 st.last.first)∧u'.cell? ⟨b,5,none⟩=some (.int .i64 st.last.second)∧u'.cell? ⟨b,6,none⟩=some (.int .i64 st.last.third)∧u'.cell? ⟨b,7,none⟩=some (.bool st.last.varies))∧∀ j,u'.frozen? ⟨b,j,none⟩=false :=
 (Q5 h.en.ents hi hn h.tab.1).mono fun _ _ ⟨h1,h2⟩=>by
  obtain⟨_,_,_,_,c4,c5,c6,c7,_,fz⟩:=(h.step h2).cells;exact⟨h1,h2,⟨c4,c5,c6,c7⟩,fz⟩
theorem G4 {w u:World} {b T lev:Nat} {l:List UInt8} {st:RS} {vE:Value}(h:RdM w u b T l st vE) (hl:l.length≤1048576) (hi:gj st) (ah:lev=1∨lev=2∨lev=3) :
  Calls prog 145 #[.pointer (some ⟨b,0,none⟩),.int .i64 (lev:Int)] u fun e u'=>∃ c,e=.returned (.int .i64 c)∧Out w u' b (wdR l) (nc st lev (wdB l)) c:=by
 have NW:=vt h hl;have hx:(wdB l).size≤1048576:=Nat.le_trans (Pp l).1 hl;have HI:Hid (gj st):=hi;have ag:=hi.len;have aa:lev≠0:=by omega
 have HN:Hid (jOk (wdB l)=false→nc st lev (wdB l)=.error 2):=fun c=>J4 c
 have HY:Hid (jOk (wdB l)=true→nc st lev (wdB l)=d8 st lev (jR (wdB l))∧bd (jR (wdB l))=true):=fun c=>by
  have e:jR (wdB l)=nD (Dec.decT (wdB l).size (wdB l)).1:=by unfold jR;rw[if_pos c]
  rw[e];refine⟨Oj c,?_⟩;unfold jOk at c;rw[Bool.and_eq_true]at c;exact c.2
 clear h hi;generalize nc st lev (wdB l)=R at *;generalize wdR l=l2 at *;have JR:=fun (u:World) (ht:dr u)=>Er (wdB l) hx u ht
 generalize jR (wdB l)=r at *;generalize hj:jOk (wdB l)=jo at *;generalize wdB l=x at *;clear hj
 cases jo
 .have HE:Hid (R=.error 2):=HN.out rfl
  clear HN HY;go_enter func145,ntmps145;go_wp2_with fail;refine NW.mono ?_;rintro e u1 ⟨rfl,hm⟩;clear NW;have J1:=JR _ hm.tab;have HM:Hid _:=hm;clear JR hm;go_wp2_with fail;refine J1.mono ?_;rintro e u2 ⟨v2,rfl,i2,b2⟩;have HB:Hid (Below _ _ _):=(HM.out.step b2).be;clear J1 HM;go_wp2;go_ret;exact⟨2,rfl,.inl ⟨HE.out,by decide,HB.out⟩⟩
 .obtain⟨hp,hro⟩:=HY.out rfl
  have az:=eg hro;clear HN HY
  cases hre:st.reset
  .have HE:Hid (R=.error 3):=hp.trans (Lf hro aa hre)
   clear hp hro;go_enter func145,ntmps145;go_wp2_with fail;refine NW.mono ?_;rintro e u1 ⟨rfl,hm⟩;clear NW;have J1:=JR _ hm.tab;have HM:Hid _:=hm;clear JR hm;go_wp2_with fail;refine J1.mono ?_;rintro e u2 ⟨v2,rfl,i2,b2⟩;have a1:=HM.out.step b2;obtain⟨c0,c1,c2,c3,c4,c5,c6,c7,c8,fz⟩:=a1.cells;rw[hre]at c8;have HB:Hid _:=a1.be;clear J1 HM a1;go_wp2;go_ret;exact⟨3,rfl,.inl ⟨HE.out,by decide,HB.out⟩⟩
  .go_enter func145,ntmps145
   go_wp2_with fail;refine NW.mono ?_;rintro e u1 ⟨rfl,ap⟩;clear NW;have hm:=ap.up;have J1:=JR _ hm.tab;have HM:Hid _:=hm;clear JR hm ap;go_wp2_with fail;refine J1.mono ?_;rintro e u2 ⟨v2,rfl,i2,b2⟩;obtain⟨va,vm,vc,rfl⟩:∃ a m c,v2=.slice a m c:=by
    rcases i2.form with ⟨rfl,_⟩|⟨_,_,rfl,_,_⟩
    .exact⟨_,_,_,rfl⟩
    .exact⟨_,_,_,rfl⟩
   have a1:=HM.out.step b2;have E:=Ca a1.en.ents i2 ag.1 (by omega) ag.2;obtain⟨c0,c1,c2,c3,c4,c5,c6,c7,c8,fz⟩:=a1.cells;rw[hre]at c8;have aF:=a1.lt;have an:=HM.out.lt;have a7:Hid _:=a1;have I2:Hid (ab _ _ _ _):=i2;clear J1 HM a1 i2 b2
   cases ho:dj st.es r with
   | some x1 =>
    rw[ho]at E;have h0:0≤atE st.es r:=by
     have:=Aj (es:=st.es) (l:=r);rw[ho]at this;exact of_decide_eq_true this.symm
    have HE:Hid (R=.error 4):=hp.trans (W5 hro aa hre h0);unfold fo ph elV at E;simp only[Option.getD_some,Option.isSome_some]at E;clear hp ho hro h0;go_wp2_with fail;refine E.mono ?_;rintro e u3 ⟨rfl,b3⟩;have HB:Hid (Below _ _ _):=(a7.out.step b3).be;have aG:=b3.size;clear E a7 c0 c1 c2 c3 c4 c5 c6 c7 c8 fz I2;go_wp2;go_ret;exact⟨4,rfl,.inl ⟨HE.out,by decide,HB.out.alloc (by omega) _⟩⟩
   | none =>
    rw[ho]at E;have h0:¬ 0≤atE st.es r:=by rw[yu ho];omega
    unfold fo ph elV at E;simp only[Option.getD_none,Option.isSome_none]at E;clear ho;go_wp2_with fail;refine E.mono ?_;rintro e u3 ⟨rfl,b3⟩;have a2:=(Below.refl u3.heap.size u3).alloc bR (.cells #[.int .i64 0,.int .i64 0,.int .i64 0,.bool false] 111);have a4:Hid (RdM _ _ _ _ _ _ _):=(a7.out.step b3).step a2;have I4:Hid (ab _ _ _ _):=(I2.out.below b3).below a2;clear E a7 c0 c1 c2 c3 c4 c5 c6 c7 c8 fz I2 b3 a2;have BH:=fun (u:World) (hb:Below (u3.alloc (.cells #[.int .i64 0,.int .i64 0,.int .i64 0,.bool false] 111)).heap.size (u3.alloc (.cells #[.int .i64 0,.int .i64 0,.int .i64 0,.bool false] 111)) u)=>al7 (a4.out.step hb) HI.out ah
    obtain⟨nb,a9⟩:∃ nb,Hid (gk st.es st.last lev=nb):=⟨_,rfl⟩
    rw[a9.out]at BH;unfold elV at BH;obtain⟨c0,c1,c2,c3,c4,c5,c6,c7,c8,fz⟩:=a4.out.cells;rw[hre]at c8;have ai:=a4.out.lt;have KP:Hid (∀ u5 u6,Below (u3.alloc (.cells #[.int .i64 0,.int .i64 0,.int .i64 0,.bool false] 111)).heap.size (u3.alloc (.cells #[.int .i64 0,.int .i64 0,.int .i64 0,.bool false] 111)) u5→Below u5.heap.size u5 u6→RdM w (ym u6 b nb) b u1.heap.size l2 { st with last:=nb } vE∧ab (ym u6 b nb) u1.heap.size (.slice va vm vc) r):=fun u5 u6 h5 h6 =>
     ⟨((a4.out.step h5).step h6).setLast nb,World.ownsRow.kept ((I4.out.below h5).below h6) (Rr u6 b nb) (ae0 ((I4.out.below h5).below h6) an)⟩
    go_upto_region 9 with fail
    go_cut [5] from 33 to 46 (fun s5 wx=>s5=.slice va vm vc∧RdM w wx b u1.heap.size l2 { st with last:=nb } vE∧ab wx u1.heap.size (.slice va vm vc) r)
    case first =>
     go_region_with (go_at_call 169;refine (BH _ (by repeat (first|exact bX|refine Below.drew ?_))).mono ?_;rintro e u6 ⟨rfl,b6,⟨k4,k5,k6,k7⟩,kf⟩)
     all_goals
      have hK:=KP.out _ _ (by repeat (first|exact bX|refine Below.drew ?_)) b6;go_wp2_with fail;go_meet
      case rel=>exact⟨rfl,hK⟩
    case rest =>
     obtain⟨rfl,a6,am⟩:=hcut;clear BH KP c0 c1 c2 c3 c4 c5 c6 c7 c8 fz a4 I4 ai;obtain⟨xs,ar,h1,h2,h3,h4,h5⟩:=a6.en;obtain⟨c0,c1,c2,c3,c4,c5,c6,c7,c8,fz⟩:=a6.cells;simp only at c2 c3 c4 c5 c6 c7 c8;rw[hre]at c8;have a5:=a6.lt;have aw:=(cg HI.out.good).1;have ac:Hid _:=a6;have ak:Hid (ab _ _ _ _):=am;have H2:Hid _:=h2;have H3:Hid _:=h3;have H5:Hid _:=h5;have KG:Hid (∀ u9:World,(wc.alloc (.cells #[.slice va vm vc,.int .i64 nb.first,.int .i64 nb.second,.int .i64 nb.third,.bool nb.varies] 117)).grownBy u9 vE.ownBlock→u9.cell? ⟨b,1,none⟩=some vE∧∀ j,u9.frozen? ⟨b,j,none⟩=false):=fun u9 hg=>by
      have ao:u9.heap[b]? = some (.cells (rdC l2 vE { st with last:=nb }) 184):=by
       rw[hg.block b (by simp;omega) (fun c=>by have:=(World.ownsRow.lt h1 b c.symm).1;omega),Below.heap_alloc _ _ _ a5];exact ac.out.blk
      exact⟨cell_of_row _ _ 1 _ _ _ ao,fun j=>by simp[World.frozen?,ao]⟩
     obtain⟨it,av,aD,aA,aB⟩:=info_parts Ar;clear a6 am h2 h3 h4 h5 HI;have ae:∀ u:World,u.heap=(wc.alloc (.cells #[.slice va vm vc,.int .i64 nb.first,.int .i64 nb.second,.int .i64 nb.third,.bool nb.varies] 117)).heap→u.ownsRow (b+1) 117 5 vE st.es.length (eu xs st.es):=fun u hu=>by
      have:=h1.alloc (o:=(.cells #[.slice va vm vc,.int .i64 nb.first,.int .i64 nb.second,.int .i64 nb.third,.bool nb.varies] 117));unfold World.ownsRow at this ⊢;rw[hu];exact this
     have al:Hid (∀ (uA u9:World) (g9 a0:Nat),uA=wc.alloc (.cells #[.slice va vm vc,.int .i64 nb.first,.int .i64 nb.second,.int .i64 nb.third,.bool nb.varies] 117)→uA.grownBy u9 vE.ownBlock→u9.ownsRow (b+1) 117 5 (.slice (some ⟨g9,0,none⟩) (st.es.length+1) a0) (st.es.length+1) (eu xs st.es++gm (.slice va vm vc) nb)→RdM w (u9.setCell ⟨b,1,none⟩ (.slice (some ⟨g9,0,none⟩) (st.es.length+1) a0)) b u9.heap.size l2 { st with es:=st.es++[⟨r,nb⟩],last:=nb } (.slice (some ⟨g9,0,none⟩) (st.es.length+1) a0)):=fun uA u9 g9 a0 hA hg ho=>by
      subst hA;have a2:=(Below.refl wc.heap.size wc).alloc bR (.cells #[.slice va vm vc,.int .i64 nb.first,.int .i64 nb.second,.int .i64 nb.third,.bool nb.varies] 117);exact RdM.put (st:={ st with last:=nb }) (ac.out.step a2) ar (ae _ rfl) (fun k e he=>by obtain⟨z,hz,aC⟩:=H2.out k e he;exact⟨z,hz,aC.below a2⟩) H3.out H5.out (ak.out.below a2) bR an hg ho
     go_upto_region 10 with fail
     go_cut [5] from 47 to 63 (fun _ wx=>∃ g9 a0 T9,RdM w wx b T9 l2 { st with es:=st.es++[⟨r,nb⟩],last:=nb } (.slice (some ⟨g9,0,none⟩) (st.es.length+1) a0))
     case first =>
      go_region_law (refine step_append_lies _ rfl (.tmp 52) (.tmp 59) 54 rfl (b+1) 117 it _ 5 56 underlying54 av aD aA aB rfl (by decide) _ _ _ (by simp[Act.eval]) (ae _ rfl) ⟨wc.heap.size,0,none⟩ 1 1 (gm (.slice va vm vc) nb) (by simp[Act.eval]) rfl (H6 _ _ _ _) (fun z hz=>by simp[gm]at hz;rcases hz with rfl|rfl|rfl|rfl|rfl <;> rfl) (by omega) (by unfold maxLen;omega) (by omega) (by simp;omega) (wc.heap.size+1) (by simp) ?_;intro g9 a0 w9 ax af au aj;have k1:=(KG.out w9 (rh af)).1;have kf:=(KG.out w9 (rh af)).2)
      all_goals
       have hK:=al.out _ _ g9 a0 rfl (rh af) ax;go_wp2_with fail;go_meet
       case rel=>exact⟨g9,a0,_,hK⟩
     case rest =>
      obtain⟨g9,a0,T9,a3⟩:=hcut;have aq:∀ e ∈ st.es++[⟨r,nb⟩],e.runes.length≤1048576:=fun e he=>by
       rcases List.mem_append.1 he with h|h
       .exact ag.2 e h
       .simp at h;subst h;exact Nat.le_trans az (by omega)
      have GR:=ut (sh:=st.sh) (lv:=st.lv) a3.en.ents aq a3.tab;clear al KG ac ak H2 H3 H5 h1 ae aq c0 c1 c2 c3 c4 c5 c6 c7 c8 fz a5 ar;obtain⟨c0,c1,c2,c3,c4,c5,c6,c7,c8,fz⟩:=a3.cells;simp only at c1 c2 c3;have a8:Hid _:=a3;have aj:=a3.lt;clear a3
      cases hg:ay (st.es++[⟨r,nb⟩]) st.lv
      .have HE:Hid (R=.error 5):=hp.trans (W9 hro aa hre (by omega) (by rw[a9.out];exact hg))
       rw[hg]at GR;go_wp2_with fail;refine GR.mono ?_;rintro e aE ⟨rfl,ad⟩;have HB:Hid (Below _ _ _):=(a8.out.step ad).be;clear GR a8 c0 c1 c2 c3 c4 c5 c6 c7 c8 fz;go_wp2;go_ret;exact⟨5,rfl,.inl ⟨HE.out,by decide,HB.out⟩⟩
      .have HE:Hid (R=.ok { st with es:=st.es++[⟨r,nb⟩],last:=nb }):=by
        show _=_
        rw[<- a9.out];exact hp.trans (ae9 hro aa hre (by omega) (by rw[a9.out];exact hg))
       rw[hg]at GR;go_wp2_with fail;refine GR.mono ?_;rintro e aE ⟨rfl,ad⟩;have HS:Hid _:=a8.out.step ad;clear GR a8 c0 c1 c2 c3 c4 c5 c6 c7 c8 fz;go_wp2;go_ret;exact⟨0,rfl,.inr ⟨_,_,_,HE.out,rfl,HS.out⟩⟩
def mv (b:Nat) (u:World):Nat:=match u.cell? ⟨b,0,none⟩ with
 | some (.string s)=>s.size
 | _=>0
theorem Kf {w u:World} {b T:Nat} {l:List UInt8} {st:RS} {vE:Value}(h:RdM w u b T l st vE):mv b u=l.length:=by
 unfold mv;rw[h.cells.1];simp[ByteArray.size]
theorem aw9 {l:List UInt8}(h:(dn l).1≠[]):(wdR l).length<l.length:=by
 unfold wdR;induction l with
 | nil=>exact absurd rfl h
 | cons x l ih =>
  by_cases hx:x=32
  .have e:dn (x::l)=dn l:=by simp[dn,hx]
   rw[e]at h ⊢;have:=ih h;simp only[List.length_cons];omega
  .have e:(dn (x::l)).2=(l.dropWhile (· != 32)).drop 1:=by simp[dn,hx]
   rw[e];have:=(List.dropWhile_sublist (l:=l) (fun y=>y != 32)).length_le;simp only[List.length_drop,List.length_cons];omega
def RdJ (w:World) (b:Nat) (R:Except Int RS) (u:World):Prop:=∃ l T st vE,RdM w u b T l st vE∧gj st∧l.length≤1048576∧bf (wf l []) st=R
def Dj (w:World) (b:Nat) (R:Except Int RS) (c:Int) (u:World):Prop:=∃ l,Out w u b l R c
theorem Ln {P:Program} {a:Act} {w:World} {Q:Exit→Act→World→Prop} {r1 rest:Code}(l:Nat) (J:Act→World→Prop) (μ:Act→World→Nat) (hf:findLabel (r1.seq ((Code.label l).seq rest)) l=some (Code.skip.seq rest))
  (first:r1.wp P (fun e a w=>e=.normal∧J a w) a w)
  (a0:∀ a w,J a w→rest.wp P (Exit.jump l (fun a' w'=>J a' w'∧μ a' w'<μ a w) Q) a w):(Code.scope (r1.seq ((Code.label l).seq rest))).wp P Q a w:=by
 refine wp_scope_jumps l J μ hf ?_ (fun a w hJ=>wp_seq (wp_skip (show Code.wp P rest _ a w from a0 a w hJ)));refine wp_seq (wp_mono first ?_);rintro e a w ⟨rfl,hJ⟩;show ((Code.label l).seq rest).wp P (Exit.jump l J Q) a w
 refine wp_seq (wp_label ?_);show rest.wp P (Exit.jump l J Q) a w
 refine wp_mono (a0 a w hJ) ?_;intro e a' w' hq
 cases e with
 | goto l'=>exact⟨hq.1,hq.2.1⟩
 | normal=>exact hq
 | exit _=>exact hq
 | ret=>exact hq
 | panic _=>exact hq
 | outgrown=>exact hq
theorem T4 {w u u':World} {b T T':Nat} {l l':List UInt8} {st st':RS} {vE vE':Value} {R:Except Int RS}(hm:RdM w u b T l st vE) (a0:RdM w u' b T' l' st' vE') (hi:gj st') (a1:l'.length<l.length) (hl:l.length≤1048576) (hR:bf (wf l' []) st'=R):RdJ w b R u'∧mv b u'<mv b u :=
 ⟨⟨l',T',st',vE',a0,hi,by omega,hR⟩,by rw[Kf hm,Kf a0];exact a1⟩
theorem Zt (x:ByteArray):ma x=if (x.toList == [38])=true then some 0 else if (x.toList == [60])=true then some 1 else if (x.toList == [60,60])=true then some 2 else if (x.toList == [60,60,60])=true then some 3 else none:=rfl
theorem xy {x:ByteArray} {l:List UInt8}(h:(x.toList == l)=true):x.size=l.length:=by
 have e:=beq_iff_eq.1 h;rw[ByteArray.toList_eq]at e;rw[<- e,Array.length_toList];rfl
def aa3 (r:Except Int RS) (l:List UInt8):Except Int RS:=match r with
 | .error c=>.error c
 | .ok st'=>bf (wf l []) st'
theorem Pi {w u u':World} {b T:Nat} {l l':List UInt8} {st:RS} {vE:Value} {R r:Except Int RS} {c:Int}(hm:RdM w u b T l st vE) (a1:l'.length<l.length) (hl:l.length≤1048576) (a0:∀ st',r=.ok st'→gj st')
  (hR:R=aa3 r l') (h:Out w u' b l' r c):(c≠0∧Dj w b R c u')∨(c=0∧RdJ w b R u'∧mv b u'<mv b u):=by
 rcases h with ⟨h1,h2,h3⟩|⟨st',T',vE',h1,h2,h3⟩
 .rw[h1]at hR
  exact .inl ⟨h2,l',.inl ⟨hR,h2,h3⟩⟩
 .rw[h1]at hR
  exact .inr ⟨h2,T4 hm h3 (a0 st' h1) a1 hl hR.symm⟩
theorem a17 {w u:World} {b T:Nat} {l:List UInt8} {st:RS} {vE:Value}(h:RdM w u b T l st vE) (hl:l.length≤1048576) (hi:gj st) :
  Calls prog 119 #[.pointer (some ⟨b,0,none⟩)] u fun e u'=>∃ c,e=.returned (.int .i64 c)∧Dj w b (bf (wf l []) st) c u':=by
 obtain⟨R,HR⟩:∃ R,Hid (bf (wf l []) st=R):=⟨_,rfl⟩
 rw[HR.out];have HJ:Hid (RdJ w b R u):=⟨l,T,st,vE,h,hi,hl,HR.out⟩;clear h hl hi HR;go_enter func119,ntmps119;go_wp2;refine Ln 0 (fun a' u'=>RdJ w b R u'∧∃ (u4 u5 u6 u7 u8 u9 ak al am an ao ap aq ar au av aw ax ay az aA aB aC aD aE aF aG aH aI aJ aK aL:Value),a'={ tmps:=#[.pointer (some ⟨b,0,none⟩),undef,.int .i64 0,.int .i64 0,u4,u5,u6,u7,u8,u9,ak,al,am,an,ao,ap,aq,ar,au,av,aw,ax,ay,az,aA,aB,aC,aD,aE,aF,aG,aH,aI,aJ,aK,aL],defers:=[] }) (fun _ u'=>mv b u') rfl ?_ ?_
 .go_wp2
  exact HJ.out
 .clear HJ
  rintro a u0 ⟨⟨l,T,st,vE,hm,hi,hl,hR⟩,u4,u5,u6,u7,u8,u9,ak,al,am,an,ao,ap,aq,ar,au,av,aw,ax,ay,az,aA,aB,aC,aD,aE,aF,aG,aH,aI,aJ,aK,aL,rfl⟩;have NW:=vt hm hl;have ab:Hid _:=hm;have HI:Hid (gj st):=hi;have HR:Hid (bf (wf l []) st=R):=hR;clear hm hi hR;by_cases he:(dn l).1=[]
  .have e0:((wdB l).toList == [])=true:=by unfold wdB;rw[he,ByteArray.toList_eq];rfl
   have e1:(wdB l).toList.isEmpty=true:=by unfold wdB;rw[he,ByteArray.toList_eq];rfl
   have HE:Hid (∀ u1,RdM w u1 b T (wdR l) st vE→Dj w b R 0 u1):=fun u1 h1=>⟨_,.inr ⟨st,T,vE,by rw[<- HR.out,a18 he],rfl,h1⟩⟩
   generalize wdB l=x at *;clear he HR HI ab;go_wp2_with fail;refine NW.mono ?_;rintro e u1 ⟨rfl,a1⟩;have hE:=HE.out _ a1;clear NW HE a1;go_wp2;simp only[Exit.jump];go_ret;exact⟨0,rfl,hE⟩
  .have ah:∃ y ys,(dn l).1=y::ys:=by
    cases c:(dn l).1 with
    | nil=>exact absurd c he
    | cons y ys=>exact⟨y,ys,rfl⟩
   have z0:((wdB l).toList == [])=false:=by
    obtain⟨y,ys,h⟩:=ah;unfold wdB;rw[h,ByteArray.toList_eq];simp
   have z1:(wdB l).toList.isEmpty=false:=by
    obtain⟨y,ys,h⟩:=ah;unfold wdB;rw[h,ByteArray.toList_eq];simp
   clear ah;have aj:=aw9 he;have ad:(wdR l).length≤1048576:=by omega
   have ae:(wdR (wdR l)).length<l.length:=Nat.lt_of_le_of_lt (Pp (wdR l)).2 aj;by_cases a4:((wdB l).toList == [91,115,104,105,102,116,101,100,93])=true
   .have ST:Hid (∀ u1,RdM w u1 b T (wdR l) { st with sh:=true } vE→RdJ w b R u1∧mv b u1<mv b u0):=fun u1 h1=>T4 ab.out h1 (a42 HI.out) aj hl (by rw[<- HR.out,Rm he a4])
    generalize wdB l=x at *;clear he HR HI ab;go_wp2_with fail;refine NW.mono ?_;rintro e u1 ⟨rfl,a1⟩;have a5:=ST.out _ (a1.set (i:=2) (x:=.bool true) (l':=wdR l) (st':={ st with sh:=true }) (vE':=vE) rfl rfl rfl);obtain⟨_,_,c2,_,_,_,_,_,_,fz⟩:=a1.cells;have aP:=a1.lt;clear NW ST a1;go_wp2;go_step3
    exact⟨rfl,⟨a5.1,_,_,_,_,_,_,_,_,_,_,_,_,_,_,_,_,_,_,_,_,_,_,_,_,_,_,_,_,_,_,_,_,rfl⟩,a5.2⟩
   .have a2:((wdB l).toList == [91,115,104,105,102,116,101,100,93])=false:=by simpa using a4
    by_cases a8:((wdB l).toList == [91,108,101,118,101,108,115])=true
    .have ST:Hid (∀ u2 c,Out w u2 b (wdR (wdR l)) (si st (wdB (wdR l))) c→(c≠0∧Dj w b R c u2)∨(c=0∧RdJ w b R u2∧mv b u2<mv b u0)):=fun u2 c h2=>Pi ab.out ae hl (fun st' h=>ac4 HI.out h) (by rw[<- HR.out,Om he a2 a8];unfold aa3;cases si st (wdB (wdR l)) <;> rfl) h2
     generalize wdB l=x at *;clear he HR HI ab;go_wp2_with fail;refine NW.mono ?_;rintro e u1 ⟨rfl,a1⟩;have C1:=Vr a1 ad;clear NW a1;go_wp2_with fail;refine C1.mono ?_;rintro e u2 ⟨c,rfl,ho⟩;clear C1;rcases ST.out _ _ ho with ⟨hc,hE⟩|⟨rfl,a5⟩
     .have ag:(c == 0)=false:=by simpa using hc
      clear ST ho hc;go_wp2;simp only[Exit.jump];go_ret;exact⟨c,rfl,hE⟩
     .clear ST ho
      go_wp2;go_step3
      exact⟨rfl,⟨a5.1,_,_,_,_,_,_,_,_,_,_,_,_,_,_,_,_,_,_,_,_,_,_,_,_,_,_,_,_,_,_,_,_,rfl⟩,a5.2⟩
    .have a9:((wdB l).toList == [91,108,101,118,101,108,115])=false:=by simpa using a8
     have OP:Hid (∀ lev,ma (wdB l)=some lev→∀ u2 c,Out w u2 b (wdR (wdR l)) (nc st lev (wdB (wdR l))) c→(c≠0∧Dj w b R c u2)∨(c=0∧RdJ w b R u2∧mv b u2<mv b u0)):=fun lev hx u2 c h2=>Pi ab.out ae hl (fun st' h=>af0 HI.out h) (by rw[<- HR.out,af3 he a2 a9 hx];unfold aa3;cases nc st lev (wdB (wdR l)) <;> rfl) h2
     have ac:Hid (ma (wdB l)=none→R=.error 2):=fun hx=>by rw[<- HR.out,a20 he a2 a9 hx]
     have LO:Hid (ma (wdB l)=if ((wdB l).toList == [38])=true then some 0 else if ((wdB l).toList == [60])=true then some 1 else if ((wdB l).toList == [60,60])=true then some 2 else if ((wdB l).toList == [60,60,60])=true then some 3 else none):=Zt (wdB l);generalize wdB l=x at *;clear he HR ab a4 a8;by_cases a0:(x.toList == [38])=true
     .have ST:Hid _:=OP.out 0 (LO.out.trans (by rw[if_pos a0]))
      clear OP ac LO;go_wp2_with fail;refine NW.mono ?_;rintro e u1 ⟨rfl,a1⟩;have C1:=a25 a1 ad HI.out;clear NW a1;go_wp2_with fail;refine C1.mono ?_;rintro e u2 ⟨c,rfl,ho⟩;clear C1;rcases ST.out _ _ ho with ⟨hc,hE⟩|⟨rfl,a5⟩
      .have ag:(c == 0)=false:=by simpa using hc
       clear ST ho hc;go_wp2;simp only[Exit.jump];go_ret;exact⟨c,rfl,hE⟩
      .clear ST ho
       go_wp2;go_step3
       exact⟨rfl,⟨a5.1,_,_,_,_,_,_,_,_,_,_,_,_,_,_,_,_,_,_,_,_,_,_,_,_,_,_,_,_,_,_,_,_,rfl⟩,a5.2⟩
     .have ai:(x.toList == [38])=false:=by simpa using a0
      by_cases a3:(x.toList == [60])=true
      .have aa:x.size=1:=xy a3
       have ST:Hid _:=OP.out x.size (by rw[aa];exact LO.out.trans (by rw[if_neg a0,if_pos a3]));have af:x.size=1∨x.size=2∨x.size=3:=by omega
       clear OP ac LO aa a0;go_wp2_with fail;refine NW.mono ?_;rintro e u1 ⟨rfl,a1⟩;have C1:=G4 a1 ad HI.out af;clear NW a1;go_wp2_with fail;refine C1.mono ?_;rintro e u2 ⟨c,rfl,ho⟩;clear C1;rcases ST.out _ _ ho with ⟨hc,hE⟩|⟨rfl,a5⟩
       .have ag:(c == 0)=false:=by simpa using hc
        clear ST ho hc;go_wp2;simp only[Exit.jump];go_ret;exact⟨c,rfl,hE⟩
       .clear ST ho
        go_wp2;go_step3
        exact⟨rfl,⟨a5.1,_,_,_,_,_,_,_,_,_,_,_,_,_,_,_,_,_,_,_,_,_,_,_,_,_,_,_,_,_,_,_,_,rfl⟩,a5.2⟩
      .have aM:(x.toList == [60])=false:=by simpa using a3
       by_cases a6:(x.toList == [60,60])=true
       .have aa:x.size=2:=xy a6
        have ST:Hid _:=OP.out x.size (by rw[aa];exact LO.out.trans (by rw[if_neg a0,if_neg a3,if_pos a6]));have af:x.size=1∨x.size=2∨x.size=3:=by omega
        clear OP ac LO aa a0 a3;go_wp2_with fail;refine NW.mono ?_;rintro e u1 ⟨rfl,a1⟩;have C1:=G4 a1 ad HI.out af;clear NW a1;go_wp2_with fail;refine C1.mono ?_;rintro e u2 ⟨c,rfl,ho⟩;clear C1;rcases ST.out _ _ ho with ⟨hc,hE⟩|⟨rfl,a5⟩
        .have ag:(c == 0)=false:=by simpa using hc
         clear ST ho hc;go_wp2;simp only[Exit.jump];go_ret;exact⟨c,rfl,hE⟩
        .clear ST ho
         go_wp2;go_step3
         exact⟨rfl,⟨a5.1,_,_,_,_,_,_,_,_,_,_,_,_,_,_,_,_,_,_,_,_,_,_,_,_,_,_,_,_,_,_,_,_,rfl⟩,a5.2⟩
       .have aN:(x.toList == [60,60])=false:=by simpa using a6
        by_cases a7:(x.toList == [60,60,60])=true
        .have aa:x.size=3:=xy a7
         have ST:Hid _:=OP.out x.size (by rw[aa];exact LO.out.trans (by rw[if_neg a0,if_neg a3,if_neg a6,if_pos a7]));have af:x.size=1∨x.size=2∨x.size=3:=by omega
         clear OP ac LO aa a0 a3 a6;go_wp2_with fail;refine NW.mono ?_;rintro e u1 ⟨rfl,a1⟩;have C1:=G4 a1 ad HI.out af;clear NW a1;go_wp2_with fail;refine C1.mono ?_;rintro e u2 ⟨c,rfl,ho⟩;clear C1;rcases ST.out _ _ ho with ⟨hc,hE⟩|⟨rfl,a5⟩
         .have ag:(c == 0)=false:=by simpa using hc
          clear ST ho hc;go_wp2;simp only[Exit.jump];go_ret;exact⟨c,rfl,hE⟩
         .clear ST ho
          go_wp2;go_step3
          exact⟨rfl,⟨a5.1,_,_,_,_,_,_,_,_,_,_,_,_,_,_,_,_,_,_,_,_,_,_,_,_,_,_,_,_,_,_,_,_,rfl⟩,a5.2⟩
        .have aO:(x.toList == [60,60,60])=false:=by simpa using a7
         have HB:Hid (R=.error 2):=ac.out (LO.out.trans (by rw[if_neg a0,if_neg a3,if_neg a6,if_neg a7]));clear OP ac LO a0 a3 a6 a7 HI;go_wp2_with fail;refine NW.mono ?_;rintro e u1 ⟨rfl,a1⟩;have hE:Dj w b R 2 u1:=⟨[],.inl ⟨HB.out,by decide,a1.be⟩⟩;clear NW a1;go_wp2;simp only[Exit.jump];go_ret;exact⟨2,rfl,hE⟩
theorem L8 (w:World):Calls prog 118 #[] w fun e w'=>e=.returned (.agg #[.slice none 0 0,.bool false,.int .i64 3])∧Below w.heap.size w w':=by
 go_enter func118,ntmps118;go_wp2;refine bodyPost_ret (v:=.agg #[.slice none 0 0,.bool false,.int .i64 3]) ?_ rfl ⟨rfl,bY _⟩;exact results_cell_row rfl _ _ w.heap.size 56 _ (0,0) _ rfl (heap_alloc_new _ _) underlying56 rfl (by kernel_rfl)
def Zru (u:World) (b:Nat):Prop:=u.heap[b]? = some (.cells #[.slice none 0 0,.bool false,.int .i64 0] 56)
theorem Zru.facts {u:World} {b:Nat}(h:Zru u b):b<u.heap.size∧(u.cell? ⟨b,0,none⟩=some (.slice none 0 0)∧u.cell? ⟨b,1,none⟩=some (.bool false)∧u.cell? ⟨b,2,none⟩=some (.int .i64 0))∧∀ j,u.frozen? ⟨b,j,none⟩=false :=
 ⟨(Array.getElem?_eq_some_iff.1 h).1,⟨cell_of_row _ _ 0 _ _ _ h,cell_of_row _ _ 1 _ _ _ h,cell_of_row _ _ 2 _ _ _ h⟩,fun j=>by simp[World.frozen?,show u.heap[b]? = _ from h]⟩
theorem Zru.below {u u':World} {b B:Nat}(h:Zru u b) (hb:Below B u u') (hB:b<B):Zru u' b:=(hb.block _ hB).trans h
theorem Ec {w wr:World}(h:Below w.heap.size w wr) (x y z:Value):Below w.heap.size w (((wr.setCell ⟨w.heap.size,0,none⟩ x).setCell ⟨w.heap.size,1,none⟩ y).setCell ⟨w.heap.size,2,none⟩ z) :=
 ((h.setCell bR _).setCell bR _).setCell bR _
theorem Wn (u:World) (b:Nat) (x y z:Value):u.grownBy (((u.setCell ⟨b,0,none⟩ x).setCell ⟨b,1,none⟩ y).setCell ⟨b,2,none⟩ z) (some b) :=
 ((au u b 0 _).trans (au _ b 1 _)).trans (au _ b 2 _)
theorem jh.low {u:World} {B B' T:Nat} {v:Value} {es:List Ent}(h:jh u B' T v es) (hB:B≤B'):jh u B T v es:=by
 obtain⟨xs,hl,h1,h2,h3,h4,h5⟩:=h;refine⟨xs,hl,?_,fun k e he=>?_,h3,h4,h5⟩
 .obtain⟨h6,h7⟩:=h1
  refine⟨h6,?_⟩;rcases h7 with h7|⟨g,cap,cur,a,b,c⟩
  .exact .inl h7
  .exact .inr ⟨g,cap,cur,a,by omega,c⟩
 .obtain⟨x,hx,hI⟩:=h2 k e he
  exact⟨x,hx,fe hI hB⟩
theorem Ng (s:ByteArray) (u:World) (ht:dr u) (hs:s.size≤1048576) :
  Calls prog 84 #[.string s] u fun e w'=>∃ v,e=.returned (.tuple #[.agg #[v,.bool (aa s).sh,.int .i64 (aa s).lv],.int .i64 (aa s).code])∧jh w' u.heap.size w'.heap.size v (aa s).es∧Below u.heap.size u w':=by
 have hz:Zru (u.alloc (.cells #[.slice none 0 0,.bool false,.int .i64 0] 56)) u.heap.size:=heap_alloc_new _ _;have a4:=(Below.refl u.heap.size u).alloc bR (.cells #[.slice none 0 0,.bool false,.int .i64 0] 56);by_cases h3:300<s.size
 .have ac:(300:Int)<(s.size:Int):=by omega
  have HA:Hid (aa s=⟨[],false,0,1⟩):=if_pos h3;obtain⟨a7,⟨q0,q1,q2⟩,f0⟩:=hz.facts;clear hz ht h3;go_enter func84,ntmps84;go_wp2;refine bodyPost_ret (v:=.tuple #[.agg #[.slice none 0 0,.bool false,.int .i64 0],.int .i64 1]) ?_ rfl ⟨.slice none 0 0,by rw[HA.out],by rw[HA.out];exact jh.nil _ _ _,a4⟩;rw[results_cell_tmp rfl];go_simp
 .have ac:¬ (300:Int)<(s.size:Int):=by omega
  have HA:Hid (aa s=Wb (bf (wf s.data.toList []) rs0)):=by show _=_;unfold aa;rw[if_neg h3,ai9]
  have a8:s.data.toList.length≤1048576:=by rw[Array.length_toList];exact hs
  have P:=fun w=>L8 w
  have HT:Hid (dr u):=ht;have HZ:Hid (Zru _ _):=hz;have HB:Hid _:=a4;clear ht hz a4 h3;go_enter func84,ntmps84;go_wp2_with fail;refine (P _).mono ?_;rintro e u1 ⟨rfl,b1⟩;have a6:=HZ.out.below b1 (HZ.out.facts).1;have c1:=HB.out.trans (b1.mono HB.out.size);have t1:=HT.out.below c1;have a9:u.heap.size<u1.heap.size:=(a6.facts).1;have a3:Below u1.heap.size u1 (u1.alloc (.cells #[.string s,.slice none 0 0,.bool false,.int .i64 3,.int .i64 0,.int .i64 0,.int .i64 0,.bool false,.bool false] 184)):=(Below.refl u1.heap.size u1).alloc bR _;have hm:RdM u1 (u1.alloc (.cells #[.string s,.slice none 0 0,.bool false,.int .i64 3,.int .i64 0,.int .i64 0,.int .i64 0,.bool false,.bool false] 184)) u1.heap.size u1.heap.size s.data.toList rs0 (.slice none 0 0):=by
   refine⟨?_,jh.nil _ _ _,a3.size,a3,t1.below a3,⟨Nat.lt_of_lt_of_le HT.out.1.lt c1.size,Nat.lt_of_lt_of_le HT.out.2.1.lt c1.size,Nat.lt_of_lt_of_le HT.out.2.2.lt c1.size⟩⟩;rw[heap_alloc_new u1];unfold rdC rs0;have ae:(⟨s.data.toList.toArray⟩:ByteArray)=s:=by simp
   rw[ae]
  have RD:=a17 hm a8 Wq;have a2:Hid (Zru _ _):=a6;have a0:Hid _:=c1;clear P HT HZ HB a6 c1 t1 a3 hm b1 a8;go_wp2_with fail;refine RD.mono ?_;rintro e u2 ⟨c,rfl,l2,ho⟩;clear RD;rcases ho with ⟨hR,hc,a5⟩|⟨st,T,vE,hR,rfl,hm⟩
  .have a1:Hid (aa s=⟨[],false,0,c⟩):=HA.out.trans (by rw[hR];rfl)
   have af:(c != 0)=true:=by simpa using hc
   obtain⟨a7,⟨q0,q1,q2⟩,f0⟩:=(a2.out.below a5 a9).facts;have c2:=a0.out.trans (a5.mono a0.out.size);clear HA hR hc a5 a2 a0;go_wp2;refine bodyPost_ret (v:=.tuple #[.agg #[.slice none 0 0,.bool false,.int .i64 0],.int .i64 c]) ?_ rfl ⟨.slice none 0 0,by rw[a1.out],by rw[a1.out];exact jh.nil _ _ _,Ec c2 _ _ _⟩;rw[results_cell_tmp rfl];go_simp
  .obtain⟨ea,el,ec,rfl⟩:=hm.en.ents.slice
   have a1:Hid (aa s=⟨st.es,st.sh,st.lv,0⟩):=HA.out.trans (by rw[hR];rfl);obtain⟨a7,⟨q0,q1,q2⟩,f0⟩:=(a2.out.below hm.be a9).facts;obtain⟨d0,d1,d2,d3,_,_,_,_,_,fz⟩:=hm.cells;have ad:=hm.lt;have c2:=a0.out.trans (hm.be.mono a0.out.size);have ab:Hid (∀ x y z,jh (((u2.setCell ⟨u.heap.size,0,none⟩ x).setCell ⟨u.heap.size,1,none⟩ y).setCell ⟨u.heap.size,2,none⟩ z) u.heap.size u2.heap.size (.slice ea el ec) st.es):=fun x y z=>(((hm.en.up hm.tl).grown (Wn u2 u.heap.size x y z) (by omega)).low (by omega))
   clear HA hR a2 a0 hm;go_wp2;refine bodyPost_ret (v:=.tuple #[.agg #[.slice ea el ec,.bool st.sh,.int .i64 st.lv],.int .i64 0]) ?_ rfl ⟨.slice ea el ec,by rw[a1.out],by rw[a1.out];exact (ab.out _ _ _).up (by simp),Ec c2 _ _ _⟩;rw[results_cell_tmp rfl];go_simp
end Go.Proofs.YtjbmgghehdemdaaGreatDoor
