/- IBase -/
import Derived.Test.YtjbmgghehdemdaaGreatDoorMR25
namespace Go.Proofs.YtjbmgghehdemdaaGreatDoor
set_option maxRecDepth 100000
set_option maxHeartbeats 16000000
open _root_.Go.Proofs.Tryz
open Go.RowKit
theorem By (r:Int) (h0:0<=r) (h1:r<=1114111) (o:¬ (55296<=r/\r<=57343)) (w:World) (l:db w 7 ij) :
  Calls prog 189 #[.int .i64 r] w fun e w'=>e=.returned (fo (mk (base r)))/\Below w.heap.size w w':=by
 have b:=(Below.refl w.heap.size w).alloc bR (.cells #[.int .i64 0,.int .i64 0,.int .i64 0,.bool false] 111);have d:Zel (w.alloc (.cells #[.int .i64 0,.int .i64 0,.int .i64 0,.bool false] 111)) w.heap.size:=heap_alloc_new _ _;have W:=Ii r h0 h1 o _ (l.below b l.lt);clear l o h0 h1;rcases Gs r with c|⟨e,c⟩|⟨e,f,c⟩
 .rw[c]at W ⊢
  unfold wtV at W;have h:Hid (mk []=none):=rfl;have q:∀ w,(Instr.typeAssert (.iface 274 (.agg #[])) 257 266 true).run prog w=.ok (.tuple #[.agg #[.int .i64 0,.int .i64 0,.int .i64 0,.bool false],.bool false]) w:=fun _=>by kernel_rfl
  clear c;go_enter func189,ntmps189;go_wp2_with fail;refine W.mono ?_;rintro j n ⟨rfl,a⟩;have g:=b.trans (a.mono b.size);obtain⟨i,⟨m,q1,q2,q3⟩,k⟩:=(d.below a).facts;clear W d a b;go_wp2;refine bodyPost_ret (v:=.tuple #[.agg #[.int .i64 0,.int .i64 0,.int .i64 0,.bool false],.bool false]) ?_ rfl ⟨mj h.out,su g _ _ _ _ _⟩;rw[results_cell_tmp rfl];go_simp
 .have s:=Tt c
  rw[c]at W ⊢;unfold wtV at W;have q:∀ w,(Instr.typeAssert (.iface 266 (.agg #[.int .i64 e.first,.int .i64 e.second,.int .i64 e.third,.bool e.varies])) 257 266 true).run prog w=.ok (.tuple #[.agg #[.int .i64 e.first,.int .i64 e.second,.int .i64 e.third,.bool e.varies],.bool true]) w:=fun _=>by kernel_rfl
  clear c;by_cases p:0<e.first
  .have h:Hid (mk [e]=some e):=ad6 p
   go_enter func189,ntmps189;go_wp2_with fail;refine W.mono ?_;rintro j n ⟨rfl,a⟩;have g:=b.trans (a.mono b.size);obtain⟨i,⟨m,q1,q2,q3⟩,k⟩:=(d.below a).facts;clear W d a b;go_wp2;refine bodyPost_ret (v:=.tuple #[.agg #[.int .i64 e.first,.int .i64 e.second,.int .i64 e.third,.bool e.varies],.bool true]) ?_ rfl ⟨Dw h.out,su g _ _ _ _ _⟩;rw[results_cell_tmp rfl];go_simp
  .have h:Hid (mk [e]=none):=a08 s p
   go_enter func189,ntmps189;go_wp2_with fail;refine W.mono ?_;rintro j n ⟨rfl,a⟩;have g:=b.trans (a.mono b.size);obtain⟨i,⟨m,q1,q2,q3⟩,k⟩:=(d.below a).facts;clear W d a b;go_wp2;refine bodyPost_ret (v:=.tuple #[.agg #[.int .i64 0,.int .i64 0,.int .i64 0,.bool false],.bool false]) ?_ rfl ⟨mj h.out,su g _ _ _ _ _⟩;rw[results_cell_tmp rfl];go_simp
 .rw[c]at W ⊢
  unfold wtV at W;have h:Hid (mk [e,f]=none):=rfl;have q:∀ w,(Instr.typeAssert (.iface 280 (.agg #[.int .i64 e.first,.int .i64 e.second,.int .i64 e.third,.bool e.varies,.int .i64 f.first,.int .i64 f.second,.int .i64 f.third,.bool f.varies])) 257 266 true).run prog w=.ok (.tuple #[.agg #[.int .i64 0,.int .i64 0,.int .i64 0,.bool false],.bool false]) w:=fun _=>by kernel_rfl
  clear c;go_enter func189,ntmps189;go_wp2_with fail;refine W.mono ?_;rintro j n ⟨rfl,a⟩;have g:=b.trans (a.mono b.size);obtain⟨i,⟨m,q1,q2,q3⟩,k⟩:=(d.below a).facts;clear W d a b;go_wp2;refine bodyPost_ret (v:=.tuple #[.agg #[.int .i64 0,.int .i64 0,.int .i64 0,.bool false],.bool false]) ?_ rfl ⟨mj h.out,su g _ _ _ _ _⟩;rw[results_cell_tmp rfl];go_simp
theorem Ed {w wr:World}(h:Below w.heap.size w wr) (x y z t:Value) (o:Obj):Below w.heap.size w (((((wr.setCell ⟨w.heap.size+1,0,none⟩ x).setCell ⟨w.heap.size+1,1,none⟩ y).setCell ⟨w.heap.size+1,2,none⟩ z).setCell ⟨w.heap.size+1,3,none⟩ t).alloc o) :=
 (fg h x y z t).alloc (fg h x y z t).size _
theorem Li {l:List Int}(h:bd l=true):∀ x ∈ l,0<=x/\x<=1114111/\¬ (55296<=x/\x<=57343):=by
 unfold bd at h;rw[Bool.and_eq_true,Bool.and_eq_true]at h;intro x a;have:=l7 ((qi h.2.1).2 x a);omega
theorem Iw {w:World} {B B':Nat} {v:Value} {es:List Ent} {sh:Bool} {lv:Int} {vl:Value} {l:List Int}(hE:ac w B v es) (hL:ab w B' vl l) (hn:es.length<=1048576) (hl:l.length<=1048576) (D:∀ e ∈ es,e.runes.length<=1048576) (ht:dr w) :
  Calls prog 167 #[.agg #[v,.bool sh,.int .i64 lv],vl] w fun e w'=>e=.returned (fo (mr es lv l))/\Below w.heap.size w w':=by
 have C:=((Below.refl w.heap.size w).alloc bR (.cells #[v,.bool sh,.int .i64 lv] 56)).alloc (by simp) (.cells #[.int .i64 0,.int .i64 0,.int .i64 0,.bool false] 111);have H:Hid (um _ _ _ _ _ _):=Me w v sh lv;have x:Hid _:=C;have L:Hid (ac _ _ _ _):=hE.below C;have Z:Hid (ab _ _ _ _):=hL.below C;have M:Hid (dr _):=ht.below C;have u:=ut (sh:=sh) (lv:=lv) L.out D M.out;clear C hE hL ht
 cases hro:ay es lv
 .rw[hro]at u
  have h:Hid (mr es lv l=none):=by show _=_;unfold mr;rw[if_neg (by simp[hro])]
  clear D L Z M hro;go_enter func167,ntmps167;go_wp2_with fail;refine u.mono ?_;rintro s w2 ⟨rfl,i⟩;have d:=H.out.below i;have b:=x.out.trans (i.mono x.out.size);clear u H x i;obtain⟨⟨R,S⟩,_,⟨T,q1,q2,q3⟩,N⟩:=d.facts;clear d;go_wp2;refine bodyPost_ret (v:=.tuple #[.agg #[.int .i64 0,.int .i64 0,.int .i64 0,.bool false],.bool false]) ?_ rfl ⟨mj h.out,fg b _ _ _ _⟩;rw[results_cell_tmp rfl];go_simp
 .rw[hro]at u
  go_enter func167,ntmps167;go_wp2_with fail;refine u.mono ?_;rintro s w2 ⟨rfl,i⟩;have I:Hid (um _ _ _ _ _ _):=H.out.below i;have t:Hid _:=x.out.trans (i.mono x.out.size);have W:Hid (ac _ _ _ _):=L.out.below i;have E:Hid (ab _ _ _ _):=Z.out.below i;have F:Hid (dr _):=M.out.below i;have z:=Au hl E.out F.out;clear u H x L Z M i
  cases hru:bd l
  .rw[hru]at z
   have h:Hid (mr es lv l=none):=by show _=_;unfold mr;rw[if_neg (by simp[hru])]
   clear D W E F hro hru;go_wp2_with fail;refine z.mono ?_;rintro s w3 ⟨rfl,j⟩;have d:=I.out.below j;have b:=t.out.trans (j.mono t.out.size);clear z I t j;obtain⟨⟨R,S⟩,_,⟨T,q1,q2,q3⟩,N⟩:=d.facts;clear d;go_wp2;refine bodyPost_ret (v:=.tuple #[.agg #[.int .i64 0,.int .i64 0,.int .i64 0,.bool false],.bool false]) ?_ rfl ⟨mj h.out,fg b _ _ _ _⟩;rw[results_cell_tmp rfl];go_simp
  .rw[hru]at z
   have h:Hid (mr es lv l=fj es l):=by show _=_;unfold mr;rw[if_pos ⟨hro,hru⟩]
   have Q:=Li hru;have a4:1<=l.length:=by
    unfold bd at hru;rw[Bool.and_eq_true]at hru;exact (of_decide_eq_true hru.1).1
   clear hro hru;go_wp2_with fail;refine z.mono ?_;rintro s w3 ⟨rfl,j⟩;have p:Hid (um _ _ _ _ _ _):=I.out.below j;have k:Hid _:=t.out.trans (j.mono t.out.size);have m:Hid (ab _ _ _ _):=E.out.below j;have G:Hid (dr _):=F.out.below j;have f:=Ca (W.out.below j) m.out hn hl D;clear z I t W E F j D;obtain⟨_,⟨p0,p1,p2⟩,_,_⟩:=p.out.facts
   cases ho:dj es l with
   | some e =>
    rw[ho]at f;have y:=hZ (h.out.trans (a90 ho));unfold fo ph elV at f;simp only[Option.getD_some,Option.isSome_some]at f;clear h ho Q m G;go_wp2_with fail;refine f.mono ?_;rintro s A ⟨rfl,b⟩;have d:=p.out.below b;have q:=k.out.trans (b.mono k.out.size);clear f p k b p0 p1 p2;obtain⟨⟨R,S⟩,_,⟨T,q1,q2,q3⟩,N⟩:=d.facts;clear d;go_wp2;refine bodyPost_ret (v:=.tuple #[.agg #[.int .i64 e.first,.int .i64 e.second,.int .i64 e.third,.bool e.varies],.bool true]) ?_ rfl ⟨Dw y.out,Ed q _ _ _ _ _⟩;rw[results_cell_tmp rfl];go_simp
   | none =>
    rw[ho]at f;unfold fo ph elV at f;simp only[Option.getD_none,Option.isSome_none]at f;have P:=yu ho;clear ho;by_cases O:l.length=1
    .obtain⟨r,rfl⟩:∃ r,l=[r]:=List.length_eq_one_iff.1 O
     obtain⟨g,a2,rfl⟩:=jr m.out (by simp);have y:=hZ (h.out.trans (H9 P));have Y:=Q r (by simp);clear h P Q a4 O hl;simp only[List.length_singleton]at *;go_wp2_with fail;refine f.mono ?_;rintro s A ⟨rfl,b⟩;have J:=(Below.refl A.heap.size A).alloc bR (.cells #[.int .i64 0,.int .i64 0,.int .i64 0,.bool false] 111);have a0:Hid (um _ _ _ _ _ _):=(p.out.below b).below J;have U:=k.out.trans (b.mono k.out.size);have V:Hid _:=U.trans (J.mono U.size);have c0:A.cell? ⟨g,0,none⟩=some (.int .i64 r):=by
      have h3:=World.ownsRow.cellAt (n:=1) (m.out.below b) 0 (by omega);rw[h3];rfl
     have a3:g<A.heap.size:=(World.ownsRow.lt (m.out.below b) g rfl).2;have K:=By r Y.1 Y.2.1 Y.2.2 _ ((G.out.below b).below J).1;clear f p k U b p0 p1 p2 m G J;obtain⟨o,X⟩:∃ o,Hid (mk (base r)=o):=⟨_,rfl⟩
     rw[X.out]at K;have a1:=hZ (y.out.trans X.out);clear y X;unfold fo elV at K;go_wp2_with fail;refine K.mono ?_;rintro s w5 ⟨rfl,q⟩;have d:=a0.out.below q;have b6:=V.out.trans (q.mono V.out.size);clear K a0 V q c0 a3;obtain⟨⟨R,S⟩,_,⟨T,q1,q2,q3⟩,N⟩:=d.facts;clear d;go_wp2;refine bodyPost_ret (v:=fo o) ?_ rfl ⟨by rw[a1.out],fg b6 _ _ _ _⟩;rw[results_cell_tmp rfl];unfold fo elV;go_simp
    .have y:=hZ (h.out.trans (Jr P O))
     obtain⟨a,c,rfl⟩:∃ a c,vl=.slice a l.length c:=by
      rcases m.out.form with ⟨rfl,rfl⟩|⟨g,a2,rfl,_,_⟩
      .exact⟨_,_,rfl⟩
      .exact⟨_,_,rfl⟩
     have h2:(1:Int)<(l.length:Int):=by omega
     clear h P Q m G O;go_wp2_with fail;refine f.mono ?_;rintro s A ⟨rfl,b⟩;have d:=p.out.below b;have q:=k.out.trans (b.mono k.out.size);clear f p k b p0 p1 p2;obtain⟨⟨R,S⟩,_,⟨T,q1,q2,q3⟩,N⟩:=d.facts;clear d;go_wp2;refine bodyPost_ret (v:=.tuple #[.agg #[.int .i64 0,.int .i64 0,.int .i64 0,.bool false],.bool false]) ?_ rfl ⟨mj y.out,Ed q _ _ _ _ _⟩;rw[results_cell_tmp rfl];go_simp
end Go.Proofs.YtjbmgghehdemdaaGreatDoor
