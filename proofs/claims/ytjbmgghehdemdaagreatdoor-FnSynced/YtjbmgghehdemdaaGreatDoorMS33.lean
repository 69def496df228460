/- SWr7 -/
import Derived.Test.YtjbmgghehdemdaaGreatDoorMS32
namespace Go.Proofs.YtjbmgghehdemdaaGreatDoor
set_option maxRecDepth 100000
set_option maxHeartbeats 16000000
open _root_.Go.Proofs.Tryz
open Go.RowKit
def wrC (R:RA) (l:List Rw) (log:ByteArray) (o:Dn):Int × ByteArray :=
 if apC R l o=0 then (if log.size+(js o).size<=6000 then (0,log++js o) else (3,log)) else (apC R l o,log)
structure Hw7 (w u:World) (r:ByteArray) (vp:Value) (log:ByteArray) (syn:Int) (ve:Value) (R:RA) (kd:Int) (o:Dn):Prop where
 disk:an u w.heap.size r vp log syn
 rul:lr u (w.heap.size+1) ve R.sh R.lv
 dob:fo u (w.heap.size+2) kd o.text o.val
 ans:an u (w.heap.size+3) ⟨#[]⟩ (.slice none 0 0) ⟨#[]⟩ 0
 ents:∃ B,ac u B ve R.es
 bel:Below w.heap.size w u
theorem Hw7.below {w u u':World} {r:ByteArray} {d:Value} {log:ByteArray} {syn:Int} {c:Value} {R:RA} {b:Int} {o:Dn}(h:Hw7 w u r d log syn c R b o) (a:Below u.heap.size u u'):Hw7 w u' r d log syn c R b o :=
 ⟨h.disk.below a,h.rul.below a,h.dob.below a,h.ans.below a,h.ents.imp fun _ q=>q.below a,h.bel.trans (a.mono h.bel.size)⟩
theorem Hw7.log {w u:World} {r:ByteArray} {b:Value} {log:ByteArray} {syn:Int} {d:Value} {R:RA} {c:Int} {o:Dn}(h:Hw7 w u r b log syn d R c o) (a:ByteArray) :
  an (u.setCell ⟨w.heap.size,2,none⟩ (.string a)) w.heap.size r b a syn/\an (u.setCell ⟨w.heap.size,2,none⟩ (.string a)) (w.heap.size+3) ⟨#[]⟩ (.slice none 0 0) ⟨#[]⟩ 0/\Below w.heap.size w (u.setCell ⟨w.heap.size,2,none⟩ (.string a)):=by
 refine⟨?_,h.ans.set (by omega) _,h.bel.setCell (p:=⟨w.heap.size,2,none⟩) bR _⟩;have e:=heap_setCell_same u w.heap.size 2 _ _ (.string a) h.disk;show _=_
 rw[e];simp
theorem b11 {o:Dn}(b:o.text.size<=60) (a:o.val.size<=60):(js o).size<=200:=by
 rw[Mj];split <;> omega
theorem Kk {w:World} {B Bl na cd:Nat} {ad:Option Addr} {ve vr:Value} {R:RA} {l:List Rw}(r log:ByteArray) (syn:Int) (o:Dn) (aD:log.size<=1000000) (aw:o.text.size<=1048576) (aF:o.val.size<=1048576) (hE:ac w B ve R.es) (av:bd R.es R.lv=true) (hl:Rws w Bl vr l) (aq:jv R l) :
  Calls prog 37 #[.agg #[.string r,.slice ad na cd,.string log,.int .i64 syn],.agg #[ve,.bool R.sh,.int .i64 R.lv],vr,.agg #[.int .i64 (kn7 o),.string o.text,.string o.val]] w fun e w' =>
   e=.returned (.tuple #[.agg #[.string r,.slice ad na cd,.string (wrC R l log o).2,.int .i64 syn],.int .i64 (wrC R l log o).1])/\Below w.heap.size w w':=by
 obtain⟨M,N,rfl⟩:=ef hE;obtain⟨ar,cr,aB⟩:=db hl;subst aB;obtain⟨W0,Y⟩:∃ W0,W0=(((w.alloc (.cells #[.string r,.slice ad na cd,.string log,.int .i64 syn] 25)).alloc (.cells #[.slice M R.es.length N,.bool R.sh,.int .i64 R.lv] 56)).alloc (.cells #[.int .i64 (kn7 o),.string o.text,.string o.val] 27)).alloc (.cells #[.string ⟨#[]⟩,.slice none 0 0,.string ⟨#[]⟩,.int .i64 0] 25):=⟨_,rfl⟩
 obtain⟨J,a9⟩:∃ J,J=kn7 o:=⟨_,rfl⟩
 have aj:Below w.heap.size w W0:=by rw[Y];exact (((bY _).alloc (by simp) _).alloc (by simp;omega) _).alloc (by simp;omega) _
 have H:Hid (Hw7 w W0 r (.slice ad na cd) log syn (.slice M R.es.length N) R J o):=by
  refine⟨?_,?_,?_,?_,⟨B,hE.below aj⟩,aj⟩
  .show _=_
   rw[Y,Below.heap_alloc _ _ _ (by simp;omega),Below.heap_alloc _ _ _ (by simp;omega),Below.heap_alloc _ _ _ (by simp)];exact heap_alloc_new w _
  .show _=_
   rw[Y,Below.heap_alloc _ _ _ (by simp),Below.heap_alloc _ _ _ (by simp)];have h:=heap_alloc_new (w.alloc (.cells #[.string r,.slice ad na cd,.string log,.int .i64 syn] 25)) (.cells #[.slice M R.es.length N,.bool R.sh,.int .i64 R.lv] 56);rw[World.size_alloc]at h;exact h
  .show _=_
   rw[Y,Below.heap_alloc _ _ _ (by simp),a9];have h:=heap_alloc_new ((w.alloc (.cells #[.string r,.slice ad na cd,.string log,.int .i64 syn] 25)).alloc (.cells #[.slice M R.es.length N,.bool R.sh,.int .i64 R.lv] 56)) (.cells #[.int .i64 (kn7 o),.string o.text,.string o.val] 27);rw[World.size_alloc,World.size_alloc]at h;exact h
  .show _=_
   rw[Y];have h:=heap_alloc_new (((w.alloc (.cells #[.string r,.slice ad na cd,.string log,.int .i64 syn] 25)).alloc (.cells #[.slice M R.es.length N,.bool R.sh,.int .i64 R.lv] 56)).alloc (.cells #[.int .i64 (kn7 o),.string o.text,.string o.val] 27)) (.cells #[.string ⟨#[]⟩,.slice none 0 0,.string ⟨#[]⟩,.int .i64 0] 25);rw[World.size_alloc,World.size_alloc,World.size_alloc]at h;exact h
 have HL:Hid (∀ u,Below w.heap.size w u->Rws u Bl (.slice ar l.length cr) l):=fun u hu=>hl.below hu
 have s:Hid (W0=(((w.alloc (.cells #[.string r,.slice ad na cd,.string log,.int .i64 syn] 25)).alloc (.cells #[.slice M R.es.length N,.bool R.sh,.int .i64 R.lv] 56)).alloc (.cells #[.int .i64 J,.string o.text,.string o.val] 27)).alloc (.cells #[.string ⟨#[]⟩,.slice none 0 0,.string ⟨#[]⟩,.int .i64 0] 25)):=by rw[a9];exact Y
 obtain⟨Be,ap⟩:=H.out.ents;have g:=Eg o.text aw ap av;obtain⟨an,u0,u1,u2⟩:=H.out.rul.facts;obtain⟨n,t,x,y⟩:=H.out.dob.facts;have a8:=hZ aq;have D:Hid (J=kn7 o):=a9;rw[<- a9];clear hE hl aq aj Y ap a9
 cases hfit:iz R o.text
 .have j:Hid (wrC R l log o=(2,log)):=by show _=_;unfold wrC;rw[ud (by rw[hfit];rfl),if_neg (by decide)]
  rw[hfit]at g;generalize (if o.text.size<=60 then dx R o.text else ⟨#[]⟩)=G at g;clear hfit D;go_enter func37,ntmps37;go_upto_region 1 with fail
  rw[<- s.out];clear s;go_wp2_with fail;refine g.mono ?_;rintro e K ⟨rfl,d⟩;have a:=hZ (H.out.below d);obtain⟨n,t,x,y⟩:=a.out.dob.facts;clear g d;obtain⟨P,T,U,V,W,X⟩:=a.out.ans.facts;obtain⟨a1,aa,ab,ae,af,ag⟩:=a.out.disk.facts;have i:Hid (Below _ _ _):=je (p:=w.heap.size+3) a.out.bel (by omega) (.string r) (.slice ad na cd) (.string log) (.int .i64 syn);go_wp2;refine bodyPost_ret (v:=.tuple #[.agg #[.string r,.slice ad na cd,.string log,.int .i64 syn],.int .i64 2]) ?_ rfl ⟨by rw[j.out],i.out⟩;rw[results_cell_tmp rfl];go_simp
 .obtain⟨am,aC⟩:=qe hfit
  rw[if_pos am,hfit]at g;obtain⟨G,Q⟩:∃ G,G=dx R o.text:=⟨_,rfl⟩
  rw[<- Q]at g;by_cases Z:¬ o.val.size<=60
  .have j:Hid (wrC R l log o=(2,log)):=by show _=_;unfold wrC;rw[ud (by rw[hfit,decide_eq_false Z];rfl),if_neg (by decide)]
   have aA:(60:Int)<(o.val.size:Int):=by omega
   clear hfit Q D;go_enter func37,ntmps37;go_upto_region 1 with fail
   rw[<- s.out];clear s;go_wp2_with fail;refine g.mono ?_;rintro e K ⟨rfl,d⟩;have a:=hZ (H.out.below d);obtain⟨n,t,x,y⟩:=a.out.dob.facts;clear g d;obtain⟨P,T,U,V,W,X⟩:=a.out.ans.facts;obtain⟨a1,aa,ab,ae,af,ag⟩:=a.out.disk.facts;have i:Hid (Below _ _ _):=je (p:=w.heap.size+3) a.out.bel (by omega) (.string r) (.slice ad na cd) (.string log) (.int .i64 syn);go_wp2;refine bodyPost_ret (v:=.tuple #[.agg #[.string r,.slice ad na cd,.string log,.int .i64 syn],.int .i64 2]) ?_ rfl ⟨by rw[j.out],i.out⟩;rw[results_cell_tmp rfl];go_simp
  .replace Z:o.val.size<=60:=Decidable.not_not.1 Z
   have aA:¬ (60:Int)<(o.val.size:Int):=by omega
   have a6:(iz R o.text && decide (o.val.size<=60))=true:=by rw[hfit,decide_eq_true Z];rfl
   have k:=fun (u:World) (hu:Below w.heap.size w u)=>Fg (c:=cr) G (ja (HL.out u hu)) (by have:=a8.out.len;omega) a8.out.rise
   have O:Hid (∀ u,Below w.heap.size w u->(∃ B,ac u B (.slice M R.es.length N) R.es)->Calls prog 79 #[.agg #[.slice M R.es.length N,.bool R.sh,.int .i64 R.lv],.slice ar l.length cr,.agg #[.int .i64 J,.string o.text,.string o.val]] u fun e w'=>∃ v,e=.returned (.tuple #[v,.bool (decide (apC R l o=0))])/\(apC R l o=0->Rws w' u.heap.size v (apR R l o))/\Below u.heap.size u w'):=fun u hu ⟨_,q⟩=>by rw[D.out];exact It o aw Z q av (HL.out u hu) a8.out.rise a8.out.len
   have a4:Hid (∀ u,Calls prog 83 #[.agg #[.int .i64 J,.string o.text,.string o.val]] u fun e w'=>e=.returned (.string (js o))/\Below u.heap.size u w'):=fun u=>by rw[D.out];exact Vh u o am Z
   have aE:=b11 am Z;have a5:Hid (apC R l o=0->(apR R l o).length<=60):=fun h=>(a8.out.step h).len
   cases hput:o.put
   .have I:=Hh (l:=l) a6 hput
    have ak:J=2:=by rw[D.out];unfold kn7;rw[hput];rfl
    rw[<- Q]at I;subst ak
    cases hth:di l G
    .have j:Hid (wrC R l log o=(4,log)):=by show _=_;unfold wrC;rw[I,hth,if_neg (by decide),if_neg (by decide)]
     rw[hth]at k;generalize ba l G=p at k;clear hfit Q D a6 I hth hput O a4 a5;go_enter func37,ntmps37;go_upto_region 1 with fail
     rw[<- s.out];clear s;go_wp2_with fail;refine g.mono ?_;rintro e K ⟨rfl,d⟩;have a:=hZ (H.out.below d);obtain⟨n,t,x,y⟩:=a.out.dob.facts;have z:=k K a.out.bel;clear g d k;go_wp2_with fail;refine z.mono ?_;rintro e w2 ⟨rfl,C⟩;have b:=hZ (a.out.below C);obtain⟨n,t,x,y⟩:=b.out.dob.facts;clear z C;obtain⟨P,T,U,V,W,X⟩:=b.out.ans.facts;obtain⟨a1,aa,ab,ae,af,ag⟩:=b.out.disk.facts;have i:Hid (Below _ _ _):=je (p:=w.heap.size+3) b.out.bel (by omega) (.string r) (.slice ad na cd) (.string log) (.int .i64 syn);go_wp2;refine bodyPost_ret (v:=.tuple #[.agg #[.string r,.slice ad na cd,.string log,.int .i64 syn],.int .i64 4]) ?_ rfl ⟨by rw[j.out],i.out⟩;rw[results_cell_tmp rfl];go_simp
    .have f:apC R l o=0:=by rw[I,hth];rfl
     rw[hth]at k;generalize ba l G=p at k;clear hfit Q D a6 I hth hput;have a7:Hid (decide (apC R l o=0)=true):=decide_eq_true f;have a2:Hid ((apR R l o).length<=60):=a5.out f;have F:Hid (wrC R l log o=if log.size+(js o).size<=6000 then (0,log++js o) else (3,log)):=by show _=_;unfold wrC;rw[if_pos f]
     have ah:Hid (apC R l o=0):=f;clear f a5;go_enter func37,ntmps37;go_upto_region 1 with fail
     rw[<- s.out];clear s;go_wp2_with fail;refine g.mono ?_;rintro e K ⟨rfl,d⟩;have a:=hZ (H.out.below d);obtain⟨n,t,x,y⟩:=a.out.dob.facts;have z:=k K a.out.bel;clear g d k;go_wp2_with fail;refine z.mono ?_;rintro e w2 ⟨rfl,C⟩;have b:=hZ (a.out.below C);obtain⟨n,t,x,y⟩:=b.out.dob.facts;obtain⟨an,u0,u1,u2⟩:=b.out.rul.facts;have A:=O.out w2 b.out.bel b.out.ents;rw[a7.out]at A;clear z C O;go_wp2_with fail;refine A.mono ?_;rintro e w3 ⟨v3,rfl,r3,L⟩;obtain⟨a3,c3,ao⟩:=db (r3 ah.out);subst ao;have E:=hZ (b.out.below L);obtain⟨n,t,x,y⟩:=E.out.dob.facts;have az:=a2.out;generalize (apR R l o).length=ln at *
     have al:¬ (60:Int)<(ln:Int):=by omega
     have BY:=a4.out w3;generalize js o=rb at *;clear A r3 L a4;go_wp2_with fail;refine BY.mono ?_;rintro e w4 ⟨rfl,b4⟩;have m:=hZ (E.out.below b4);obtain⟨ay,d0,d1,d2,d3,df⟩:=m.out.disk.facts;clear BY b4;by_cases h6:log.size+rb.size<=6000
     .have ai:¬ (6000:Int)<(log.size:Int)+(rb.size:Int):=by omega
      have j:Hid (wrC R l log o=(0,log++rb)):=by show _=_;rw[F.out,if_pos h6]
      obtain⟨S,a0⟩:∃ S,S=log++rb:=⟨_,rfl⟩
      have ax:Hid (S=log++rb):=a0;obtain⟨k1,k2,k3⟩:=m.out.log (log++rb);have i:Hid (Below _ _ _):=je (p:=w.heap.size+3) k3 (by omega) (.string r) (.slice ad na cd) (.string (log++rb)) (.int .i64 syn);obtain⟨P,T,U,V,W,X⟩:=m.out.ans.facts;clear k1 k2 k3 F a0;go_wp2;refine bodyPost_ret (v:=.tuple #[.agg #[.string r,.slice ad na cd,.string (log++rb),.int .i64 syn],.int .i64 0]) ?_ rfl ⟨by rw[j.out],i.out⟩;rw[results_cell_tmp rfl];go_simp
     .have ai:(6000:Int)<(log.size:Int)+(rb.size:Int):=by omega
      have j:Hid (wrC R l log o=(3,log)):=by show _=_;rw[F.out,if_neg h6]
      clear F;obtain⟨P,T,U,V,W,X⟩:=m.out.ans.facts;obtain⟨a1,aa,ab,ae,af,ag⟩:=m.out.disk.facts;have i:Hid (Below _ _ _):=je (p:=w.heap.size+3) m.out.bel (by omega) (.string r) (.slice ad na cd) (.string log) (.int .i64 syn);go_wp2;refine bodyPost_ret (v:=.tuple #[.agg #[.string r,.slice ad na cd,.string log,.int .i64 syn],.int .i64 3]) ?_ rfl ⟨by rw[j.out],i.out⟩;rw[results_cell_tmp rfl];go_simp
   .have I:=Km (l:=l) a6 hput
    have ak:J=1:=by rw[D.out];unfold kn7;rw[hput];rfl
    subst ak;generalize di l G=th at k;generalize ba l G=p at k;by_cases f:apC R l o=0
    .clear hfit Q D a6 I hput
     have a7:Hid (decide (apC R l o=0)=true):=decide_eq_true f;have a2:Hid ((apR R l o).length<=60):=a5.out f;have F:Hid (wrC R l log o=if log.size+(js o).size<=6000 then (0,log++js o) else (3,log)):=by show _=_;unfold wrC;rw[if_pos f]
     have ah:Hid (apC R l o=0):=f;clear f a5;go_enter func37,ntmps37;go_upto_region 1 with fail
     rw[<- s.out];clear s;go_wp2_with fail;refine g.mono ?_;rintro e K ⟨rfl,d⟩;have a:=hZ (H.out.below d);obtain⟨n,t,x,y⟩:=a.out.dob.facts;have z:=k K a.out.bel;clear g d k;go_wp2_with fail;refine z.mono ?_;rintro e w2 ⟨rfl,C⟩;have b:=hZ (a.out.below C);obtain⟨n,t,x,y⟩:=b.out.dob.facts;obtain⟨an,u0,u1,u2⟩:=b.out.rul.facts;have A:=O.out w2 b.out.bel b.out.ents;rw[a7.out]at A;clear z C O;go_wp2_with fail;refine A.mono ?_;rintro e w3 ⟨v3,rfl,r3,L⟩;obtain⟨a3,c3,ao⟩:=db (r3 ah.out);subst ao;have E:=hZ (b.out.below L);obtain⟨n,t,x,y⟩:=E.out.dob.facts;have az:=a2.out;generalize (apR R l o).length=ln at *
     have al:¬ (60:Int)<(ln:Int):=by omega
     have BY:=a4.out w3;generalize js o=rb at *;clear A r3 L a4;go_wp2_with fail;refine BY.mono ?_;rintro e w4 ⟨rfl,b4⟩;have m:=hZ (E.out.below b4);obtain⟨ay,d0,d1,d2,d3,df⟩:=m.out.disk.facts;clear BY b4;by_cases h6:log.size+rb.size<=6000
     .have ai:¬ (6000:Int)<(log.size:Int)+(rb.size:Int):=by omega
      have j:Hid (wrC R l log o=(0,log++rb)):=by show _=_;rw[F.out,if_pos h6]
      obtain⟨S,a0⟩:∃ S,S=log++rb:=⟨_,rfl⟩
      have ax:Hid (S=log++rb):=a0;obtain⟨k1,k2,k3⟩:=m.out.log (log++rb);have i:Hid (Below _ _ _):=je (p:=w.heap.size+3) k3 (by omega) (.string r) (.slice ad na cd) (.string (log++rb)) (.int .i64 syn);obtain⟨P,T,U,V,W,X⟩:=m.out.ans.facts;clear k1 k2 k3 F a0;go_wp2;refine bodyPost_ret (v:=.tuple #[.agg #[.string r,.slice ad na cd,.string (log++rb),.int .i64 syn],.int .i64 0]) ?_ rfl ⟨by rw[j.out],i.out⟩;rw[results_cell_tmp rfl];go_simp
     .have ai:(6000:Int)<(log.size:Int)+(rb.size:Int):=by omega
      have j:Hid (wrC R l log o=(3,log)):=by show _=_;rw[F.out,if_neg h6]
      clear F;obtain⟨P,T,U,V,W,X⟩:=m.out.ans.facts;obtain⟨a1,aa,ab,ae,af,ag⟩:=m.out.disk.facts;have i:Hid (Below _ _ _):=je (p:=w.heap.size+3) m.out.bel (by omega) (.string r) (.slice ad na cd) (.string log) (.int .i64 syn);go_wp2;refine bodyPost_ret (v:=.tuple #[.agg #[.string r,.slice ad na cd,.string log,.int .i64 syn],.int .i64 3]) ?_ rfl ⟨by rw[j.out],i.out⟩;rw[results_cell_tmp rfl];go_simp
    .have au:apC R l o=3:=by rw[I]at f ⊢;split at f;exact absurd rfl f;rename_i q;rw[if_neg q]
     have j:Hid (wrC R l log o=(3,log)):=by show _=_;unfold wrC;rw[au,if_neg (by decide)]
     have a7:Hid (decide (apC R l o=0)=false):=decide_eq_false f;clear hfit Q D a6 I hput au f a4 a5;go_enter func37,ntmps37;go_upto_region 1 with fail
     rw[<- s.out];clear s;go_wp2_with fail;refine g.mono ?_;rintro e K ⟨rfl,d⟩;have a:=hZ (H.out.below d);obtain⟨n,t,x,y⟩:=a.out.dob.facts;have z:=k K a.out.bel;clear g d k;go_wp2_with fail;refine z.mono ?_;rintro e w2 ⟨rfl,C⟩;have b:=hZ (a.out.below C);obtain⟨n,t,x,y⟩:=b.out.dob.facts;obtain⟨an,u0,u1,u2⟩:=b.out.rul.facts;have A:=O.out w2 b.out.bel b.out.ents;rw[a7.out]at A;clear z C O;go_wp2_with fail;refine A.mono ?_;rintro e w3 ⟨v3,rfl,r3,L⟩;have E:=hZ (b.out.below L);clear A r3 L;obtain⟨P,T,U,V,W,X⟩:=E.out.ans.facts;obtain⟨a1,aa,ab,ae,af,ag⟩:=E.out.disk.facts
     have i:Hid (Below _ _ _):=je (p:=w.heap.size+3) E.out.bel (by omega) (.string r) (.slice ad na cd) (.string log) (.int .i64 syn);go_wp2;refine bodyPost_ret (v:=.tuple #[.agg #[.string r,.slice ad na cd,.string log,.int .i64 syn],.int .i64 3]) ?_ rfl ⟨by rw[j.out],i.out⟩;rw[results_cell_tmp rfl];go_simp
theorem aq2 {w:World} {B c:Nat} {a:Option Addr} {l:List Rw}(h:Rws w B (.slice a l.length c) l):l.length<=c/\c<=9223372036854775807:=by
 rcases h.form with ⟨d,e⟩|⟨g,i,d,e,b⟩
 .injection d with _ _ b
  subst b;subst e;exact⟨bR,by omega⟩
 .injection d with _ _ f
  subst f;exact⟨e,by unfold maxLen at b;exact b⟩
theorem Xv {w:World} {B c:Nat} {a:Option Addr} {l:List Rw}(d:Rws w B (.slice a l.length c) l) (b:da l=true) :
  Calls prog 36 #[.slice a l.length c] w fun e w'=>∃ v,e=.returned (.tuple #[v,.bool (mc l).isSome])/\(∀ pp,mc l=some pp->ah w' w.heap.size v pp)/\Below w.heap.size w w':=by
 obtain⟨k,m⟩:=aq2 d;refine (To (ja d) b k m).mono fun e w' ⟨v,he,hs,hb⟩=>⟨v,?_,fun pp hp=>?_,hb⟩
 .rw[he,<- Kp b]
  cases hc:nl l with
  | none=>rw[uv hc];rfl
  | some gs=>rw[uw hc];rfl
 .cases hc:nl l with
  | none=>rw[uv hc]at hp;cases hp
  | some gs =>
   rw[uw hc]at hp;obtain⟨_,h⟩:=Kq hc;have j:scF [] l=some gs:=ag5 (by rw[<- Kp b];exact hc);have i:gs.map pgT=gs.map pbT:=List.map_congr_left fun g hgm=>(a96 (h g hgm)).symm
   have f:=hs gs j;rw[i]at f
   cases hp
   exact f
def Dl (w:World) (P:Int × Ds7) (e:Ending) (w':World):Prop :=
 ∃ vp,e=.returned (.tuple #[.agg #[.string P.2.r,vp,.string P.2.log,.int .i64 P.2.syn],.int .i64 P.1])/\ah w' w.heap.size vp P.2.ss/\Below w.heap.size w w'
theorem Cf {d:Ds7} {k:Int} {x v:ByteArray}(h:fb d=none):do7 d k x v=(1,zD7):=by unfold do7;rw[h]
theorem rx {d:Ds7} {l:List Rw} {k:Int} {x v:ByteArray}(h:fb d=some l) (a:¬ (lq d && er k x v)=true):do7 d k x v=(1,zD7):=by
 unfold do7;rw[h];show (if _ then _ else _)=_
 rw[if_neg a]
theorem Ce {d:Ds7} {l:List Rw} {k:Int} {x v:ByteArray}(h:fb d=some l) (b:lq d=true) (a:er k x v=true):do7 d k x v=doL d l k x v:=by
 unfold do7;rw[h];show (if _ then _ else _)=_
 rw[if_pos (by rw[b,a];rfl)]
theorem Lp {d:Ds7} {l:List Rw} {k:Int} {x v:ByteArray}(a:k≠3) (b:k≠4):doL d l k x v=((wrC (ab d.r) l d.log (dn7 k x v)).1,{ d with log:=(wrC (ab d.r) l d.log (dn7 k x v)).2 }):=by
 unfold doL wrC;rw[if_neg a,if_neg b];split
 .split <;> rfl
 .rfl
structure Hd9 (w u:World) (br:Nat) (d:Ds7) (vp ve vr:Value) (R:RA) (l:List Rw) (k:Int) (x v:ByteArray):Prop where
 disk:an u w.heap.size d.r vp d.log d.syn
 dob:fo u (w.heap.size+1) k x v
 ans:an u (w.heap.size+2) ⟨#[]⟩ (.slice none 0 0) ⟨#[]⟩ 0
 rul:lr u br ve R.sh R.lv
 ents:ac u w.heap.size ve R.es
 rows:Rws u w.heap.size vr l
 bel:Below w.heap.size w u
 hbr:w.heap.size+2<br
theorem Hd9.below {w u u':World} {b:Nat} {d:Ds7} {e c vr:Value} {R:RA} {l:List Rw} {k:Int} {x v:ByteArray}(h:Hd9 w u b d e c vr R l k x v) (a:Below u.heap.size u u'):Hd9 w u' b d e c vr R l k x v :=
 ⟨h.disk.below a,h.dob.below a,h.ans.below a,h.rul.below a,h.ents.below a,h.rows.below a,h.bel.trans (a.mono h.bel.size),h.hbr⟩
theorem dn {u u':World} {p q:Nat} {cs:Array Value} {t:TypeId}(g:u.grownBy u' (some q)) (a:p≠q) (h:u.heap[p]? = some (.cells cs t (0,0))):u'.heap[p]? = some (.cells cs t (0,0)) :=
 (g.block p (Array.getElem?_eq_some_iff.1 h).1 (fun e=>a (Option.some.inj e))).trans h
theorem Hd9.own {w u:World} {b:Nat} {d:Ds7} {e c vr:Value} {R:RA} {l:List Rw} {k:Int} {x v:ByteArray}(h:Hd9 w u b d e c vr R l k x v) (a:Value):Hd9 w (s4D u w.heap.size (.string d.r) a (.string d.log) (.int .i64 d.syn)) b d a c vr R l k x v :=
 have g:=ku u w.heap.size (.string d.r) a (.string d.log) (.int .i64 d.syn);have f:=h.hbr;⟨Fo h.disk _ _ _ _,dn g (by omega) h.dob,dn g (by omega) h.ans,dn g (by omega) h.rul,h.ents.boxT h.disk (by decide) (by decide) g,h.rows.box h.disk (by decide) g,je h.bel bR _ _ _ _,h.hbr⟩
theorem lc {w u:World} {a:Value} {ss:List ByteArray}(b:an u (w.heap.size+2) ⟨#[]⟩ (.slice none 0 0) ⟨#[]⟩ 0) (c:Below w.heap.size w u) (d:ah u w.heap.size a ss) (r log:ByteArray) (syn:Int) :
  ah (s4D u (w.heap.size+2) (.string r) a (.string log) (.int .i64 syn)) w.heap.size a ss/\Below w.heap.size w (s4D u (w.heap.size+2) (.string r) a (.string log) (.int .i64 syn)) :=
 ⟨d.box b (by decide) (ku u (w.heap.size+2) (.string r) a (.string log) (.int .i64 syn)),je c (by omega) _ _ _ _⟩
theorem dz (u:World) (B:Nat):ah u B (.slice none 0 0) []:=World.ownsRow_nil _ _ _ _
theorem ny {x:ByteArray}(h:¬ x.size=0):x.toList.isEmpty=false/\(x.toList == [])=false/\(x.toList != [])=true:=by
 have a:x.toList.isEmpty=false:=by rw[Ea];exact decide_eq_false h
 have b:x.toList≠[]:=fun c=>by rw[c]at a;cases a
 exact⟨a,by simpa using b,by simpa using b⟩
theorem wd {x:ByteArray}(h:x.size=0):x=⟨#[]⟩:=by
 rcases x with ⟨⟨l⟩⟩
 cases l with
 | nil=>rfl
 | cons a l=>simp[ByteArray.size]at h
theorem bh4 {w:World} {B:Nat} {vd:Value} {d:Ds7}(x v:ByteArray) (hx:x.size<=1048576) (hv:v.size<=1048576) (F:Dk7 w B vd d) :
  Calls prog 8 #[.agg #[.string d.r,vd,.string d.log,.int .i64 d.syn],.agg #[.int .i64 1,.string x,.string v]] w fun e w'=>Dl w (do7 d 1 x v) e w':=by
 obtain⟨ad,cd,aD⟩:=F.form;subst aD;obtain⟨W0,t⟩:∃ W0,W0=((w.alloc (.cells #[.string d.r,.slice ad d.ss.length cd,.string d.log,.int .i64 d.syn] 25)).alloc (.cells #[.int .i64 1,.string x,.string v] 27)).alloc (.cells #[.string ⟨#[]⟩,.slice none 0 0,.string ⟨#[]⟩,.int .i64 0] 25):=⟨_,rfl⟩
 have aa:Below w.heap.size w W0:=by rw[t];exact ((bY _).alloc (by simp) _).alloc (by simp;omega) _
 have aJ:W0.heap.size=w.heap.size+3:=by rw[t];simp
 have ae:an W0 w.heap.size d.r (.slice ad d.ss.length cd) d.log d.syn:=by
  show _=_
  rw[t,Below.heap_alloc _ _ _ (by simp;omega),Below.heap_alloc _ _ _ (by simp)];exact heap_alloc_new w _
 have ag:fo W0 (w.heap.size+1) 1 x v:=by
  show _=_
  rw[t,Below.heap_alloc _ _ _ (by simp)];have h:=heap_alloc_new (w.alloc (.cells #[.string d.r,.slice ad d.ss.length cd,.string d.log,.int .i64 d.syn] 25)) (.cells #[.int .i64 1,.string x,.string v] 27);rw[World.size_alloc]at h;exact h
 have aA:an W0 (w.heap.size+2) ⟨#[]⟩ (.slice none 0 0) ⟨#[]⟩ 0:=by
  show _=_
  rw[t];have h:=heap_alloc_new ((w.alloc (.cells #[.string d.r,.slice ad d.ss.length cd,.string d.log,.int .i64 d.syn] 25)).alloc (.cells #[.int .i64 1,.string x,.string v] 27)) (.cells #[.string ⟨#[]⟩,.slice none 0 0,.string ⟨#[]⟩,.int .i64 0] 25);rw[World.size_alloc,World.size_alloc]at h;exact h
 have D:=sg (F.below aa);have H:Hid (∀ u,Below w.heap.size w u->Dk7 u B (.slice ad d.ss.length cd) d):=fun u hu=>F.below hu
 have HW:Hid (W0=((w.alloc (.cells #[.string d.r,.slice ad d.ss.length cd,.string d.log,.int .i64 d.syn] 25)).alloc (.cells #[.int .i64 1,.string x,.string v] 27)).alloc (.cells #[.string ⟨#[]⟩,.slice none 0 0,.string ⟨#[]⟩,.int .i64 0] 25)):=t;have z:Hid (Below w.heap.size w W0):=aa;have a5:Hid (an W0 w.heap.size d.r (.slice ad d.ss.length cd) d.log d.syn):=ae;have V:Hid (fo W0 (w.heap.size+1) 1 x v):=ag;have a4:Hid (an W0 (w.heap.size+2) ⟨#[]⟩ (.slice none 0 0) ⟨#[]⟩ 0):=aA;obtain⟨a1,d0,d1,d2,d3,df⟩:=ae.facts;obtain⟨M,R,S,T⟩:=ag.facts;have aH:=F.ok.log;have W:Hid (Ok7 d):=F.ok;have U:Hid (∀ u,Calls prog 34 #[.int .i64 1,.int .i64 1,.int .i64 4] u fun e w'=>e=.returned (.bool true)/\w'=u):=fun u=>by
  have q:=Bk u 1 1 4;rw[decide_eq_true (by decide)]at q;exact q
 clear F aa ae ag aA t
 cases ho:fb d with
 | none =>
  have N:Hid (do7 d 1 x v=(1,zD7)):=Cf ho;rw[ho]at D;have I:Calls prog 32 #[.agg #[.string d.r,(.slice ad d.ss.length cd),.string d.log,.int .i64 d.syn]] W0 fun e w'=>∃ y a,e=.returned (.tuple #[.agg #[y,.bool (ab d.r).sh,.int .i64 (ab d.r).lv],a,.bool false])/\ac w' W0.heap.size y (ab d.r).es/\Rws w' W0.heap.size a []/\Below W0.heap.size W0 w':=D
  clear D ho H U W;go_enter func8,ntmps8;go_upto_region 1 with fail
  rw[<- HW.out];clear HW;go_wp2_with fail;refine I.mono ?_;rintro e b ⟨y,a,rfl,E,Q,c⟩;obtain⟨k,m,ai⟩:=ef E;subst ai;have a9:=a4.out.below c;have aB:=z.out.trans (c.mono z.out.size);obtain⟨M,R,S,T⟩:=(V.out.below c).facts;obtain⟨a0,ak,al,am,ao,aq⟩:=a9.facts;obtain⟨p,j⟩:=lc a9 aB (dz _ _) ⟨#[]⟩ ⟨#[]⟩ 0;have G:Hid (∀ o,Below w.heap.size w ((s4D b (w.heap.size+2) (.string ⟨#[]⟩) (.slice none 0 0) (.string ⟨#[]⟩) (.int .i64 0)).alloc o)):=fun o=>j.alloc j.size o
  clear p j I E Q c a9 aB;go_wp2;refine bodyPost_ret (v:=.tuple #[.agg #[.string ⟨#[]⟩,.slice none 0 0,.string ⟨#[]⟩,.int .i64 0],.int .i64 1]) ?_ rfl ?_
  .rw[results_cell_tmp rfl]
   go_simp
  .rw[N.out]
   exact⟨.slice none 0 0,rfl,dz _ _,G.out _⟩
 | some l =>
  have s:Hid (fb d=some l):=ho;rw[ho]at D;have I:Calls prog 32 #[.agg #[.string d.r,(.slice ad d.ss.length cd),.string d.log,.int .i64 d.syn]] W0 fun e w'=>∃ y a,e=.returned (.tuple #[.agg #[y,.bool (ab d.r).sh,.int .i64 (ab d.r).lv],a,.bool true])/\ac w' W0.heap.size y (ab d.r).es/\Rws w' W0.heap.size a l/\Below W0.heap.size W0 w':=D
  clear D ho;go_enter func8,ntmps8;go_upto_region 1 with fail
  rw[<- HW.out];clear HW;go_wp2_with fail;refine I.mono ?_;rintro e b ⟨y,a,rfl,E,Q,c⟩;obtain⟨k,m,ai⟩:=ef E;subst ai;obtain⟨ar,cr,aF⟩:=db Q;obtain⟨w2,a2⟩:∃ w2,w2=b.alloc (.cells #[.slice k (ab d.r).es.length m,.bool (ab d.r).sh,.int .i64 (ab d.r).lv] 56):=⟨_,rfl⟩
  have a8:Hid (w2=b.alloc (.cells #[.slice k (ab d.r).es.length m,.bool (ab d.r).sh,.int .i64 (ab d.r).lv] 56)):=a2;have X:Below b.heap.size b w2:=by rw[a2];exact bY _
  have J:=c.trans (X.mono c.size);have af:Hd9 w w2 b.heap.size d (.slice ad d.ss.length cd) (.slice k (ab d.r).es.length m) a (ab d.r) l 1 x v:=⟨a5.out.below J,V.out.below J,a4.out.below J,by show _=_;rw[a2];exact heap_alloc_new b _,(ac.low E z.out.size).below X,(ff Q z.out.size).below X,z.out.trans (J.mono z.out.size),by have:=c.size;omega⟩;have C:=wk (H.out w2 af.bel);have a6:Hid (Hd9 w w2 b.heap.size d (.slice ad d.ss.length cd) (.slice k (ab d.r).es.length m) a (ab d.r) l 1 x v):=af;obtain⟨a1,d0,d1,d2,d3,df⟩:=(a5.out.below c).facts;obtain⟨M,R,S,T⟩:=(V.out.below c).facts;clear I E Q c X J a2 af a5 V a4
  cases hsy:lq d
  .have N:Hid (do7 d 1 x v=(1,zD7)):=rx s.out (by rw[hsy];simp)
   have L:(ch d).isSome=false:=by unfold ch;rw[if_neg (by rw[hsy];simp)];rfl
   rw[L]at C;clear hsy L U H W s;go_wp2_with fail;rw[<- a8.out];refine C.mono ?_;rintro e w3 ⟨rfl,O⟩;have K:=a6.out.below O;obtain⟨M,R,S,T⟩:=K.dob.facts;obtain⟨a0,ak,al,am,ao,aq⟩:=K.ans.facts;obtain⟨p,j⟩:=lc K.ans K.bel (dz _ _) ⟨#[]⟩ ⟨#[]⟩ 0;have a7:Hid (ah _ _ _ _):=p;have G:Hid (Below _ _ _):=j;clear p j K O C;go_wp2;refine bodyPost_ret (v:=.tuple #[.agg #[.string ⟨#[]⟩,.slice none 0 0,.string ⟨#[]⟩,.int .i64 0],.int .i64 1]) ?_ rfl ?_
   .rw[results_cell_tmp rfl]
    go_simp
   .rw[N.out]
    exact⟨.slice none 0 0,rfl,a7.out,G.out⟩
  .have L:(ch d).isSome=true:=by unfold ch;rw[if_pos hsy,s.out];rfl
   rw[L]at C;have ax:Hid (lq d=true):=hsy;clear hsy L;go_wp2_with fail;rw[<- a8.out];refine C.mono ?_;rintro e w3 ⟨rfl,O⟩;have A:Hid (Hd9 w w3 b.heap.size d (.slice ad d.ss.length cd) (.slice k (ab d.r).es.length m) a (ab d.r) l 1 x v):=a6.out.below O;have IN:=U.out w3;obtain⟨M,R,S,T⟩:=A.out.dob.facts;clear C O a6 a8 U;go_wp2_with fail;refine IN.mono ?_;rintro e aK ⟨rfl,aj⟩;replace aj:=aj.symm;subst aj;clear IN;have av:Hid (do7 d 1 x v=doL d l 1 x v):=Ce s.out ax.out (by rfl);have OW:=Cw (H.out w3 A.out.bel);obtain⟨a1,d0,d1,d2,d3,df⟩:=A.out.disk.facts;clear ax H;go_wp2_with fail;refine OW.mono ?_;rintro e w4 ⟨vp,rfl,s4,b4⟩;obtain⟨f,g,aE⟩:=eu s4;subst aE;have Y:=A.out.below b4;obtain⟨n,a3⟩:∃ n,n=s4D w4 w.heap.size (.string d.r) (.slice f d.ss.length g) (.string d.log) (.int .i64 d.syn):=⟨_,rfl⟩
   have i:Hd9 w n b.heap.size d (.slice f d.ss.length g) (.slice k (ab d.r).es.length m) a (ab d.r) l 1 x v:=by rw[a3];exact Y.own _
   have aw:Hid (ah n w.heap.size (.slice f d.ss.length g) d.ss):=by rw[a3];exact (ji s4 A.out.bel.size).box Y.disk (by decide) (ku _ _ _ _ _ _)
   have ay:Hid ((((w4.setCell ⟨w.heap.size,0,none⟩ (.string d.r)).setCell ⟨w.heap.size,1,none⟩ (.slice f d.ss.length g)).setCell ⟨w.heap.size,2,none⟩ (.string d.log)).setCell ⟨w.heap.size,3,none⟩ (.int .i64 d.syn)=n):=a3.symm;have au:Hid (Hd9 w n b.heap.size d (.slice f d.ss.length g) (.slice k (ab d.r).es.length m) a (ab d.r) l 1 x v):=i;obtain⟨a1,d0,d1,d2,d3,df⟩:=Y.disk.facts;clear OW s4 b4 a3 A Y;go_upto_region 6 with fail
   rw[ay.out];clear ay;have aG:=i.hbr;obtain⟨a1,d0,d1,d2,d3,df⟩:=i.disk.facts;obtain⟨M,R,S,T⟩:=i.dob.facts;obtain⟨a0,ak,al,am,ao,aq⟩:=i.ans.facts;obtain⟨aI,u0,u1,u2⟩:=i.rul.facts;have WR:=Kk (ad:=f) (na:=d.ss.length) (cd:=g) d.r d.log d.syn (dn7 1 x v) (by omega) hx hv i.ents (At s.out) i.rows (qi W.out s.out);have az:Calls prog 37 #[.agg #[.string d.r,.slice f d.ss.length g,.string d.log,.int .i64 d.syn],.agg #[(.slice k (ab d.r).es.length m),.bool (ab d.r).sh,.int .i64 (ab d.r).lv],a,.agg #[.int .i64 1,.string x,.string v]] n fun e w'=>e=.returned (.tuple #[.agg #[.string d.r,.slice f d.ss.length g,.string (wrC (ab d.r) l d.log (dn7 1 x v)).2,.int .i64 d.syn],.int .i64 (wrC (ab d.r) l d.log (dn7 1 x v)).1])/\Below n.heap.size n w':=WR
   have N:Hid (do7 d 1 x v=((wrC (ab d.r) l d.log (dn7 1 x v)).1,{ d with log:=(wrC (ab d.r) l d.log (dn7 1 x v)).2 })):=by show _=_;rw[av.out,Lp (by decide) (by decide)]
   generalize wrC (ab d.r) l d.log (dn7 1 x v)=P at *;obtain⟨aC,lg⟩:=P;subst aF;clear WR i av s W;go_wp2_with fail;refine az.mono ?_;rintro e w6 ⟨rfl,b6⟩;have Z:=au.out.below b6;obtain⟨p,j⟩:=lc Z.ans Z.bel (aw.out.below b6) d.r lg d.syn;have a7:Hid (ah _ _ _ _):=p;have G:Hid (Below _ _ _):=j;obtain⟨a0,ak,al,am,ao,aq⟩:=Z.ans.facts;clear az b6 Z p j aw au;go_wp2;refine bodyPost_ret (v:=.tuple #[.agg #[.string d.r,(.slice f d.ss.length g),.string lg,.int .i64 d.syn],.int .i64 aC]) ?_ rfl ?_
   .rw[results_cell_tmp rfl]
    go_simp
   .rw[N.out]
    exact⟨(.slice f d.ss.length g),rfl,a7.out,G.out⟩
theorem bh5 {w:World} {B:Nat} {vd:Value} {d:Ds7}(x v:ByteArray) (hx:x.size<=1048576) (hv:v.size<=1048576) (G:Dk7 w B vd d) :
  Calls prog 8 #[.agg #[.string d.r,vd,.string d.log,.int .i64 d.syn],.agg #[.int .i64 2,.string x,.string v]] w fun e w'=>Dl w (do7 d 2 x v) e w':=by
 obtain⟨ad,cd,aE⟩:=G.form;subst aE;obtain⟨W0,z⟩:∃ W0,W0=((w.alloc (.cells #[.string d.r,.slice ad d.ss.length cd,.string d.log,.int .i64 d.syn] 25)).alloc (.cells #[.int .i64 2,.string x,.string v] 27)).alloc (.cells #[.string ⟨#[]⟩,.slice none 0 0,.string ⟨#[]⟩,.int .i64 0] 25):=⟨_,rfl⟩
 have al:Below w.heap.size w W0:=by rw[z];exact ((bY _).alloc (by simp) _).alloc (by simp;omega) _
 have aK:W0.heap.size=w.heap.size+3:=by rw[z];simp
 have am:an W0 w.heap.size d.r (.slice ad d.ss.length cd) d.log d.syn:=by
  show _=_
  rw[z,Below.heap_alloc _ _ _ (by simp;omega),Below.heap_alloc _ _ _ (by simp)];exact heap_alloc_new w _
 have aq:fo W0 (w.heap.size+1) 2 x v:=by
  show _=_
  rw[z,Below.heap_alloc _ _ _ (by simp)];have h:=heap_alloc_new (w.alloc (.cells #[.string d.r,.slice ad d.ss.length cd,.string d.log,.int .i64 d.syn] 25)) (.cells #[.int .i64 2,.string x,.string v] 27);rw[World.size_alloc]at h;exact h
 have aB:an W0 (w.heap.size+2) ⟨#[]⟩ (.slice none 0 0) ⟨#[]⟩ 0:=by
  show _=_
  rw[z];have h:=heap_alloc_new ((w.alloc (.cells #[.string d.r,.slice ad d.ss.length cd,.string d.log,.int .i64 d.syn] 25)).alloc (.cells #[.int .i64 2,.string x,.string v] 27)) (.cells #[.string ⟨#[]⟩,.slice none 0 0,.string ⟨#[]⟩,.int .i64 0] 25);rw[World.size_alloc,World.size_alloc]at h;exact h
 have E:=sg (G.below al);have J:Hid (∀ u,Below w.heap.size w u->Dk7 u B (.slice ad d.ss.length cd) d):=fun u hu=>G.below hu
 have HW:Hid (W0=((w.alloc (.cells #[.string d.r,.slice ad d.ss.length cd,.string d.log,.int .i64 d.syn] 25)).alloc (.cells #[.int .i64 2,.string x,.string v] 27)).alloc (.cells #[.string ⟨#[]⟩,.slice none 0 0,.string ⟨#[]⟩,.int .i64 0] 25)):=z;have C:=hZ al;have af:=hZ am;have X:=hZ aq;have ae:=hZ aB;obtain⟨a3,d0,d1,d2,d3,df⟩:=am.facts;obtain⟨O,T,U,V⟩:=aq.facts;have aI:=G.ok.log;have Y:Hid (Ok7 d):=G.ok;have W:Hid (∀ u,Calls prog 34 #[.int .i64 2,.int .i64 1,.int .i64 4] u fun e w'=>e=.returned (.bool true)/\w'=u):=fun u=>by
  have q:=Bk u 2 1 4;rw[decide_eq_true (by decide)]at q;exact q
 clear G al am aq aB z
 cases ho:fb d with
 | none =>
  have y:Hid (do7 d 2 x v=(1,zD7)):=Cf ho;rw[ho]at E;have L:Calls prog 32 #[.agg #[.string d.r,(.slice ad d.ss.length cd),.string d.log,.int .i64 d.syn]] W0 fun e w'=>∃ A g,e=.returned (.tuple #[.agg #[A,.bool (ab d.r).sh,.int .i64 (ab d.r).lv],g,.bool false])/\ac w' W0.heap.size A (ab d.r).es/\Rws w' W0.heap.size g []/\Below W0.heap.size W0 w':=E
  clear E ho J W Y;go_enter func8,ntmps8;go_upto_region 1 with fail
  rw[<- HW.out];clear HW;go_wp2_with fail;refine L.mono ?_;rintro e m ⟨A,g,rfl,F,S,b⟩;obtain⟨H,I,au⟩:=ef F;subst au;have ak:=ae.out.below b;have aC:=C.out.trans (b.mono C.out.size);obtain⟨O,T,U,V⟩:=(X.out.below b).facts;obtain⟨a0,a6,a7,a8,a9,aa⟩:=ak.facts;obtain⟨f,a⟩:=lc ak aC (dz _ _) ⟨#[]⟩ ⟨#[]⟩ 0;have s:Hid (∀ o,Below w.heap.size w ((s4D m (w.heap.size+2) (.string ⟨#[]⟩) (.slice none 0 0) (.string ⟨#[]⟩) (.int .i64 0)).alloc o)):=fun o=>a.alloc a.size o
  clear f a L F S b ak aC;go_wp2;refine bodyPost_ret (v:=.tuple #[.agg #[.string ⟨#[]⟩,.slice none 0 0,.string ⟨#[]⟩,.int .i64 0],.int .i64 1]) ?_ rfl ?_
  .rw[results_cell_tmp rfl]
   go_simp
  .rw[y.out]
   exact⟨.slice none 0 0,rfl,dz _ _,s.out _⟩
 | some l =>
  have n:Hid (fb d=some l):=ho;rw[ho]at E;have L:Calls prog 32 #[.agg #[.string d.r,(.slice ad d.ss.length cd),.string d.log,.int .i64 d.syn]] W0 fun e w'=>∃ A g,e=.returned (.tuple #[.agg #[A,.bool (ab d.r).sh,.int .i64 (ab d.r).lv],g,.bool true])/\ac w' W0.heap.size A (ab d.r).es/\Rws w' W0.heap.size g l/\Below W0.heap.size W0 w':=E
  clear E ho;go_enter func8,ntmps8;go_upto_region 1 with fail
  rw[<- HW.out];clear HW;go_wp2_with fail;refine L.mono ?_;rintro e m ⟨A,g,rfl,F,S,b⟩;obtain⟨H,I,au⟩:=ef F;subst au;obtain⟨ar,cr,aG⟩:=db S;obtain⟨w2,a4⟩:∃ w2,w2=m.alloc (.cells #[.slice H (ab d.r).es.length I,.bool (ab d.r).sh,.int .i64 (ab d.r).lv] 56):=⟨_,rfl⟩
  have aj:Hid (w2=m.alloc (.cells #[.slice H (ab d.r).es.length I,.bool (ab d.r).sh,.int .i64 (ab d.r).lv] 56)):=a4;have Z:Below m.heap.size m w2:=by rw[a4];exact bY _
  have M:=b.trans (Z.mono b.size);have ao:Hd9 w w2 m.heap.size d (.slice ad d.ss.length cd) (.slice H (ab d.r).es.length I) g (ab d.r) l 2 x v:=⟨af.out.below M,X.out.below M,ae.out.below M,by show _=_;rw[a4];exact heap_alloc_new m _,(ac.low F C.out.size).below Z,(ff S C.out.size).below Z,C.out.trans (M.mono C.out.size),by have:=b.size;omega⟩;have D:=wk (J.out w2 ao.bel);have ag:=hZ ao;obtain⟨a3,d0,d1,d2,d3,df⟩:=(af.out.below b).facts;obtain⟨O,T,U,V⟩:=(X.out.below b).facts;clear L F S b Z M a4 ao af X ae
  cases hsy:lq d
  .have y:Hid (do7 d 2 x v=(1,zD7)):=rx n.out (by rw[hsy];simp)
   have N:(ch d).isSome=false:=by unfold ch;rw[if_neg (by rw[hsy];simp)];rfl
   rw[N]at D;clear hsy N W J Y n;go_wp2_with fail;rw[<- aj.out];refine D.mono ?_;rintro e w3 ⟨rfl,R⟩;have c:=ag.out.below R;obtain⟨O,T,U,V⟩:=c.dob.facts;obtain⟨a0,a6,a7,a8,a9,aa⟩:=c.ans.facts;obtain⟨f,a⟩:=lc c.ans c.bel (dz _ _) ⟨#[]⟩ ⟨#[]⟩ 0;have K:Hid (ah _ _ _ _):=f;have s:Hid (Below _ _ _):=a;clear f a c R D;go_wp2;refine bodyPost_ret (v:=.tuple #[.agg #[.string ⟨#[]⟩,.slice none 0 0,.string ⟨#[]⟩,.int .i64 0],.int .i64 1]) ?_ rfl ?_
   .rw[results_cell_tmp rfl]
    go_simp
   .rw[y.out]
    exact⟨.slice none 0 0,rfl,K.out,s.out⟩
  .have N:(ch d).isSome=true:=by unfold ch;rw[if_pos hsy,n.out];rfl
   rw[N]at D;have ai:Hid (lq d=true):=hsy;clear hsy N;go_wp2_with fail;rw[<- aj.out];refine D.mono ?_;rintro e w3 ⟨rfl,R⟩;have t:=hZ (ag.out.below R);have IN:=W.out w3;obtain⟨O,T,U,V⟩:=t.out.dob.facts;clear D R ag aj W;go_wp2_with fail;refine IN.mono ?_;rintro e aL ⟨rfl,av⟩;replace av:=av.symm;subst av;clear IN;by_cases Q:¬ v.size=0
   .have y:Hid (do7 d 2 x v=(1,zD7)):=rx n.out (by rw[ai.out];unfold er;simp[Q])
    obtain⟨m1,m2,m3⟩:=ny Q;have c:=t.out;obtain⟨a0,a6,a7,a8,a9,aa⟩:=c.ans.facts;obtain⟨f,a⟩:=lc c.ans c.bel (dz _ _) ⟨#[]⟩ ⟨#[]⟩ 0;have K:Hid (ah _ _ _ _):=f;have s:Hid (Below _ _ _):=a;clear f a c;go_wp2;refine bodyPost_ret (v:=.tuple #[.agg #[.string ⟨#[]⟩,.slice none 0 0,.string ⟨#[]⟩,.int .i64 0],.int .i64 1]) ?_ rfl ?_
    .rw[results_cell_tmp rfl]
     go_simp
    .rw[y.out]
     exact⟨.slice none 0 0,rfl,K.out,s.out⟩
   .replace Q:v.size=0:=Decidable.not_not.1 Q
    obtain rfl:=wd Q;have ax:Hid (do7 d 2 x ⟨#[]⟩=doL d l 2 x ⟨#[]⟩):=Ce n.out ai.out (by rfl);have OW:=Cw (J.out w3 t.out.bel);obtain⟨a3,d0,d1,d2,d3,df⟩:=t.out.disk.facts;clear ai J;go_wp2_with fail;refine OW.mono ?_;rintro e w4 ⟨vp,rfl,s4,b4⟩;obtain⟨j,k,aF⟩:=eu s4;subst aF;have a1:=t.out.below b4;obtain⟨p,a5⟩:∃ p,p=s4D w4 w.heap.size (.string d.r) (.slice j d.ss.length k) (.string d.log) (.int .i64 d.syn):=⟨_,rfl⟩
    have i:Hd9 w p m.heap.size d (.slice j d.ss.length k) (.slice H (ab d.r).es.length I) g (ab d.r) l 2 x ⟨#[]⟩:=by rw[a5];exact a1.own _
    have ay:Hid (ah p w.heap.size (.slice j d.ss.length k) d.ss):=by rw[a5];exact (ji s4 t.out.bel.size).box a1.disk (by decide) (ku _ _ _ _ _ _)
    have az:Hid ((((w4.setCell ⟨w.heap.size,0,none⟩ (.string d.r)).setCell ⟨w.heap.size,1,none⟩ (.slice j d.ss.length k)).setCell ⟨w.heap.size,2,none⟩ (.string d.log)).setCell ⟨w.heap.size,3,none⟩ (.int .i64 d.syn)=p):=a5.symm;have aw:=hZ i;obtain⟨a3,d0,d1,d2,d3,df⟩:=a1.disk.facts;clear OW s4 b4 a5 t a1;go_upto_region 6 with fail
    rw[az.out];clear az;have aH:=i.hbr;obtain⟨a3,d0,d1,d2,d3,df⟩:=i.disk.facts;obtain⟨O,T,U,V⟩:=i.dob.facts;obtain⟨a0,a6,a7,a8,a9,aa⟩:=i.ans.facts;obtain⟨aJ,u0,u1,u2⟩:=i.rul.facts;have WR:=Kk (ad:=j) (na:=d.ss.length) (cd:=k) d.r d.log d.syn (dn7 2 x ⟨#[]⟩) (by omega) hx hv i.ents (At n.out) i.rows (qi Y.out n.out);have aA:Calls prog 37 #[.agg #[.string d.r,.slice j d.ss.length k,.string d.log,.int .i64 d.syn],.agg #[(.slice H (ab d.r).es.length I),.bool (ab d.r).sh,.int .i64 (ab d.r).lv],g,.agg #[.int .i64 2,.string x,.string ⟨#[]⟩]] p fun e w'=>e=.returned (.tuple #[.agg #[.string d.r,.slice j d.ss.length k,.string (wrC (ab d.r) l d.log (dn7 2 x ⟨#[]⟩)).2,.int .i64 d.syn],.int .i64 (wrC (ab d.r) l d.log (dn7 2 x ⟨#[]⟩)).1])/\Below p.heap.size p w':=WR
    have y:Hid (do7 d 2 x ⟨#[]⟩=((wrC (ab d.r) l d.log (dn7 2 x ⟨#[]⟩)).1,{ d with log:=(wrC (ab d.r) l d.log (dn7 2 x ⟨#[]⟩)).2 })):=by show _=_;rw[ax.out,Lp (by decide) (by decide)]
    generalize wrC (ab d.r) l d.log (dn7 2 x ⟨#[]⟩)=P at *;obtain⟨aD,lg⟩:=P;subst aG;clear WR i ax n Y;go_wp2_with fail;refine aA.mono ?_;rintro e w6 ⟨rfl,b6⟩;have a2:=aw.out.below b6;obtain⟨f,a⟩:=lc a2.ans a2.bel (ay.out.below b6) d.r lg d.syn;have K:Hid (ah _ _ _ _):=f;have s:Hid (Below _ _ _):=a;obtain⟨a0,a6,a7,a8,a9,aa⟩:=a2.ans.facts;clear aA b6 a2 f a ay aw;go_wp2;refine bodyPost_ret (v:=.tuple #[.agg #[.string d.r,(.slice j d.ss.length k),.string lg,.int .i64 d.syn],.int .i64 aD]) ?_ rfl ?_
    .rw[results_cell_tmp rfl]
     go_simp
    .rw[y.out]
     exact⟨(.slice j d.ss.length k),rfl,K.out,s.out⟩
theorem at6 {w:World} {B:Nat} {vd:Value} {d:Ds7}(k:Int) (x v:ByteArray) (hk:k=3\/k=4) (hD:Dk7 w B vd d) :
  Calls prog 8 #[.agg #[.string d.r,vd,.string d.log,.int .i64 d.syn],.agg #[.int .i64 k,.string x,.string v]] w fun e w'=>Dl w (do7 d k x v) e w':=by
 obtain⟨z,A,aI⟩:=hD.form;subst aI;obtain⟨W0,H⟩:∃ W0,W0=((w.alloc (.cells #[.string d.r,.slice z d.ss.length A,.string d.log,.int .i64 d.syn] 25)).alloc (.cells #[.int .i64 k,.string x,.string v] 27)).alloc (.cells #[.string ⟨#[]⟩,.slice none 0 0,.string ⟨#[]⟩,.int .i64 0] 25):=⟨_,rfl⟩
 have av:Below w.heap.size w W0:=by rw[H];exact ((bY _).alloc (by simp) _).alloc (by simp;omega) _
 have aS:W0.heap.size=w.heap.size+3:=by rw[H];simp
 have aw:an W0 w.heap.size d.r (.slice z d.ss.length A) d.log d.syn:=by
  show _=_
  rw[H,Below.heap_alloc _ _ _ (by simp;omega),Below.heap_alloc _ _ _ (by simp)];exact heap_alloc_new w _
 have ay:fo W0 (w.heap.size+1) k x v:=by
  show _=_
  rw[H,Below.heap_alloc _ _ _ (by simp)];have h:=heap_alloc_new (w.alloc (.cells #[.string d.r,.slice z d.ss.length A,.string d.log,.int .i64 d.syn] 25)) (.cells #[.int .i64 k,.string x,.string v] 27);rw[World.size_alloc]at h;exact h
 have aC:an W0 (w.heap.size+2) ⟨#[]⟩ (.slice none 0 0) ⟨#[]⟩ 0:=by
  show _=_
  rw[H];have h:=heap_alloc_new ((w.alloc (.cells #[.string d.r,.slice z d.ss.length A,.string d.log,.int .i64 d.syn] 25)).alloc (.cells #[.int .i64 k,.string x,.string v] 27)) (.cells #[.string ⟨#[]⟩,.slice none 0 0,.string ⟨#[]⟩,.int .i64 0] 25);rw[World.size_alloc,World.size_alloc]at h;exact h
 have V:=sg (hD.below av);have a0:Hid (∀ u,Below w.heap.size w u->Dk7 u B (.slice z d.ss.length A) d):=fun u hu=>hD.below hu
 have HW:Hid (W0=((w.alloc (.cells #[.string d.r,.slice z d.ss.length A,.string d.log,.int .i64 d.syn] 25)).alloc (.cells #[.int .i64 k,.string x,.string v] 27)).alloc (.cells #[.string ⟨#[]⟩,.slice none 0 0,.string ⟨#[]⟩,.int .i64 0] 25)):=H;have J:=hZ av;have al:=hZ aw;have aa:=hZ ay;have ak:=hZ aC;obtain⟨O,X,Y,Z,d3,df⟩:=aw.facts;obtain⟨a6,o0,o1,o2⟩:=ay.facts;have aQ:=hD.ok.log;have L:Hid (Ok7 d):=hD.ok;have a9:Hid (∀ u,Calls prog 34 #[.int .i64 k,.int .i64 1,.int .i64 4] u fun e w'=>e=.returned (.bool true)/\w'=u):=fun u=>by
  have q:=Bk u k 1 4;rw[decide_eq_true (by omega)]at q;exact q
 have aN:(k == 1)=false:=by simp;omega
 have aO:(k == 2)=false:=by simp;omega
 have aP:(k != 1)=true:=by simp;omega
 clear hD av aw ay aC H
 cases ho:fb d with
 | none =>
  have n:Hid (do7 d k x v=(1,zD7)):=Cf ho;rw[ho]at V;have a2:Calls prog 32 #[.agg #[.string d.r,(.slice z d.ss.length A),.string d.log,.int .i64 d.syn]] W0 fun e w'=>∃ I C,e=.returned (.tuple #[.agg #[I,.bool (ab d.r).sh,.int .i64 (ab d.r).lv],C,.bool false])/\ac w' W0.heap.size I (ab d.r).es/\Rws w' W0.heap.size C []/\Below W0.heap.size W0 w':=V
  clear V ho a0 a9 L;go_enter func8,ntmps8;go_upto_region 1 with fail
  rw[<- HW.out];clear HW;go_wp2_with fail;refine a2.mono ?_;rintro e D ⟨I,C,rfl,h1,h2,t⟩;obtain⟨va,vc,az⟩:=ef h1;subst az;have au:=ak.out.below t;have aF:=J.out.trans (t.mono J.out.size);obtain⟨a6,o0,o1,o2⟩:=(aa.out.below t).facts;obtain⟨N,P,Q,R,S,T⟩:=au.facts;obtain⟨b,a⟩:=lc au aF (dz _ _) ⟨#[]⟩ ⟨#[]⟩ 0;have g:Hid (∀ o,Below w.heap.size w ((s4D D (w.heap.size+2) (.string ⟨#[]⟩) (.slice none 0 0) (.string ⟨#[]⟩) (.int .i64 0)).alloc o)):=fun o=>a.alloc a.size o
  clear b a a2 h1 h2 t au aF;go_wp2;refine bodyPost_ret (v:=.tuple #[.agg #[.string ⟨#[]⟩,.slice none 0 0,.string ⟨#[]⟩,.int .i64 0],.int .i64 1]) ?_ rfl ?_
  .rw[results_cell_tmp rfl]
   go_simp
  .rw[n.out]
   exact⟨.slice none 0 0,rfl,dz _ _,g.out _⟩
 | some l =>
  have y:Hid (fb d=some l):=ho;rw[ho]at V;have a2:Calls prog 32 #[.agg #[.string d.r,(.slice z d.ss.length A),.string d.log,.int .i64 d.syn]] W0 fun e w'=>∃ I C,e=.returned (.tuple #[.agg #[I,.bool (ab d.r).sh,.int .i64 (ab d.r).lv],C,.bool true])/\ac w' W0.heap.size I (ab d.r).es/\Rws w' W0.heap.size C l/\Below W0.heap.size W0 w':=V
  clear V ho;go_enter func8,ntmps8;go_upto_region 1 with fail
  rw[<- HW.out];clear HW;go_wp2_with fail;refine a2.mono ?_;rintro e D ⟨I,C,rfl,h1,h2,t⟩;obtain⟨va,vc,az⟩:=ef h1;subst az;obtain⟨ar,cr,aL⟩:=db h2;obtain⟨w2,ai⟩:∃ w2,w2=D.alloc (.cells #[.slice va (ab d.r).es.length vc,.bool (ab d.r).sh,.int .i64 (ab d.r).lv] 56):=⟨_,rfl⟩
  have ao:Hid (w2=D.alloc (.cells #[.slice va (ab d.r).es.length vc,.bool (ab d.r).sh,.int .i64 (ab d.r).lv] 56)):=ai;have af:Below D.heap.size D w2:=by rw[ai];exact bY _
  have a4:=t.trans (af.mono t.size);have ax:Hd9 w w2 D.heap.size d (.slice z d.ss.length A) (.slice va (ab d.r).es.length vc) C (ab d.r) l k x v:=⟨al.out.below a4,aa.out.below a4,ak.out.below a4,by show _=_;rw[ai];exact heap_alloc_new D _,(ac.low h1 J.out.size).below af,(ff h2 J.out.size).below af,J.out.trans (a4.mono J.out.size),by have:=t.size;omega⟩;have U:=wk (a0.out w2 ax.bel);have am:=hZ ax;obtain⟨O,X,Y,Z,d3,df⟩:=(al.out.below t).facts;obtain⟨a6,o0,o1,o2⟩:=(aa.out.below t).facts;clear a2 h1 h2 t af a4 ai ax al aa ak
  cases hsy:lq d
  .have n:Hid (do7 d k x v=(1,zD7)):=rx y.out (by rw[hsy];simp)
   have a5:(ch d).isSome=false:=by unfold ch;rw[if_neg (by rw[hsy];simp)];rfl
   rw[a5]at U;clear hsy a5 a9 a0 L y;go_wp2_with fail;rw[<- ao.out];refine U.mono ?_;rintro e w3 ⟨rfl,b3⟩;have c:=am.out.below b3;obtain⟨a6,o0,o1,o2⟩:=c.dob.facts;obtain⟨N,P,Q,R,S,T⟩:=c.ans.facts;obtain⟨b,a⟩:=lc c.ans c.bel (dz _ _) ⟨#[]⟩ ⟨#[]⟩ 0;have s:Hid (ah _ _ _ _):=b;have g:Hid (Below _ _ _):=a;clear b a c b3 U;go_wp2;refine bodyPost_ret (v:=.tuple #[.agg #[.string ⟨#[]⟩,.slice none 0 0,.string ⟨#[]⟩,.int .i64 0],.int .i64 1]) ?_ rfl ?_
   .rw[results_cell_tmp rfl]
    go_simp
   .rw[n.out]
    exact⟨.slice none 0 0,rfl,s.out,g.out⟩
  .have a5:(ch d).isSome=true:=by unfold ch;rw[if_pos hsy,y.out];rfl
   rw[a5]at U;have ae:Hid (lq d=true):=hsy;clear hsy a5;go_wp2_with fail;rw[<- ao.out];refine U.mono ?_;rintro e w3 ⟨rfl,b3⟩;have E:=hZ (am.out.below b3);have IN:=a9.out w3;obtain⟨a6,o0,o1,o2⟩:=E.out.dob.facts;clear U b3 am ao a9;go_wp2_with fail;refine IN.mono ?_;rintro e aT ⟨rfl,aA⟩;replace aA:=aA.symm;subst aA;clear IN;by_cases a7:¬ x.size=0
   .have n:Hid (do7 d k x v=(1,zD7)):=rx y.out (by rw[ae.out];rcases hk with rfl|rfl <;> (unfold er;simp[a7]))
    obtain⟨m1,m2,m3⟩:=ny a7;have c:=E.out;obtain⟨N,P,Q,R,S,T⟩:=c.ans.facts;obtain⟨b,a⟩:=lc c.ans c.bel (dz _ _) ⟨#[]⟩ ⟨#[]⟩ 0;have s:Hid (ah _ _ _ _):=b;have g:Hid (Below _ _ _):=a;clear b a c;go_wp2;refine bodyPost_ret (v:=.tuple #[.agg #[.string ⟨#[]⟩,.slice none 0 0,.string ⟨#[]⟩,.int .i64 0],.int .i64 1]) ?_ rfl ?_
    .rw[results_cell_tmp rfl]
     go_simp
    .rw[n.out]
     exact⟨.slice none 0 0,rfl,s.out,g.out⟩
   .replace a7:x.size=0:=Decidable.not_not.1 a7
    obtain rfl:=wd a7;by_cases a8:¬ v.size=0
    .have n:Hid (do7 d k ⟨#[]⟩ v=(1,zD7)):=rx y.out (by rw[ae.out];rcases hk with rfl|rfl <;> (unfold er;simp[a8]))
     obtain⟨m1,m2,m3⟩:=ny a8;have c:=E.out;obtain⟨N,P,Q,R,S,T⟩:=c.ans.facts;obtain⟨b,a⟩:=lc c.ans c.bel (dz _ _) ⟨#[]⟩ ⟨#[]⟩ 0;have s:Hid (ah _ _ _ _):=b;have g:Hid (Below _ _ _):=a;clear b a c;go_wp2;refine bodyPost_ret (v:=.tuple #[.agg #[.string ⟨#[]⟩,.slice none 0 0,.string ⟨#[]⟩,.int .i64 0],.int .i64 1]) ?_ rfl ?_
     .rw[results_cell_tmp rfl]
      go_simp
     .rw[n.out]
      exact⟨.slice none 0 0,rfl,s.out,g.out⟩
    .replace a8:v.size=0:=Decidable.not_not.1 a8
     obtain rfl:=wd a8;have M:Hid (do7 d k ⟨#[]⟩ ⟨#[]⟩=doL d l k ⟨#[]⟩ ⟨#[]⟩):=Ce y.out ae.out (by rcases hk with rfl|rfl <;> rfl);have OW:=Cw (a0.out w3 E.out.bel);obtain⟨O,X,Y,Z,d3,df⟩:=E.out.disk.facts;clear ae a0;go_wp2_with fail;refine OW.mono ?_;rintro e w4 ⟨vp,rfl,s4,b4⟩;obtain⟨F,G,aJ⟩:=eu s4;subst aJ;have ag:=E.out.below b4;obtain⟨f,aj⟩:∃ f,f=s4D w4 w.heap.size (.string d.r) (.slice F d.ss.length G) (.string d.log) (.int .i64 d.syn):=⟨_,rfl⟩
     have i:Hd9 w f D.heap.size d (.slice F d.ss.length G) (.slice va (ab d.r).es.length vc) C (ab d.r) l k ⟨#[]⟩ ⟨#[]⟩:=by rw[aj];exact ag.own _
     have a1:Hid (ah f w.heap.size (.slice F d.ss.length G) d.ss):=by rw[aj];exact (ji s4 E.out.bel.size).box ag.disk (by decide) (ku _ _ _ _ _ _)
     have aB:Hid ((((w4.setCell ⟨w.heap.size,0,none⟩ (.string d.r)).setCell ⟨w.heap.size,1,none⟩ (.slice F d.ss.length G)).setCell ⟨w.heap.size,2,none⟩ (.string d.log)).setCell ⟨w.heap.size,3,none⟩ (.int .i64 d.syn)=f):=aj.symm;have K:=hZ i;obtain⟨O,X,Y,Z,d3,df⟩:=ag.disk.facts;clear OW s4 b4 aj E ag;go_upto_region 6 with fail
     rw[aB.out];clear aB;have aM:=i.hbr;obtain⟨O,X,Y,Z,d3,df⟩:=i.disk.facts;obtain⟨a6,o0,o1,o2⟩:=i.dob.facts;obtain⟨N,P,Q,R,S,T⟩:=i.ans.facts;obtain⟨aR,u0,u1,u2⟩:=i.rul.facts;rcases hk with rfl|rfl
     .have n:Hid (do7 d 3 ⟨#[]⟩ ⟨#[]⟩=(0,{ d with syn:=(d.log.size:Int) })):=by show _=_;rw[M.out];rfl
      have g6:=d8 f w.heap.size 3 (.int .i64 (d.log.size:Int));have aD:=i.ans.set (p:=w.heap.size) (k:=3) (by omega) (.int .i64 (d.log.size:Int));obtain⟨b,a⟩:=lc aD (i.bel.setCell (p:=⟨w.heap.size,3,none⟩) bR _) (a1.out.box i.disk (by decide) g6) d.r d.log (d.log.size:Int);have s:Hid (ah _ _ _ _):=b;have g:Hid (Below _ _ _):=a;clear b a aD g6 i M y L a1 K;go_wp2;refine bodyPost_ret (v:=.tuple #[.agg #[.string d.r,(.slice F d.ss.length G),.string d.log,.int .i64 (d.log.size:Int)],.int .i64 0]) ?_ rfl ?_
      .rw[results_cell_tmp rfl]
       go_simp
      .rw[n.out]
       exact⟨(.slice F d.ss.length G),rfl,s.out,g.out⟩
     .subst aL
      have PG:=Xv i.rows (Yq (qi L.out y.out))
      cases hpp:mc l with
      | none =>
       have n:Hid (do7 d 4 ⟨#[]⟩ ⟨#[]⟩=(3,d)):=by show _=_;rw[M.out];unfold doL;rw[if_neg (by decide),if_pos rfl,hpp]
       rw[hpp]at PG;have a3:Calls prog 36 #[.slice ar l.length cr] f fun e w'=>∃ v,e=.returned (.tuple #[v,.bool false])/\(∀ pp,(none:Option (List ByteArray))=some pp->ah w' f.heap.size v pp)/\Below f.heap.size f w':=PG
       clear PG hpp M y L i;go_wp2_with fail;refine a3.mono ?_;rintro e w6 ⟨vq,rfl,_,W⟩;have m:=K.out.below W;obtain⟨b,a⟩:=lc m.ans m.bel (a1.out.below W) d.r d.log d.syn;have s:Hid (ah _ _ _ _):=b;have g:Hid (Below _ _ _):=a;obtain⟨N,P,Q,R,S,T⟩:=m.ans.facts;obtain⟨O,X,Y,Z,d3,df⟩:=m.disk.facts;clear a3 W m b a a1 K;go_wp2;refine bodyPost_ret (v:=.tuple #[.agg #[.string d.r,(.slice F d.ss.length G),.string d.log,.int .i64 d.syn],.int .i64 3]) ?_ rfl ?_
       .rw[results_cell_tmp rfl]
        go_simp
       .rw[n.out]
        exact⟨(.slice F d.ss.length G),rfl,s.out,g.out⟩
      | some pp =>
       have n:Hid (do7 d 4 ⟨#[]⟩ ⟨#[]⟩=(0,{ d with ss:=pp,log:=⟨#[]⟩,syn:=0 })):=by show _=_;rw[M.out];unfold doL;rw[if_neg (by decide),if_pos rfl,hpp]
       have a3:Calls prog 36 #[.slice ar l.length cr] f fun e w'=>∃ v,e=.returned (.tuple #[v,.bool true])/\ah w' f.heap.size v pp/\Below f.heap.size f w':=PG.mono fun e w' ⟨v,q1,q2,q3⟩=>⟨v,by rw[q1,hpp];rfl,q2 pp hpp,q3⟩
       clear PG hpp M y L i;go_wp2_with fail;refine a3.mono ?_;rintro e w6 ⟨vq,rfl,s6,W⟩;obtain⟨aq,cq,aK⟩:=eu s6;subst aK;have m:=K.out.below W;have g7:=((d8 w6 w.heap.size 1 (.slice aq pp.length cq)).trans (d8 _ w.heap.size 2 (.string ⟨#[]⟩))).trans (d8 _ w.heap.size 3 (.int .i64 0));have aE:=dn g7 (show w.heap.size+2≠w.heap.size by omega) m.ans;have aG:=Below.grown m.bel g7 m.bel.size (fun j hj=>by have:=Option.some.inj hj;omega);have aH:=(ji s6 K.out.bel.size).box m.disk (by decide) g7;obtain⟨b,a⟩:=lc aE aG aH d.r ⟨#[]⟩ 0;have s:Hid (ah _ _ _ _):=b;have g:Hid (Below _ _ _):=a;obtain⟨N,P,Q,R,S,T⟩:=m.ans.facts;obtain⟨O,X,Y,Z,d3,df⟩:=m.disk.facts;clear a3 W m b a a1 K s6 g7 aE aG aH;go_wp2
       refine bodyPost_ret (v:=.tuple #[.agg #[.string d.r,(.slice aq pp.length cq),.string ⟨#[]⟩,.int .i64 0],.int .i64 0]) ?_ rfl ?_
       .rw[results_cell_tmp rfl]
        go_simp
       .rw[n.out]
        exact⟨(.slice aq pp.length cq),rfl,s.out,g.out⟩
theorem bh3 {w:World} {B:Nat} {vd:Value} {d:Ds7}(k:Int) (x v:ByteArray) (hk:¬ (1<=k/\k<=4)) (A:Dk7 w B vd d) :
  Calls prog 8 #[.agg #[.string d.r,vd,.string d.log,.int .i64 d.syn],.agg #[.int .i64 k,.string x,.string v]] w fun e w'=>Dl w (do7 d k x v) e w':=by
 obtain⟨f,g,ap⟩:=A.form;subst ap;obtain⟨W0,n⟩:∃ W0,W0=((w.alloc (.cells #[.string d.r,.slice f d.ss.length g,.string d.log,.int .i64 d.syn] 25)).alloc (.cells #[.int .i64 k,.string x,.string v] 27)).alloc (.cells #[.string ⟨#[]⟩,.slice none 0 0,.string ⟨#[]⟩,.int .i64 0] 25):=⟨_,rfl⟩
 have a3:Below w.heap.size w W0:=by rw[n];exact ((bY _).alloc (by simp) _).alloc (by simp;omega) _
 have aw:W0.heap.size=w.heap.size+3:=by rw[n];simp
 have a4:an W0 w.heap.size d.r (.slice f d.ss.length g) d.log d.syn:=by
  show _=_
  rw[n,Below.heap_alloc _ _ _ (by simp;omega),Below.heap_alloc _ _ _ (by simp)];exact heap_alloc_new w _
 have a6:fo W0 (w.heap.size+1) k x v:=by
  show _=_
  rw[n,Below.heap_alloc _ _ _ (by simp)];have h:=heap_alloc_new (w.alloc (.cells #[.string d.r,.slice f d.ss.length g,.string d.log,.int .i64 d.syn] 25)) (.cells #[.int .i64 k,.string x,.string v] 27);rw[World.size_alloc]at h;exact h
 have ae:an W0 (w.heap.size+2) ⟨#[]⟩ (.slice none 0 0) ⟨#[]⟩ 0:=by
  show _=_
  rw[n];have h:=heap_alloc_new ((w.alloc (.cells #[.string d.r,.slice f d.ss.length g,.string d.log,.int .i64 d.syn] 25)).alloc (.cells #[.int .i64 k,.string x,.string v] 27)) (.cells #[.string ⟨#[]⟩,.slice none 0 0,.string ⟨#[]⟩,.int .i64 0] 25);rw[World.size_alloc,World.size_alloc]at h;exact h
 have y:=sg (A.below a3);have X:Hid (∀ u,Below w.heap.size w u->Dk7 u B (.slice f d.ss.length g) d):=fun u hu=>A.below hu
 have P:Hid (W0=((w.alloc (.cells #[.string d.r,.slice f d.ss.length g,.string d.log,.int .i64 d.syn] 25)).alloc (.cells #[.int .i64 k,.string x,.string v] 27)).alloc (.cells #[.string ⟨#[]⟩,.slice none 0 0,.string ⟨#[]⟩,.int .i64 0] 25)):=n;have s:=hZ a3;have W:=hZ a4;have K:=hZ a6;have V:=hZ ae;obtain⟨ao,d0,d1,d2,d3,df⟩:=a4.facts;obtain⟨M,Q,R,S⟩:=a6.facts;have av:=A.ok.log;have aa:Hid (Ok7 d):=A.ok;have J:Hid (∀ u,Calls prog 34 #[.int .i64 k,.int .i64 1,.int .i64 4] u fun e w'=>e=.returned (.bool false)/\w'=u):=fun u=>by
  have q:=Bk u k 1 4;rw[decide_eq_false hk]at q;exact q
 have aq:(k == 1)=false:=by simp;omega
 have au:(k == 2)=false:=by simp;omega
 clear A a3 a4 a6 ae n
 cases ho:fb d with
 | none =>
  have G:Hid (do7 d k x v=(1,zD7)):=Cf ho;rw[ho]at y;have D:Calls prog 32 #[.agg #[.string d.r,(.slice f d.ss.length g),.string d.log,.int .i64 d.syn]] W0 fun e w'=>∃ p i,e=.returned (.tuple #[.agg #[p,.bool (ab d.r).sh,.int .i64 (ab d.r).lv],i,.bool false])/\ac w' W0.heap.size p (ab d.r).es/\Rws w' W0.heap.size i []/\Below W0.heap.size W0 w':=y
  clear y ho X J aa;go_enter func8,ntmps8;go_upto_region 1 with fail
  rw[<- P.out];clear P;go_wp2_with fail;refine D.mono ?_;rintro e j ⟨p,i,rfl,z,I,a⟩;obtain⟨T,U,a7⟩:=ef z;subst a7;have a2:=V.out.below a;have af:=s.out.trans (a.mono s.out.size);obtain⟨M,Q,R,S⟩:=(K.out.below a).facts;obtain⟨a0,ag,ai,aj,ak,al⟩:=a2.facts;obtain⟨m,c⟩:=lc a2 af (dz _ _) ⟨#[]⟩ ⟨#[]⟩ 0;have C:Hid (∀ o,Below w.heap.size w ((s4D j (w.heap.size+2) (.string ⟨#[]⟩) (.slice none 0 0) (.string ⟨#[]⟩) (.int .i64 0)).alloc o)):=fun o=>c.alloc c.size o
  clear m c D z I a a2 af;go_wp2;refine bodyPost_ret (v:=.tuple #[.agg #[.string ⟨#[]⟩,.slice none 0 0,.string ⟨#[]⟩,.int .i64 0],.int .i64 1]) ?_ rfl ?_
  .rw[results_cell_tmp rfl]
   go_simp
  .rw[G.out]
   exact⟨.slice none 0 0,rfl,dz _ _,C.out _⟩
 | some l =>
  have O:Hid (fb d=some l):=ho;rw[ho]at y;have D:Calls prog 32 #[.agg #[.string d.r,(.slice f d.ss.length g),.string d.log,.int .i64 d.syn]] W0 fun e w'=>∃ p i,e=.returned (.tuple #[.agg #[p,.bool (ab d.r).sh,.int .i64 (ab d.r).lv],i,.bool true])/\ac w' W0.heap.size p (ab d.r).es/\Rws w' W0.heap.size i l/\Below W0.heap.size W0 w':=y
  clear y ho;go_enter func8,ntmps8;go_upto_region 1 with fail
  rw[<- P.out];clear P;go_wp2_with fail;refine D.mono ?_;rintro e j ⟨p,i,rfl,z,I,a⟩;obtain⟨T,U,a7⟩:=ef z;subst a7;obtain⟨ar,cr,ax⟩:=db I;obtain⟨w2,N⟩:∃ w2,w2=j.alloc (.cells #[.slice T (ab d.r).es.length U,.bool (ab d.r).sh,.int .i64 (ab d.r).lv] 56):=⟨_,rfl⟩
  have a1:Hid (w2=j.alloc (.cells #[.slice T (ab d.r).es.length U,.bool (ab d.r).sh,.int .i64 (ab d.r).lv] 56)):=N;have L:Below j.heap.size j w2:=by rw[N];exact bY _
  have E:=a.trans (L.mono a.size);have a5:Hd9 w w2 j.heap.size d (.slice f d.ss.length g) (.slice T (ab d.r).es.length U) i (ab d.r) l k x v:=⟨W.out.below E,K.out.below E,V.out.below E,by show _=_;rw[N];exact heap_alloc_new j _,(ac.low z s.out.size).below L,(ff I s.out.size).below L,s.out.trans (E.mono s.out.size),by have:=a.size;omega⟩;have t:=wk (X.out w2 a5.bel);have Y:=hZ a5;obtain⟨ao,d0,d1,d2,d3,df⟩:=(W.out.below a).facts;obtain⟨M,Q,R,S⟩:=(K.out.below a).facts;clear D z I a L E N a5 W K V
  cases hsy:lq d
  .have G:Hid (do7 d k x v=(1,zD7)):=rx O.out (by rw[hsy];simp)
   have F:(ch d).isSome=false:=by unfold ch;rw[if_neg (by rw[hsy];simp)];rfl
   rw[F]at t;clear hsy F J X aa O;go_wp2_with fail;rw[<- a1.out];refine t.mono ?_;rintro e w3 ⟨rfl,H⟩;have b:=Y.out.below H;obtain⟨M,Q,R,S⟩:=b.dob.facts;obtain⟨a0,ag,ai,aj,ak,al⟩:=b.ans.facts;obtain⟨m,c⟩:=lc b.ans b.bel (dz _ _) ⟨#[]⟩ ⟨#[]⟩ 0;have Z:Hid (ah _ _ _ _):=m;have C:Hid (Below _ _ _):=c;clear m c b H t;go_wp2;refine bodyPost_ret (v:=.tuple #[.agg #[.string ⟨#[]⟩,.slice none 0 0,.string ⟨#[]⟩,.int .i64 0],.int .i64 1]) ?_ rfl ?_
   .rw[results_cell_tmp rfl]
    go_simp
   .rw[G.out]
    exact⟨.slice none 0 0,rfl,Z.out,C.out⟩
  .have F:(ch d).isSome=true:=by unfold ch;rw[if_pos hsy,O.out];rfl
   rw[F]at t;have am:Hid (lq d=true):=hsy;clear hsy F;go_wp2_with fail;rw[<- a1.out];refine t.mono ?_;rintro e w3 ⟨rfl,H⟩;have a9:=hZ (Y.out.below H);have IN:=J.out w3;obtain⟨M,Q,R,S⟩:=a9.out.dob.facts;clear t H Y a1 J;go_wp2_with fail;refine IN.mono ?_;rintro e ay ⟨rfl,a8⟩;replace a8:=a8.symm;subst a8;clear IN;have G:Hid (do7 d k x v=(1,zD7)):=rx O.out (by rw[am.out];unfold er;simp;omega);have b:=a9.out;obtain⟨a0,ag,ai,aj,ak,al⟩:=b.ans.facts;obtain⟨m,c⟩:=lc b.ans b.bel (dz _ _) ⟨#[]⟩ ⟨#[]⟩ 0;have Z:Hid (ah _ _ _ _):=m;have C:Hid (Below _ _ _):=c;clear m c b;go_wp2;refine bodyPost_ret (v:=.tuple #[.agg #[.string ⟨#[]⟩,.slice none 0 0,.string ⟨#[]⟩,.int .i64 0],.int .i64 1]) ?_ rfl ?_
   .rw[results_cell_tmp rfl]
    go_simp
   .rw[G.out]
    exact⟨.slice none 0 0,rfl,Z.out,C.out⟩
theorem aw9 {w:World} {B:Nat} {f:Value} {d:Ds7}(k:Int) (x v:ByteArray) (c:x.size<=1048576) (b:v.size<=1048576) (a:Dk7 w B f d) :
  Calls prog 8 #[.agg #[.string d.r,f,.string d.log,.int .i64 d.syn],.agg #[.int .i64 k,.string x,.string v]] w fun e w'=>Dl w (do7 d k x v) e w':=by
 by_cases g:1<=k/\k<=4
 .obtain rfl|rfl|rfl|rfl:k=1\/k=2\/k=3\/k=4:=by omega
  .exact bh4 x v c b a
  .exact bh5 x v c b a
  .exact at6 3 x v (.inl rfl) a
  .exact at6 4 x v (.inr rfl) a
 .exact bh3 k x v g a
def CrQ (w:World) (o:Option Ds7) (e:Ending) (w':World):Prop :=
 (match o with
  | some D=>∃ vp,e=.returned (.tuple #[.agg #[.string D.r,vp,.string D.log,.int .i64 D.syn],.bool true])/\ah w' w.heap.size vp D.ss
  | none=>e=.returned (.tuple #[.agg #[.string ⟨#[]⟩,.slice none 0 0,.string ⟨#[]⟩,.int .i64 0],.bool false]))/\Below w.heap.size w w'
theorem Ca {w:World} {o:Option Ds7} {w':World}(h:o=none) (a:Below w.heap.size w w'):CrQ w o (.returned (.tuple #[.agg #[.string ⟨#[]⟩,.slice none 0 0,.string ⟨#[]⟩,.int .i64 0],.bool false])) w':=by
 subst h;exact⟨rfl,a⟩
theorem Cb {w:World} {o:Option Ds7} {D:Ds7} {a:Value} {w':World}(h:o=some D) (c:ah w' w.heap.size a D.ss) (b:Below w.heap.size w w'):CrQ w o (.returned (.tuple #[.agg #[.string D.r,a,.string D.log,.int .i64 D.syn],.bool true])) w':=by
 subst h;exact⟨⟨a,rfl,c⟩,b⟩
def W07 (w:World) (d:Ds7) (vd:Value):World:=(w.alloc (.cells #[.string d.r,vd,.string d.log,.int .i64 d.syn] 25)).alloc (.cells #[.string ⟨#[]⟩,.slice none 0 0,.string ⟨#[]⟩,.int .i64 0] 25)
theorem Mp (w:World) (d:Ds7) (a:Value):Below w.heap.size w (W07 w d a)/\(W07 w d a).heap.size=w.heap.size+2/\an (W07 w d a) w.heap.size d.r a d.log d.syn/\an (W07 w d a) (w.heap.size+1) ⟨#[]⟩ (.slice none 0 0) ⟨#[]⟩ 0:=by
 refine⟨(bY _).alloc (by simp) _,by unfold W07;simp,?_,?_⟩
 .show _=_
  unfold W07;rw[Below.heap_alloc _ _ _ (by simp)];exact heap_alloc_new w _
 .have h:=an.new (w.alloc (.cells #[.string d.r,a,.string d.log,.int .i64 d.syn] 25)) ⟨#[]⟩ (.slice none 0 0) ⟨#[]⟩ 0
  rw[World.size_alloc]at h;exact h
theorem Az {w u:World} {a:Value} {ss:List ByteArray}(b:an u (w.heap.size+1) ⟨#[]⟩ (.slice none 0 0) ⟨#[]⟩ 0) (c:Below w.heap.size w u) (d:ah u w.heap.size a ss) (r log:ByteArray) (syn:Int) :
  ah (s4D u (w.heap.size+1) (.string r) a (.string log) (.int .i64 syn)) w.heap.size a ss/\Below w.heap.size w (s4D u (w.heap.size+1) (.string r) a (.string log) (.int .i64 syn)) :=
 ⟨d.box b (by decide) (ku u (w.heap.size+1) (.string r) a (.string log) (.int .i64 syn)),je c (by omega) _ _ _ _⟩
theorem xo {d:Ds7} {keep:Int}(h:ch d=none\/keep<0):kb d keep=none:=by
 unfold kb;rcases h with h|h
 .rw[h]
 .cases ch d with
  | none=>rfl
  | some l=>show (if 0<=keep then _ else _)=_;rw[if_neg (by omega)]
theorem J7 {d:Ds7} {l:List Rw} {keep:Int}(h:ch d=some l) (a:0<=keep):kb d keep=some (Am d keep):=by
 unfold kb;rw[h];show (if 0<=keep then _ else _)=_
 rw[if_pos a]
end Go.Proofs.YtjbmgghehdemdaaGreatDoor
