/- SWr7 -/
import Derived.Test.YtjbmgghehdemdaaGreatDoorMR34
namespace Go.Proofs.YtjbmgghehdemdaaGreatDoor
set_option maxRecDepth 100000
set_option maxHeartbeats 16000000
open _root_.Go.Proofs.Tryz
open Go.RowKit
def wrC (R:RA) (l:List Rw) (log:ByteArray) (o:Dn):Int × ByteArray :=
 if apC R l o=0 then (if log.size+(oo o).size<=6000 then (0,log++oo o) else (3,log)) else (apC R l o,log)
structure Hw7 (w u:World) (r:ByteArray) (vp:Value) (log:ByteArray) (syn:Int) (ve:Value) (R:RA) (kd:Int) (o:Dn):Prop where
 disk:ba u w.heap.size r vp log syn
 rul:jf u (w.heap.size+1) ve R.sh R.lv
 dob:gi u (w.heap.size+2) kd o.text o.val
 ans:ba u (w.heap.size+3) ⟨#[]⟩ (.slice none 0 0) ⟨#[]⟩ 0
 ents:∃ B,ac u B ve R.es
 bel:Below w.heap.size w u
theorem Hw7.below {w u u':World} {r:ByteArray} {d:Value} {log:ByteArray} {syn:Int} {c:Value} {R:RA} {b:Int} {o:Dn}(h:Hw7 w u r d log syn c R b o) (a:Below u.heap.size u u'):Hw7 w u' r d log syn c R b o :=
 ⟨h.disk.below a,h.rul.below a,h.dob.below a,h.ans.below a,h.ents.imp fun _ q=>q.below a,h.bel.trans (a.mono h.bel.size)⟩
theorem Hw7.log {w u:World} {r:ByteArray} {b:Value} {log:ByteArray} {syn:Int} {d:Value} {R:RA} {c:Int} {o:Dn}(h:Hw7 w u r b log syn d R c o) (a:ByteArray) :
  ba (u.setCell ⟨w.heap.size,2,none⟩ (.string a)) w.heap.size r b a syn/\ba (u.setCell ⟨w.heap.size,2,none⟩ (.string a)) (w.heap.size+3) ⟨#[]⟩ (.slice none 0 0) ⟨#[]⟩ 0/\Below w.heap.size w (u.setCell ⟨w.heap.size,2,none⟩ (.string a)):=by
 refine⟨?_,h.ans.set (by omega) _,h.bel.setCell (p:=⟨w.heap.size,2,none⟩) bR _⟩;have e:=heap_setCell_same u w.heap.size 2 _ _ (.string a) h.disk;show _=_
 rw[e];simp
theorem ap7 {o:Dn}(b:o.text.size<=60) (a:o.val.size<=60):(oo o).size<=200:=by
 rw[a25];split <;> omega
theorem Ij {w:World} {B Bl na cd:Nat} {ad:Option Addr} {ve vr:Value} {R:RA} {l:List Rw}(r log:ByteArray) (syn:Int) (o:Dn) (aF:log.size<=1000000) (aw:o.text.size<=1048576) (aH:o.val.size<=1048576) (hE:ac w B ve R.es) (av:ay R.es R.lv=true) (hl:Rws w Bl vr l) (aq:im R l) :
  Calls prog 37 #[.agg #[.string r,.slice ad na cd,.string log,.int .i64 syn],.agg #[ve,.bool R.sh,.int .i64 R.lv],vr,.agg #[.int .i64 (kn7 o),.string o.text,.string o.val]] w fun e w' =>
   e=.returned (.tuple #[.agg #[.string r,.slice ad na cd,.string (wrC R l log o).2,.int .i64 syn],.int .i64 (wrC R l log o).1])/\Below w.heap.size w w':=by
 obtain⟨M,N,rfl⟩:=cu hE;obtain⟨ar,cr,aD⟩:=bz hl;subst aD;obtain⟨W0,Y⟩:∃ W0,W0=(((w.alloc (.cells #[.string r,.slice ad na cd,.string log,.int .i64 syn] 25)).alloc (.cells #[.slice M R.es.length N,.bool R.sh,.int .i64 R.lv] 56)).alloc (.cells #[.int .i64 (kn7 o),.string o.text,.string o.val] 27)).alloc (.cells #[.string ⟨#[]⟩,.slice none 0 0,.string ⟨#[]⟩,.int .i64 0] 25):=⟨_,rfl⟩
 obtain⟨J,a9⟩:∃ J,J=kn7 o:=⟨_,rfl⟩
 have aj:Below w.heap.size w W0:=by rw[Y];exact (((bY _).alloc (by simp) _).alloc (by simp;omega) _).alloc (by simp;omega) _
 have H:Hid (Hw7 w W0 r (.slice ad na cd) log syn (.slice M R.es.length N) R J o):=by
  refine⟨?_,?_,?_,?_,⟨B,hE.below aj⟩,aj⟩
  .show _=_
   rw[Y,Below.heap_alloc _ _ _ (by simp;omega),Below.heap_alloc _ _ _ (by simp;omega),Below.heap_alloc _ _ _ (by simp)];exact heap_alloc_new w _
  .show _=_
   rw[Y,Below.heap_alloc _ _ _ (by simp),Below.heap_alloc _ _ _ (by simp)];have h:=heap_alloc_new (w.alloc (.cells #[.string r,.slice ad na cd,.string log,.int .i64 syn] 25)) (.cells #[.slice M R.es.length N,.bool R.sh,.int .i64 R.lv] 56);rw[World.size_alloc]at h;exact h
  .show _=_
   rw[Y,Below.heap_alloc _ _ _ (by simp),a9];have h:=heap_alloc_new ((w.alloc (.cells #[.string r,.slice ad na cd,.string log,.int .i64 syn] 25)).alloc (.cells #[.slice M R.es.length N,.bool R.sh,.int .i64 R.lv] 56)) (.cells #[.int .i64 (kn7 o),.string o.text,.string o.val] 27);rw[World.size_alloc,World.size_alloc]at h;exact h
  .show _=_
   rw[Y];have h:=heap_alloc_new (((w.alloc (.cells #[.string r,.slice ad na cd,.string log,.int .i64 syn] 25)).alloc (.cells #[.slice M R.es.length N,.bool R.sh,.int .i64 R.lv] 56)).alloc (.cells #[.int .i64 (kn7 o),.string o.text,.string o.val] 27)) (.cells #[.string ⟨#[]⟩,.slice none 0 0,.string ⟨#[]⟩,.int .i64 0] 25);rw[World.size_alloc,World.size_alloc,World.size_alloc]at h;exact h
 have HL:Hid (∀ u,Below w.heap.size w u->Rws u Bl (.slice ar l.length cr) l):=fun u hu=>hl.below hu
 have s:Hid (W0=(((w.alloc (.cells #[.string r,.slice ad na cd,.string log,.int .i64 syn] 25)).alloc (.cells #[.slice M R.es.length N,.bool R.sh,.int .i64 R.lv] 56)).alloc (.cells #[.int .i64 J,.string o.text,.string o.val] 27)).alloc (.cells #[.string ⟨#[]⟩,.slice none 0 0,.string ⟨#[]⟩,.int .i64 0] 25)):=by rw[a9];exact Y
 obtain⟨Be,ap⟩:=H.out.ents;have g:=Cj o.text aw ap av;obtain⟨an,u0,u1,u2⟩:=H.out.rul.facts;obtain⟨n,t,x,y⟩:=H.out.dob.facts;have a8:=hZ aq;have D:Hid (J=kn7 o):=a9;rw[<- a9];clear hE hl aq aj Y ap a9
 cases hfit:gn R o.text
 .have j:Hid (wrC R l log o=(2,log)):=by show _=_;unfold wrC;rw[rz (by rw[hfit];rfl),if_neg (by decide)]
  rw[hfit]at g;generalize (if o.text.size<=60 then bh R o.text else ⟨#[]⟩)=G at g;clear hfit D;go_enter func37,ntmps37;go_upto_region 1 with fail
  rw[<- s.out];clear s;go_wp2_with fail;refine g.mono ?_;rintro e K ⟨rfl,d⟩;have a:=hZ (H.out.below d);obtain⟨n,t,x,y⟩:=a.out.dob.facts;clear g d;obtain⟨P,T,U,V,W,X⟩:=a.out.ans.facts;obtain⟨a1,aa,ab,ae,af,ag⟩:=a.out.disk.facts;have i:Hid (Below _ _ _):=jk (p:=w.heap.size+3) a.out.bel (by omega) (.string r) (.slice ad na cd) (.string log) (.int .i64 syn);go_wp2;refine bodyPost_ret (v:=.tuple #[.agg #[.string r,.slice ad na cd,.string log,.int .i64 syn],.int .i64 2]) ?_ rfl ⟨by rw[j.out],i.out⟩;rw[results_cell_tmp rfl];go_simp
 .obtain⟨am,aE⟩:=vk hfit
  rw[if_pos am,hfit]at g;obtain⟨G,Q⟩:∃ G,G=bh R o.text:=⟨_,rfl⟩
  rw[<- Q]at g;by_cases Z:¬ o.val.size<=60
  .have j:Hid (wrC R l log o=(2,log)):=by show _=_;unfold wrC;rw[rz (by rw[hfit,decide_eq_false Z];rfl),if_neg (by decide)]
   have aC:(60:Int)<(o.val.size:Int):=by omega
   clear hfit Q D;go_enter func37,ntmps37;go_upto_region 1 with fail
   rw[<- s.out];clear s;go_wp2_with fail;refine g.mono ?_;rintro e K ⟨rfl,d⟩;have a:=hZ (H.out.below d);obtain⟨n,t,x,y⟩:=a.out.dob.facts;clear g d;obtain⟨P,T,U,V,W,X⟩:=a.out.ans.facts;obtain⟨a1,aa,ab,ae,af,ag⟩:=a.out.disk.facts;have i:Hid (Below _ _ _):=jk (p:=w.heap.size+3) a.out.bel (by omega) (.string r) (.slice ad na cd) (.string log) (.int .i64 syn);go_wp2;refine bodyPost_ret (v:=.tuple #[.agg #[.string r,.slice ad na cd,.string log,.int .i64 syn],.int .i64 2]) ?_ rfl ⟨by rw[j.out],i.out⟩;rw[results_cell_tmp rfl];go_simp
  .replace Z:o.val.size<=60:=Decidable.not_not.1 Z
   have aC:¬ (60:Int)<(o.val.size:Int):=by omega
   have a6:(gn R o.text && decide (o.val.size<=60))=true:=by rw[hfit,decide_eq_true Z];rfl
   have k:=fun (u:World) (hu:Below w.heap.size w u)=>Dl (c:=cr) G (ew (HL.out u hu)) (by have:=a8.out.len;omega) a8.out.rise
   have O:Hid (∀ u,Below w.heap.size w u->(∃ B,ac u B (.slice M R.es.length N) R.es)->Calls prog 79 #[.agg #[.slice M R.es.length N,.bool R.sh,.int .i64 R.lv],.slice ar l.length cr,.agg #[.int .i64 J,.string o.text,.string o.val]] u fun e w'=>∃ v,e=.returned (.tuple #[v,.bool (decide (apC R l o=0))])/\(apC R l o=0->Rws w' u.heap.size v (apR R l o))/\Below u.heap.size u w'):=fun u hu ⟨_,q⟩=>by rw[D.out];exact Gn o aw Z q av (HL.out u hu) a8.out.rise a8.out.len
   have a4:Hid (∀ u,Calls prog 83 #[.agg #[.int .i64 J,.string o.text,.string o.val]] u fun e w'=>e=.returned (.string (oo o))/\Below u.heap.size u w'):=fun u=>by rw[D.out];exact Ty u o am Z
   have aG:=ap7 am Z;have a5:Hid (apC R l o=0->(apR R l o).length<=60):=fun h=>(a8.out.step h).len
   cases hput:o.put
   .have I:=Fg (l:=l) a6 hput
    have ak:J=2:=by rw[D.out];unfold kn7;rw[hput];rfl
    rw[<- Q]at I;subst ak
    cases hth:d9 l G
    .have j:Hid (wrC R l log o=(4,log)):=by show _=_;unfold wrC;rw[I,hth,if_neg (by decide),if_neg (by decide)]
     rw[hth]at k;generalize az l G=p at k;clear hfit Q D a6 I hth hput O a4 a5;go_enter func37,ntmps37;go_upto_region 1 with fail
     rw[<- s.out];clear s;go_wp2_with fail;refine g.mono ?_;rintro e K ⟨rfl,d⟩;have a:=hZ (H.out.below d);obtain⟨n,t,x,y⟩:=a.out.dob.facts;have z:=k K a.out.bel;clear g d k;go_wp2_with fail;refine z.mono ?_;rintro e w2 ⟨rfl,C⟩;have b:=hZ (a.out.below C);obtain⟨n,t,x,y⟩:=b.out.dob.facts;clear z C;obtain⟨P,T,U,V,W,X⟩:=b.out.ans.facts;obtain⟨a1,aa,ab,ae,af,ag⟩:=b.out.disk.facts;have i:Hid (Below _ _ _):=jk (p:=w.heap.size+3) b.out.bel (by omega) (.string r) (.slice ad na cd) (.string log) (.int .i64 syn);go_wp2;refine bodyPost_ret (v:=.tuple #[.agg #[.string r,.slice ad na cd,.string log,.int .i64 syn],.int .i64 4]) ?_ rfl ⟨by rw[j.out],i.out⟩;rw[results_cell_tmp rfl];go_simp
    .have f:apC R l o=0:=by rw[I,hth];rfl
     rw[hth]at k;generalize az l G=p at k;clear hfit Q D a6 I hth hput;have a7:Hid (decide (apC R l o=0)=true):=decide_eq_true f;have a2:Hid ((apR R l o).length<=60):=a5.out f;have F:Hid (wrC R l log o=if log.size+(oo o).size<=6000 then (0,log++oo o) else (3,log)):=by show _=_;unfold wrC;rw[if_pos f]
     have ah:Hid (apC R l o=0):=f;clear f a5;go_enter func37,ntmps37;go_upto_region 1 with fail
     rw[<- s.out];clear s;go_wp2_with fail;refine g.mono ?_;rintro e K ⟨rfl,d⟩;have a:=hZ (H.out.below d);obtain⟨n,t,x,y⟩:=a.out.dob.facts;have z:=k K a.out.bel;clear g d k;go_wp2_with fail;refine z.mono ?_;rintro e w2 ⟨rfl,C⟩;have b:=hZ (a.out.below C);obtain⟨n,t,x,y⟩:=b.out.dob.facts;obtain⟨an,u0,u1,u2⟩:=b.out.rul.facts;have A:=O.out w2 b.out.bel b.out.ents;rw[a7.out]at A;clear z C O;go_wp2_with fail;refine A.mono ?_;rintro e w3 ⟨v3,rfl,r3,L⟩;obtain⟨a3,c3,ao⟩:=bz (r3 ah.out);subst ao;have E:=hZ (b.out.below L);obtain⟨n,t,x,y⟩:=E.out.dob.facts;have aB:=a2.out;generalize (apR R l o).length=ln at *
     have al:¬ (60:Int)<(ln:Int):=by omega
     have BY:=a4.out w3;generalize oo o=rb at *;clear A r3 L a4;go_wp2_with fail;refine BY.mono ?_;rintro e w4 ⟨rfl,b4⟩;have m:=hZ (E.out.below b4);obtain⟨aA,d0,d1,d2,d3,df⟩:=m.out.disk.facts;clear BY b4;by_cases h6:log.size+rb.size<=6000
     .have ai:¬ (6000:Int)<(log.size:Int)+(rb.size:Int):=by omega
      have j:Hid (wrC R l log o=(0,log++rb)):=by show _=_;rw[F.out,if_pos h6]
      obtain⟨S,a0⟩:∃ S,S=log++rb:=⟨_,rfl⟩
      have ax:Hid (S=log++rb):=a0;obtain⟨k1,k2,k3⟩:=m.out.log (log++rb);have i:Hid (Below _ _ _):=jk (p:=w.heap.size+3) k3 (by omega) (.string r) (.slice ad na cd) (.string (log++rb)) (.int .i64 syn);obtain⟨P,T,U,V,W,X⟩:=m.out.ans.facts;clear k1 k2 k3 F a0;go_wp2;refine bodyPost_ret (v:=.tuple #[.agg #[.string r,.slice ad na cd,.string (log++rb),.int .i64 syn],.int .i64 0]) ?_ rfl ⟨by rw[j.out],i.out⟩;rw[results_cell_tmp rfl];go_simp
     .have ai:(6000:Int)<(log.size:Int)+(rb.size:Int):=by omega
      have j:Hid (wrC R l log o=(3,log)):=by show _=_;rw[F.out,if_neg h6]
      clear F;obtain⟨P,T,U,V,W,X⟩:=m.out.ans.facts;obtain⟨a1,aa,ab,ae,af,ag⟩:=m.out.disk.facts;have i:Hid (Below _ _ _):=jk (p:=w.heap.size+3) m.out.bel (by omega) (.string r) (.slice ad na cd) (.string log) (.int .i64 syn);go_wp2;refine bodyPost_ret (v:=.tuple #[.agg #[.string r,.slice ad na cd,.string log,.int .i64 syn],.int .i64 3]) ?_ rfl ⟨by rw[j.out],i.out⟩;rw[results_cell_tmp rfl];go_simp
   .have I:=Im (l:=l) a6 hput
    have ak:J=1:=by rw[D.out];unfold kn7;rw[hput];rfl
    subst ak;generalize d9 l G=th at k;generalize az l G=p at k;by_cases f:apC R l o=0
    .clear hfit Q D a6 I hput
     have a7:Hid (decide (apC R l o=0)=true):=decide_eq_true f;have a2:Hid ((apR R l o).length<=60):=a5.out f;have F:Hid (wrC R l log o=if log.size+(oo o).size<=6000 then (0,log++oo o) else (3,log)):=by show _=_;unfold wrC;rw[if_pos f]
     have ah:Hid (apC R l o=0):=f;clear f a5;go_enter func37,ntmps37;go_upto_region 1 with fail
     rw[<- s.out];clear s;go_wp2_with fail;refine g.mono ?_;rintro e K ⟨rfl,d⟩;have a:=hZ (H.out.below d);obtain⟨n,t,x,y⟩:=a.out.dob.facts;have z:=k K a.out.bel;clear g d k;go_wp2_with fail;refine z.mono ?_;rintro e w2 ⟨rfl,C⟩;have b:=hZ (a.out.below C);obtain⟨n,t,x,y⟩:=b.out.dob.facts;obtain⟨an,u0,u1,u2⟩:=b.out.rul.facts;have A:=O.out w2 b.out.bel b.out.ents;rw[a7.out]at A;clear z C O;go_wp2_with fail;refine A.mono ?_;rintro e w3 ⟨v3,rfl,r3,L⟩;obtain⟨a3,c3,ao⟩:=bz (r3 ah.out);subst ao;have E:=hZ (b.out.below L);obtain⟨n,t,x,y⟩:=E.out.dob.facts;have aB:=a2.out;generalize (apR R l o).length=ln at *
     have al:¬ (60:Int)<(ln:Int):=by omega
     have BY:=a4.out w3;generalize oo o=rb at *;clear A r3 L a4;go_wp2_with fail;refine BY.mono ?_;rintro e w4 ⟨rfl,b4⟩;have m:=hZ (E.out.below b4);obtain⟨aA,d0,d1,d2,d3,df⟩:=m.out.disk.facts;clear BY b4;by_cases h6:log.size+rb.size<=6000
     .have ai:¬ (6000:Int)<(log.size:Int)+(rb.size:Int):=by omega
      have j:Hid (wrC R l log o=(0,log++rb)):=by show _=_;rw[F.out,if_pos h6]
      obtain⟨S,a0⟩:∃ S,S=log++rb:=⟨_,rfl⟩
      have ax:Hid (S=log++rb):=a0;obtain⟨k1,k2,k3⟩:=m.out.log (log++rb);have i:Hid (Below _ _ _):=jk (p:=w.heap.size+3) k3 (by omega) (.string r) (.slice ad na cd) (.string (log++rb)) (.int .i64 syn);obtain⟨P,T,U,V,W,X⟩:=m.out.ans.facts;clear k1 k2 k3 F a0;go_wp2;refine bodyPost_ret (v:=.tuple #[.agg #[.string r,.slice ad na cd,.string (log++rb),.int .i64 syn],.int .i64 0]) ?_ rfl ⟨by rw[j.out],i.out⟩;rw[results_cell_tmp rfl];go_simp
     .have ai:(6000:Int)<(log.size:Int)+(rb.size:Int):=by omega
      have j:Hid (wrC R l log o=(3,log)):=by show _=_;rw[F.out,if_neg h6]
      clear F;obtain⟨P,T,U,V,W,X⟩:=m.out.ans.facts;obtain⟨a1,aa,ab,ae,af,ag⟩:=m.out.disk.facts;have i:Hid (Below _ _ _):=jk (p:=w.heap.size+3) m.out.bel (by omega) (.string r) (.slice ad na cd) (.string log) (.int .i64 syn);go_wp2;refine bodyPost_ret (v:=.tuple #[.agg #[.string r,.slice ad na cd,.string log,.int .i64 syn],.int .i64 3]) ?_ rfl ⟨by rw[j.out],i.out⟩;rw[results_cell_tmp rfl];go_simp
    .have au:apC R l o=3:=by rw[I]at f ⊢;split at f;exact absurd rfl f;rename_i q;rw[if_neg q]
     have j:Hid (wrC R l log o=(3,log)):=by show _=_;unfold wrC;rw[au,if_neg (by decide)]
     have a7:Hid (decide (apC R l o=0)=false):=decide_eq_false f;clear hfit Q D a6 I hput au f a4 a5;go_enter func37,ntmps37;go_upto_region 1 with fail
     rw[<- s.out];clear s;go_wp2_with fail;refine g.mono ?_;rintro e K ⟨rfl,d⟩;have a:=hZ (H.out.below d);obtain⟨n,t,x,y⟩:=a.out.dob.facts;have z:=k K a.out.bel;clear g d k;go_wp2_with fail;refine z.mono ?_;rintro e w2 ⟨rfl,C⟩;have b:=hZ (a.out.below C);obtain⟨n,t,x,y⟩:=b.out.dob.facts;obtain⟨an,u0,u1,u2⟩:=b.out.rul.facts;have A:=O.out w2 b.out.bel b.out.ents;rw[a7.out]at A;clear z C O;go_wp2_with fail;refine A.mono ?_;rintro e w3 ⟨v3,rfl,r3,L⟩;have E:=hZ (b.out.below L);clear A r3 L;obtain⟨P,T,U,V,W,X⟩:=E.out.ans.facts;obtain⟨a1,aa,ab,ae,af,ag⟩:=E.out.disk.facts
     have i:Hid (Below _ _ _):=jk (p:=w.heap.size+3) E.out.bel (by omega) (.string r) (.slice ad na cd) (.string log) (.int .i64 syn);go_wp2;refine bodyPost_ret (v:=.tuple #[.agg #[.string r,.slice ad na cd,.string log,.int .i64 syn],.int .i64 3]) ?_ rfl ⟨by rw[j.out],i.out⟩;rw[results_cell_tmp rfl];go_simp
theorem ag9 {w:World} {B c:Nat} {a:Option Addr} {l:List Rw}(h:Rws w B (.slice a l.length c) l):l.length<=c/\c<=9223372036854775807:=by
 rcases h.form with ⟨d,e⟩|⟨g,i,d,e,b⟩
 .injection d with _ _ b
  subst b;subst e;exact⟨bR,by omega⟩
 .injection d with _ _ f
  subst f;exact⟨e,by unfold maxLen at b;exact b⟩
theorem W3 {w:World} {B c:Nat} {a:Option Addr} {l:List Rw}(d:Rws w B (.slice a l.length c) l) (b:dm l=true) :
  Calls prog 36 #[.slice a l.length c] w fun e w'=>∃ v,e=.returned (.tuple #[v,.bool (pu l).isSome])/\(∀ pp,pu l=some pp->ak w' w.heap.size v pp)/\Below w.heap.size w w':=by
 obtain⟨k,m⟩:=ag9 d;refine (Ru (ew d) b k m).mono fun e w' ⟨v,he,hs,hb⟩=>⟨v,?_,fun pp hp=>?_,hb⟩
 .rw[he,<- Ip b]
  cases hc:ur l with
  | none=>rw[zd hc];rfl
  | some gs=>rw[ze hc];rfl
 .cases hc:ur l with
  | none=>rw[zd hc]at hp;cases hp
  | some gs =>
   rw[ze hc]at hp;obtain⟨_,h⟩:=Sm hc;have j:scF [] l=some gs:=a81 (by rw[<- Ip b];exact hc);have i:gs.map pgT=gs.map pbT:=List.map_congr_left fun g hgm=>(a15 (h g hgm)).symm
   have f:=hs gs j;rw[i]at f
   cases hp
   exact f
def Bw (w:World) (P:Int × Ds7) (e:Ending) (w':World):Prop :=
 ∃ vp,e=.returned (.tuple #[.agg #[.string P.2.r,vp,.string P.2.log,.int .i64 P.2.syn],.int .i64 P.1])/\ak w' w.heap.size vp P.2.ss/\Below w.heap.size w w'
theorem Ah {d:Ds7} {k:Int} {x v:ByteArray}(h:fu d=none):do7 d k x v=(1,zD7):=by unfold do7;rw[h]
theorem qn {d:Ds7} {l:List Rw} {k:Int} {x v:ByteArray}(h:fu d=some l) (a:¬ (ov d && Am k x v)=true):do7 d k x v=(1,zD7):=by
 unfold do7;rw[h];show (if _ then _ else _)=_
 rw[if_neg a]
theorem Fk {d:Ds7} {l:List Rw} {k:Int} {x v:ByteArray}(h:fu d=some l) (b:ov d=true) (a:Am k x v=true):do7 d k x v=doL d l k x v:=by
 unfold do7;rw[h];show (if _ then _ else _)=_
 rw[if_pos (by rw[b,a];rfl)]
theorem Jq {d:Ds7} {l:List Rw} {k:Int} {x v:ByteArray}(a:k≠3) (b:k≠4):doL d l k x v=((wrC (aa d.r) l d.log (dn7 k x v)).1,{ d with log:=(wrC (aa d.r) l d.log (dn7 k x v)).2 }):=by
 unfold doL wrC;rw[if_neg a,if_neg b];split
 .split <;> rfl
 .rfl
structure Hd9 (w u:World) (br:Nat) (d:Ds7) (vp ve vr:Value) (R:RA) (l:List Rw) (k:Int) (x v:ByteArray):Prop where
 disk:ba u w.heap.size d.r vp d.log d.syn
 dob:gi u (w.heap.size+1) k x v
 ans:ba u (w.heap.size+2) ⟨#[]⟩ (.slice none 0 0) ⟨#[]⟩ 0
 rul:jf u br ve R.sh R.lv
 ents:ac u w.heap.size ve R.es
 rows:Rws u w.heap.size vr l
 bel:Below w.heap.size w u
 hbr:w.heap.size+2<br
theorem Hd9.below {w u u':World} {b:Nat} {d:Ds7} {e c vr:Value} {R:RA} {l:List Rw} {k:Int} {x v:ByteArray}(h:Hd9 w u b d e c vr R l k x v) (a:Below u.heap.size u u'):Hd9 w u' b d e c vr R l k x v :=
 ⟨h.disk.below a,h.dob.below a,h.ans.below a,h.rul.below a,h.ents.below a,h.rows.below a,h.bel.trans (a.mono h.bel.size),h.hbr⟩
theorem em {u u':World} {p q:Nat} {cs:Array Value} {t:TypeId}(g:u.grownBy u' (some q)) (a:p≠q) (h:u.heap[p]? = some (.cells cs t (0,0))):u'.heap[p]? = some (.cells cs t (0,0)) :=
 (g.block p (Array.getElem?_eq_some_iff.1 h).1 (fun e=>a (Option.some.inj e))).trans h
theorem Hd9.own {w u:World} {b:Nat} {d:Ds7} {e c vr:Value} {R:RA} {l:List Rw} {k:Int} {x v:ByteArray}(h:Hd9 w u b d e c vr R l k x v) (a:Value):Hd9 w (s4D u w.heap.size (.string d.r) a (.string d.log) (.int .i64 d.syn)) b d a c vr R l k x v :=
 have g:=lu u w.heap.size (.string d.r) a (.string d.log) (.int .i64 d.syn);have f:=h.hbr;⟨Iu h.disk _ _ _ _,em g (by omega) h.dob,em g (by omega) h.ans,em g (by omega) h.rul,h.ents.boxT h.disk (by decide) (by decide) g,h.rows.box h.disk (by decide) g,jk h.bel bR _ _ _ _,h.hbr⟩
theorem ki {w u:World} {a:Value} {ss:List ByteArray}(b:ba u (w.heap.size+2) ⟨#[]⟩ (.slice none 0 0) ⟨#[]⟩ 0) (c:Below w.heap.size w u) (d:ak u w.heap.size a ss) (r log:ByteArray) (syn:Int) :
  ak (s4D u (w.heap.size+2) (.string r) a (.string log) (.int .i64 syn)) w.heap.size a ss/\Below w.heap.size w (s4D u (w.heap.size+2) (.string r) a (.string log) (.int .i64 syn)) :=
 ⟨d.box b (by decide) (lu u (w.heap.size+2) (.string r) a (.string log) (.int .i64 syn)),jk c (by omega) _ _ _ _⟩
theorem ez (u:World) (B:Nat):ak u B (.slice none 0 0) []:=World.ownsRow_nil _ _ _ _
theorem Cp {x:ByteArray}(h:¬ x.size=0):x.toList.isEmpty=false/\(x.toList == [])=false/\(x.toList != [])=true:=by
 have a:x.toList.isEmpty=false:=by rw[Cf];exact decide_eq_false h
 have b:x.toList≠[]:=fun c=>by rw[c]at a;cases a
 exact⟨a,by simpa using b,by simpa using b⟩
theorem Mt {x:ByteArray}(h:x.size=0):x=⟨#[]⟩:=by
 rcases x with ⟨⟨l⟩⟩
 cases l with
 | nil=>rfl
 | cons a l=>simp[ByteArray.size]at h
theorem b31 {w:World} {B:Nat} {vd:Value} {d:Ds7}(x v:ByteArray) (hx:x.size<=1048576) (hv:v.size<=1048576) (F:Dk7 w B vd d) :
  Calls prog 8 #[.agg #[.string d.r,vd,.string d.log,.int .i64 d.syn],.agg #[.int .i64 1,.string x,.string v]] w fun e w'=>Bw w (do7 d 1 x v) e w':=by
 obtain⟨ad,cd,aC⟩:=F.form;subst aC;obtain⟨W0,t⟩:∃ W0,W0=((w.alloc (.cells #[.string d.r,.slice ad d.ss.length cd,.string d.log,.int .i64 d.syn] 25)).alloc (.cells #[.int .i64 1,.string x,.string v] 27)).alloc (.cells #[.string ⟨#[]⟩,.slice none 0 0,.string ⟨#[]⟩,.int .i64 0] 25):=⟨_,rfl⟩
 have ab:Below w.heap.size w W0:=by rw[t];exact ((bY _).alloc (by simp) _).alloc (by simp;omega) _
 have aI:W0.heap.size=w.heap.size+3:=by rw[t];simp
 have ae:ba W0 w.heap.size d.r (.slice ad d.ss.length cd) d.log d.syn:=by
  show _=_
  rw[t,Below.heap_alloc _ _ _ (by simp;omega),Below.heap_alloc _ _ _ (by simp)];exact heap_alloc_new w _
 have ag:gi W0 (w.heap.size+1) 1 x v:=by
  show _=_
  rw[t,Below.heap_alloc _ _ _ (by simp)];have h:=heap_alloc_new (w.alloc (.cells #[.string d.r,.slice ad d.ss.length cd,.string d.log,.int .i64 d.syn] 25)) (.cells #[.int .i64 1,.string x,.string v] 27);rw[World.size_alloc]at h;exact h
 have az:ba W0 (w.heap.size+2) ⟨#[]⟩ (.slice none 0 0) ⟨#[]⟩ 0:=by
  show _=_
  rw[t];have h:=heap_alloc_new ((w.alloc (.cells #[.string d.r,.slice ad d.ss.length cd,.string d.log,.int .i64 d.syn] 25)).alloc (.cells #[.int .i64 1,.string x,.string v] 27)) (.cells #[.string ⟨#[]⟩,.slice none 0 0,.string ⟨#[]⟩,.int .i64 0] 25);rw[World.size_alloc,World.size_alloc]at h;exact h
 have D:=om (F.below ab);have H:Hid (∀ u,Below w.heap.size w u->Dk7 u B (.slice ad d.ss.length cd) d):=fun u hu=>F.below hu
 have HW:Hid (W0=((w.alloc (.cells #[.string d.r,.slice ad d.ss.length cd,.string d.log,.int .i64 d.syn] 25)).alloc (.cells #[.int .i64 1,.string x,.string v] 27)).alloc (.cells #[.string ⟨#[]⟩,.slice none 0 0,.string ⟨#[]⟩,.int .i64 0] 25)):=t;have z:Hid (Below w.heap.size w W0):=ab;have a5:Hid (ba W0 w.heap.size d.r (.slice ad d.ss.length cd) d.log d.syn):=ae;have V:Hid (gi W0 (w.heap.size+1) 1 x v):=ag;have a4:Hid (ba W0 (w.heap.size+2) ⟨#[]⟩ (.slice none 0 0) ⟨#[]⟩ 0):=az;obtain⟨a1,d0,d1,d2,d3,df⟩:=ae.facts;obtain⟨M,R,S,T⟩:=ag.facts;have aG:=F.ok.log;have W:Hid (Ok7 d):=F.ok;have U:Hid (∀ u,Calls prog 34 #[.int .i64 1,.int .i64 1,.int .i64 4] u fun e w'=>e=.returned (.bool true)/\w'=u):=fun u=>by
  have q:=zv u 1 1 4;rw[decide_eq_true (by decide)]at q;exact q
 clear F ab ae ag az t
 cases ho:fu d with
 | none =>
  have N:Hid (do7 d 1 x v=(1,zD7)):=Ah ho;rw[ho]at D;have I:Calls prog 32 #[.agg #[.string d.r,(.slice ad d.ss.length cd),.string d.log,.int .i64 d.syn]] W0 fun e w'=>∃ y a,e=.returned (.tuple #[.agg #[y,.bool (aa d.r).sh,.int .i64 (aa d.r).lv],a,.bool false])/\ac w' W0.heap.size y (aa d.r).es/\Rws w' W0.heap.size a []/\Below W0.heap.size W0 w':=D
  clear D ho H U W;go_enter func8,ntmps8;go_upto_region 1 with fail
  rw[<- HW.out];clear HW;go_wp2_with fail;refine I.mono ?_;rintro e b ⟨y,a,rfl,E,Q,c⟩;obtain⟨k,m,ah⟩:=cu E;subst ah;have a9:=a4.out.below c;have aA:=z.out.trans (c.mono z.out.size);obtain⟨M,R,S,T⟩:=(V.out.below c).facts;obtain⟨a0,aj,al,am,an,ao⟩:=a9.facts;obtain⟨p,j⟩:=ki a9 aA (ez _ _) ⟨#[]⟩ ⟨#[]⟩ 0;have G:Hid (∀ o,Below w.heap.size w ((s4D b (w.heap.size+2) (.string ⟨#[]⟩) (.slice none 0 0) (.string ⟨#[]⟩) (.int .i64 0)).alloc o)):=fun o=>j.alloc j.size o
  clear p j I E Q c a9 aA;go_wp2;refine bodyPost_ret (v:=.tuple #[.agg #[.string ⟨#[]⟩,.slice none 0 0,.string ⟨#[]⟩,.int .i64 0],.int .i64 1]) ?_ rfl ?_
  .rw[results_cell_tmp rfl]
   go_simp
  .rw[N.out]
   exact⟨.slice none 0 0,rfl,ez _ _,G.out _⟩
 | some l =>
  have s:Hid (fu d=some l):=ho;rw[ho]at D;have I:Calls prog 32 #[.agg #[.string d.r,(.slice ad d.ss.length cd),.string d.log,.int .i64 d.syn]] W0 fun e w'=>∃ y a,e=.returned (.tuple #[.agg #[y,.bool (aa d.r).sh,.int .i64 (aa d.r).lv],a,.bool true])/\ac w' W0.heap.size y (aa d.r).es/\Rws w' W0.heap.size a l/\Below W0.heap.size W0 w':=D
  clear D ho;go_enter func8,ntmps8;go_upto_region 1 with fail
  rw[<- HW.out];clear HW;go_wp2_with fail;refine I.mono ?_;rintro e b ⟨y,a,rfl,E,Q,c⟩;obtain⟨k,m,ah⟩:=cu E;subst ah;obtain⟨ar,cr,aE⟩:=bz Q;obtain⟨w2,a2⟩:∃ w2,w2=b.alloc (.cells #[.slice k (aa d.r).es.length m,.bool (aa d.r).sh,.int .i64 (aa d.r).lv] 56):=⟨_,rfl⟩
  have a8:Hid (w2=b.alloc (.cells #[.slice k (aa d.r).es.length m,.bool (aa d.r).sh,.int .i64 (aa d.r).lv] 56)):=a2;have X:Below b.heap.size b w2:=by rw[a2];exact bY _
  have J:=c.trans (X.mono c.size);have af:Hd9 w w2 b.heap.size d (.slice ad d.ss.length cd) (.slice k (aa d.r).es.length m) a (aa d.r) l 1 x v:=⟨a5.out.below J,V.out.below J,a4.out.below J,by show _=_;rw[a2];exact heap_alloc_new b _,(ac.low E z.out.size).below X,(cz Q z.out.size).below X,z.out.trans (J.mono z.out.size),by have:=c.size;omega⟩;have C:=uf (H.out w2 af.bel);have a6:Hid (Hd9 w w2 b.heap.size d (.slice ad d.ss.length cd) (.slice k (aa d.r).es.length m) a (aa d.r) l 1 x v):=af;obtain⟨a1,d0,d1,d2,d3,df⟩:=(a5.out.below c).facts;obtain⟨M,R,S,T⟩:=(V.out.below c).facts;clear I E Q c X J a2 af a5 V a4
  cases hsy:ov d
  .have N:Hid (do7 d 1 x v=(1,zD7)):=qn s.out (by rw[hsy];simp)
   have L:(cm d).isSome=false:=by unfold cm;rw[if_neg (by rw[hsy];simp)];rfl
   rw[L]at C;clear hsy L U H W s;go_wp2_with fail;rw[<- a8.out];refine C.mono ?_;rintro e w3 ⟨rfl,O⟩;have K:=a6.out.below O;obtain⟨M,R,S,T⟩:=K.dob.facts;obtain⟨a0,aj,al,am,an,ao⟩:=K.ans.facts;obtain⟨p,j⟩:=ki K.ans K.bel (ez _ _) ⟨#[]⟩ ⟨#[]⟩ 0;have a7:Hid (ak _ _ _ _):=p;have G:Hid (Below _ _ _):=j;clear p j K O C;go_wp2;refine bodyPost_ret (v:=.tuple #[.agg #[.string ⟨#[]⟩,.slice none 0 0,.string ⟨#[]⟩,.int .i64 0],.int .i64 1]) ?_ rfl ?_
   .rw[results_cell_tmp rfl]
    go_simp
   .rw[N.out]
    exact⟨.slice none 0 0,rfl,a7.out,G.out⟩
  .have L:(cm d).isSome=true:=by unfold cm;rw[if_pos hsy,s.out];rfl
   rw[L]at C;have aw:Hid (ov d=true):=hsy;clear hsy L;go_wp2_with fail;rw[<- a8.out];refine C.mono ?_;rintro e w3 ⟨rfl,O⟩;have A:Hid (Hd9 w w3 b.heap.size d (.slice ad d.ss.length cd) (.slice k (aa d.r).es.length m) a (aa d.r) l 1 x v):=a6.out.below O;have IN:=U.out w3;obtain⟨M,R,S,T⟩:=A.out.dob.facts;clear C O a6 a8 U;go_wp2_with fail;refine IN.mono ?_;rintro e aJ ⟨rfl,ai⟩;replace ai:=ai.symm;subst ai;clear IN;have au:Hid (do7 d 1 x v=doL d l 1 x v):=Fk s.out aw.out (by rfl);have OW:=Fx (H.out w3 A.out.bel);obtain⟨a1,d0,d1,d2,d3,df⟩:=A.out.disk.facts;clear aw H;go_wp2_with fail;refine OW.mono ?_;rintro e w4 ⟨vp,rfl,s4,b4⟩;obtain⟨f,g,aD⟩:=ip s4;subst aD;have Y:=A.out.below b4;obtain⟨n,a3⟩:∃ n,n=s4D w4 w.heap.size (.string d.r) (.slice f d.ss.length g) (.string d.log) (.int .i64 d.syn):=⟨_,rfl⟩
   have i:Hd9 w n b.heap.size d (.slice f d.ss.length g) (.slice k (aa d.r).es.length m) a (aa d.r) l 1 x v:=by rw[a3];exact Y.own _
   have av:Hid (ak n w.heap.size (.slice f d.ss.length g) d.ss):=by rw[a3];exact (kq s4 A.out.bel.size).box Y.disk (by decide) (lu _ _ _ _ _ _)
   have ax:Hid ((((w4.setCell ⟨w.heap.size,0,none⟩ (.string d.r)).setCell ⟨w.heap.size,1,none⟩ (.slice f d.ss.length g)).setCell ⟨w.heap.size,2,none⟩ (.string d.log)).setCell ⟨w.heap.size,3,none⟩ (.int .i64 d.syn)=n):=a3.symm;have aq:Hid (Hd9 w n b.heap.size d (.slice f d.ss.length g) (.slice k (aa d.r).es.length m) a (aa d.r) l 1 x v):=i;obtain⟨a1,d0,d1,d2,d3,df⟩:=Y.disk.facts;clear OW s4 b4 a3 A Y;go_upto_region 6 with fail
   rw[ax.out];clear ax;have aF:=i.hbr;obtain⟨a1,d0,d1,d2,d3,df⟩:=i.disk.facts;obtain⟨M,R,S,T⟩:=i.dob.facts;obtain⟨a0,aj,al,am,an,ao⟩:=i.ans.facts;obtain⟨aH,u0,u1,u2⟩:=i.rul.facts;have WR:=Ij (ad:=f) (na:=d.ss.length) (cd:=g) d.r d.log d.syn (dn7 1 x v) (by omega) hx hv i.ents (nu s.out) i.rows (jz W.out s.out);have ay:Calls prog 37 #[.agg #[.string d.r,.slice f d.ss.length g,.string d.log,.int .i64 d.syn],.agg #[(.slice k (aa d.r).es.length m),.bool (aa d.r).sh,.int .i64 (aa d.r).lv],a,.agg #[.int .i64 1,.string x,.string v]] n fun e w'=>e=.returned (.tuple #[.agg #[.string d.r,.slice f d.ss.length g,.string (wrC (aa d.r) l d.log (dn7 1 x v)).2,.int .i64 d.syn],.int .i64 (wrC (aa d.r) l d.log (dn7 1 x v)).1])/\Below n.heap.size n w':=WR
   have N:Hid (do7 d 1 x v=((wrC (aa d.r) l d.log (dn7 1 x v)).1,{ d with log:=(wrC (aa d.r) l d.log (dn7 1 x v)).2 })):=by show _=_;rw[au.out,Jq (by decide) (by decide)]
   generalize wrC (aa d.r) l d.log (dn7 1 x v)=P at *;obtain⟨aB,lg⟩:=P;subst aE;clear WR i au s W;go_wp2_with fail;refine ay.mono ?_;rintro e w6 ⟨rfl,b6⟩;have Z:=aq.out.below b6;obtain⟨p,j⟩:=ki Z.ans Z.bel (av.out.below b6) d.r lg d.syn;have a7:Hid (ak _ _ _ _):=p;have G:Hid (Below _ _ _):=j;obtain⟨a0,aj,al,am,an,ao⟩:=Z.ans.facts;clear ay b6 Z p j av aq;go_wp2;refine bodyPost_ret (v:=.tuple #[.agg #[.string d.r,(.slice f d.ss.length g),.string lg,.int .i64 d.syn],.int .i64 aB]) ?_ rfl ?_
   .rw[results_cell_tmp rfl]
    go_simp
   .rw[N.out]
    exact⟨(.slice f d.ss.length g),rfl,a7.out,G.out⟩
theorem b32 {w:World} {B:Nat} {vd:Value} {d:Ds7}(x v:ByteArray) (hx:x.size<=1048576) (hv:v.size<=1048576) (G:Dk7 w B vd d) :
  Calls prog 8 #[.agg #[.string d.r,vd,.string d.log,.int .i64 d.syn],.agg #[.int .i64 2,.string x,.string v]] w fun e w'=>Bw w (do7 d 2 x v) e w':=by
 obtain⟨ad,cd,aD⟩:=G.form;subst aD;obtain⟨W0,z⟩:∃ W0,W0=((w.alloc (.cells #[.string d.r,.slice ad d.ss.length cd,.string d.log,.int .i64 d.syn] 25)).alloc (.cells #[.int .i64 2,.string x,.string v] 27)).alloc (.cells #[.string ⟨#[]⟩,.slice none 0 0,.string ⟨#[]⟩,.int .i64 0] 25):=⟨_,rfl⟩
 have al:Below w.heap.size w W0:=by rw[z];exact ((bY _).alloc (by simp) _).alloc (by simp;omega) _
 have aJ:W0.heap.size=w.heap.size+3:=by rw[z];simp
 have am:ba W0 w.heap.size d.r (.slice ad d.ss.length cd) d.log d.syn:=by
  show _=_
  rw[z,Below.heap_alloc _ _ _ (by simp;omega),Below.heap_alloc _ _ _ (by simp)];exact heap_alloc_new w _
 have ao:gi W0 (w.heap.size+1) 2 x v:=by
  show _=_
  rw[z,Below.heap_alloc _ _ _ (by simp)];have h:=heap_alloc_new (w.alloc (.cells #[.string d.r,.slice ad d.ss.length cd,.string d.log,.int .i64 d.syn] 25)) (.cells #[.int .i64 2,.string x,.string v] 27);rw[World.size_alloc]at h;exact h
 have aA:ba W0 (w.heap.size+2) ⟨#[]⟩ (.slice none 0 0) ⟨#[]⟩ 0:=by
  show _=_
  rw[z];have h:=heap_alloc_new ((w.alloc (.cells #[.string d.r,.slice ad d.ss.length cd,.string d.log,.int .i64 d.syn] 25)).alloc (.cells #[.int .i64 2,.string x,.string v] 27)) (.cells #[.string ⟨#[]⟩,.slice none 0 0,.string ⟨#[]⟩,.int .i64 0] 25);rw[World.size_alloc,World.size_alloc]at h;exact h
 have E:=om (G.below al);have J:Hid (∀ u,Below w.heap.size w u->Dk7 u B (.slice ad d.ss.length cd) d):=fun u hu=>G.below hu
 have HW:Hid (W0=((w.alloc (.cells #[.string d.r,.slice ad d.ss.length cd,.string d.log,.int .i64 d.syn] 25)).alloc (.cells #[.int .i64 2,.string x,.string v] 27)).alloc (.cells #[.string ⟨#[]⟩,.slice none 0 0,.string ⟨#[]⟩,.int .i64 0] 25)):=z;have C:=hZ al;have af:=hZ am;have X:=hZ ao;have ae:=hZ aA;obtain⟨a3,d0,d1,d2,d3,df⟩:=am.facts;obtain⟨O,T,U,V⟩:=ao.facts;have aH:=G.ok.log;have Y:Hid (Ok7 d):=G.ok;have W:Hid (∀ u,Calls prog 34 #[.int .i64 2,.int .i64 1,.int .i64 4] u fun e w'=>e=.returned (.bool true)/\w'=u):=fun u=>by
  have q:=zv u 2 1 4;rw[decide_eq_true (by decide)]at q;exact q
 clear G al am ao aA z
 cases ho:fu d with
 | none =>
  have y:Hid (do7 d 2 x v=(1,zD7)):=Ah ho;rw[ho]at E;have L:Calls prog 32 #[.agg #[.string d.r,(.slice ad d.ss.length cd),.string d.log,.int .i64 d.syn]] W0 fun e w'=>∃ A g,e=.returned (.tuple #[.agg #[A,.bool (aa d.r).sh,.int .i64 (aa d.r).lv],g,.bool false])/\ac w' W0.heap.size A (aa d.r).es/\Rws w' W0.heap.size g []/\Below W0.heap.size W0 w':=E
  clear E ho J W Y;go_enter func8,ntmps8;go_upto_region 1 with fail
  rw[<- HW.out];clear HW;go_wp2_with fail;refine L.mono ?_;rintro e m ⟨A,g,rfl,F,S,b⟩;obtain⟨H,I,aq⟩:=cu F;subst aq;have aj:=ae.out.below b;have aB:=C.out.trans (b.mono C.out.size);obtain⟨O,T,U,V⟩:=(X.out.below b).facts;obtain⟨a0,a6,a7,a8,a9,ab⟩:=aj.facts;obtain⟨f,a⟩:=ki aj aB (ez _ _) ⟨#[]⟩ ⟨#[]⟩ 0;have s:Hid (∀ o,Below w.heap.size w ((s4D m (w.heap.size+2) (.string ⟨#[]⟩) (.slice none 0 0) (.string ⟨#[]⟩) (.int .i64 0)).alloc o)):=fun o=>a.alloc a.size o
  clear f a L F S b aj aB;go_wp2;refine bodyPost_ret (v:=.tuple #[.agg #[.string ⟨#[]⟩,.slice none 0 0,.string ⟨#[]⟩,.int .i64 0],.int .i64 1]) ?_ rfl ?_
  .rw[results_cell_tmp rfl]
   go_simp
  .rw[y.out]
   exact⟨.slice none 0 0,rfl,ez _ _,s.out _⟩
 | some l =>
  have n:Hid (fu d=some l):=ho;rw[ho]at E;have L:Calls prog 32 #[.agg #[.string d.r,(.slice ad d.ss.length cd),.string d.log,.int .i64 d.syn]] W0 fun e w'=>∃ A g,e=.returned (.tuple #[.agg #[A,.bool (aa d.r).sh,.int .i64 (aa d.r).lv],g,.bool true])/\ac w' W0.heap.size A (aa d.r).es/\Rws w' W0.heap.size g l/\Below W0.heap.size W0 w':=E
  clear E ho;go_enter func8,ntmps8;go_upto_region 1 with fail
  rw[<- HW.out];clear HW;go_wp2_with fail;refine L.mono ?_;rintro e m ⟨A,g,rfl,F,S,b⟩;obtain⟨H,I,aq⟩:=cu F;subst aq;obtain⟨ar,cr,aF⟩:=bz S;obtain⟨w2,a4⟩:∃ w2,w2=m.alloc (.cells #[.slice H (aa d.r).es.length I,.bool (aa d.r).sh,.int .i64 (aa d.r).lv] 56):=⟨_,rfl⟩
  have ai:Hid (w2=m.alloc (.cells #[.slice H (aa d.r).es.length I,.bool (aa d.r).sh,.int .i64 (aa d.r).lv] 56)):=a4;have Z:Below m.heap.size m w2:=by rw[a4];exact bY _
  have M:=b.trans (Z.mono b.size);have an:Hd9 w w2 m.heap.size d (.slice ad d.ss.length cd) (.slice H (aa d.r).es.length I) g (aa d.r) l 2 x v:=⟨af.out.below M,X.out.below M,ae.out.below M,by show _=_;rw[a4];exact heap_alloc_new m _,(ac.low F C.out.size).below Z,(cz S C.out.size).below Z,C.out.trans (M.mono C.out.size),by have:=b.size;omega⟩;have D:=uf (J.out w2 an.bel);have ag:=hZ an;obtain⟨a3,d0,d1,d2,d3,df⟩:=(af.out.below b).facts;obtain⟨O,T,U,V⟩:=(X.out.below b).facts;clear L F S b Z M a4 an af X ae
  cases hsy:ov d
  .have y:Hid (do7 d 2 x v=(1,zD7)):=qn n.out (by rw[hsy];simp)
   have N:(cm d).isSome=false:=by unfold cm;rw[if_neg (by rw[hsy];simp)];rfl
   rw[N]at D;clear hsy N W J Y n;go_wp2_with fail;rw[<- ai.out];refine D.mono ?_;rintro e w3 ⟨rfl,R⟩;have c:=ag.out.below R;obtain⟨O,T,U,V⟩:=c.dob.facts;obtain⟨a0,a6,a7,a8,a9,ab⟩:=c.ans.facts;obtain⟨f,a⟩:=ki c.ans c.bel (ez _ _) ⟨#[]⟩ ⟨#[]⟩ 0;have K:Hid (ak _ _ _ _):=f;have s:Hid (Below _ _ _):=a;clear f a c R D;go_wp2;refine bodyPost_ret (v:=.tuple #[.agg #[.string ⟨#[]⟩,.slice none 0 0,.string ⟨#[]⟩,.int .i64 0],.int .i64 1]) ?_ rfl ?_
   .rw[results_cell_tmp rfl]
    go_simp
   .rw[y.out]
    exact⟨.slice none 0 0,rfl,K.out,s.out⟩
  .have N:(cm d).isSome=true:=by unfold cm;rw[if_pos hsy,n.out];rfl
   rw[N]at D;have ah:Hid (ov d=true):=hsy;clear hsy N;go_wp2_with fail;rw[<- ai.out];refine D.mono ?_;rintro e w3 ⟨rfl,R⟩;have t:=hZ (ag.out.below R);have IN:=W.out w3;obtain⟨O,T,U,V⟩:=t.out.dob.facts;clear D R ag ai W;go_wp2_with fail;refine IN.mono ?_;rintro e aK ⟨rfl,au⟩;replace au:=au.symm;subst au;clear IN;by_cases Q:¬ v.size=0
   .have y:Hid (do7 d 2 x v=(1,zD7)):=qn n.out (by rw[ah.out];unfold Am;simp[Q])
    obtain⟨m1,m2,m3⟩:=Cp Q;have c:=t.out;obtain⟨a0,a6,a7,a8,a9,ab⟩:=c.ans.facts;obtain⟨f,a⟩:=ki c.ans c.bel (ez _ _) ⟨#[]⟩ ⟨#[]⟩ 0;have K:Hid (ak _ _ _ _):=f;have s:Hid (Below _ _ _):=a;clear f a c;go_wp2;refine bodyPost_ret (v:=.tuple #[.agg #[.string ⟨#[]⟩,.slice none 0 0,.string ⟨#[]⟩,.int .i64 0],.int .i64 1]) ?_ rfl ?_
    .rw[results_cell_tmp rfl]
     go_simp
    .rw[y.out]
     exact⟨.slice none 0 0,rfl,K.out,s.out⟩
   .replace Q:v.size=0:=Decidable.not_not.1 Q
    obtain rfl:=Mt Q;have aw:Hid (do7 d 2 x ⟨#[]⟩=doL d l 2 x ⟨#[]⟩):=Fk n.out ah.out (by rfl);have OW:=Fx (J.out w3 t.out.bel);obtain⟨a3,d0,d1,d2,d3,df⟩:=t.out.disk.facts;clear ah J;go_wp2_with fail;refine OW.mono ?_;rintro e w4 ⟨vp,rfl,s4,b4⟩;obtain⟨j,k,aE⟩:=ip s4;subst aE;have a1:=t.out.below b4;obtain⟨p,a5⟩:∃ p,p=s4D w4 w.heap.size (.string d.r) (.slice j d.ss.length k) (.string d.log) (.int .i64 d.syn):=⟨_,rfl⟩
    have i:Hd9 w p m.heap.size d (.slice j d.ss.length k) (.slice H (aa d.r).es.length I) g (aa d.r) l 2 x ⟨#[]⟩:=by rw[a5];exact a1.own _
    have ax:Hid (ak p w.heap.size (.slice j d.ss.length k) d.ss):=by rw[a5];exact (kq s4 t.out.bel.size).box a1.disk (by decide) (lu _ _ _ _ _ _)
    have ay:Hid ((((w4.setCell ⟨w.heap.size,0,none⟩ (.string d.r)).setCell ⟨w.heap.size,1,none⟩ (.slice j d.ss.length k)).setCell ⟨w.heap.size,2,none⟩ (.string d.log)).setCell ⟨w.heap.size,3,none⟩ (.int .i64 d.syn)=p):=a5.symm;have av:=hZ i;obtain⟨a3,d0,d1,d2,d3,df⟩:=a1.disk.facts;clear OW s4 b4 a5 t a1;go_upto_region 6 with fail
    rw[ay.out];clear ay;have aG:=i.hbr;obtain⟨a3,d0,d1,d2,d3,df⟩:=i.disk.facts;obtain⟨O,T,U,V⟩:=i.dob.facts;obtain⟨a0,a6,a7,a8,a9,ab⟩:=i.ans.facts;obtain⟨aI,u0,u1,u2⟩:=i.rul.facts;have WR:=Ij (ad:=j) (na:=d.ss.length) (cd:=k) d.r d.log d.syn (dn7 2 x ⟨#[]⟩) (by omega) hx hv i.ents (nu n.out) i.rows (jz Y.out n.out);have az:Calls prog 37 #[.agg #[.string d.r,.slice j d.ss.length k,.string d.log,.int .i64 d.syn],.agg #[(.slice H (aa d.r).es.length I),.bool (aa d.r).sh,.int .i64 (aa d.r).lv],g,.agg #[.int .i64 2,.string x,.string ⟨#[]⟩]] p fun e w'=>e=.returned (.tuple #[.agg #[.string d.r,.slice j d.ss.length k,.string (wrC (aa d.r) l d.log (dn7 2 x ⟨#[]⟩)).2,.int .i64 d.syn],.int .i64 (wrC (aa d.r) l d.log (dn7 2 x ⟨#[]⟩)).1])/\Below p.heap.size p w':=WR
    have y:Hid (do7 d 2 x ⟨#[]⟩=((wrC (aa d.r) l d.log (dn7 2 x ⟨#[]⟩)).1,{ d with log:=(wrC (aa d.r) l d.log (dn7 2 x ⟨#[]⟩)).2 })):=by show _=_;rw[aw.out,Jq (by decide) (by decide)]
    generalize wrC (aa d.r) l d.log (dn7 2 x ⟨#[]⟩)=P at *;obtain⟨aC,lg⟩:=P;subst aF;clear WR i aw n Y;go_wp2_with fail;refine az.mono ?_;rintro e w6 ⟨rfl,b6⟩;have a2:=av.out.below b6;obtain⟨f,a⟩:=ki a2.ans a2.bel (ax.out.below b6) d.r lg d.syn;have K:Hid (ak _ _ _ _):=f;have s:Hid (Below _ _ _):=a;obtain⟨a0,a6,a7,a8,a9,ab⟩:=a2.ans.facts;clear az b6 a2 f a ax av;go_wp2;refine bodyPost_ret (v:=.tuple #[.agg #[.string d.r,(.slice j d.ss.length k),.string lg,.int .i64 d.syn],.int .i64 aC]) ?_ rfl ?_
    .rw[results_cell_tmp rfl]
     go_simp
    .rw[y.out]
     exact⟨(.slice j d.ss.length k),rfl,K.out,s.out⟩
theorem ak0 {w:World} {B:Nat} {vd:Value} {d:Ds7}(k:Int) (x v:ByteArray) (hk:k=3\/k=4) (hD:Dk7 w B vd d) :
  Calls prog 8 #[.agg #[.string d.r,vd,.string d.log,.int .i64 d.syn],.agg #[.int .i64 k,.string x,.string v]] w fun e w'=>Bw w (do7 d k x v) e w':=by
 obtain⟨z,A,aH⟩:=hD.form;subst aH;obtain⟨W0,H⟩:∃ W0,W0=((w.alloc (.cells #[.string d.r,.slice z d.ss.length A,.string d.log,.int .i64 d.syn] 25)).alloc (.cells #[.int .i64 k,.string x,.string v] 27)).alloc (.cells #[.string ⟨#[]⟩,.slice none 0 0,.string ⟨#[]⟩,.int .i64 0] 25):=⟨_,rfl⟩
 have au:Below w.heap.size w W0:=by rw[H];exact ((bY _).alloc (by simp) _).alloc (by simp;omega) _
 have aR:W0.heap.size=w.heap.size+3:=by rw[H];simp
 have av:ba W0 w.heap.size d.r (.slice z d.ss.length A) d.log d.syn:=by
  show _=_
  rw[H,Below.heap_alloc _ _ _ (by simp;omega),Below.heap_alloc _ _ _ (by simp)];exact heap_alloc_new w _
 have ax:gi W0 (w.heap.size+1) k x v:=by
  show _=_
  rw[H,Below.heap_alloc _ _ _ (by simp)];have h:=heap_alloc_new (w.alloc (.cells #[.string d.r,.slice z d.ss.length A,.string d.log,.int .i64 d.syn] 25)) (.cells #[.int .i64 k,.string x,.string v] 27);rw[World.size_alloc]at h;exact h
 have aB:ba W0 (w.heap.size+2) ⟨#[]⟩ (.slice none 0 0) ⟨#[]⟩ 0:=by
  show _=_
  rw[H];have h:=heap_alloc_new ((w.alloc (.cells #[.string d.r,.slice z d.ss.length A,.string d.log,.int .i64 d.syn] 25)).alloc (.cells #[.int .i64 k,.string x,.string v] 27)) (.cells #[.string ⟨#[]⟩,.slice none 0 0,.string ⟨#[]⟩,.int .i64 0] 25);rw[World.size_alloc,World.size_alloc]at h;exact h
 have V:=om (hD.below au);have a0:Hid (∀ u,Below w.heap.size w u->Dk7 u B (.slice z d.ss.length A) d):=fun u hu=>hD.below hu
 have HW:Hid (W0=((w.alloc (.cells #[.string d.r,.slice z d.ss.length A,.string d.log,.int .i64 d.syn] 25)).alloc (.cells #[.int .i64 k,.string x,.string v] 27)).alloc (.cells #[.string ⟨#[]⟩,.slice none 0 0,.string ⟨#[]⟩,.int .i64 0] 25)):=H;have J:=hZ au;have al:=hZ av;have ab:=hZ ax;have aj:=hZ aB;obtain⟨O,X,Y,Z,d3,df⟩:=av.facts;obtain⟨a6,o0,o1,o2⟩:=ax.facts;have aP:=hD.ok.log;have L:Hid (Ok7 d):=hD.ok;have a9:Hid (∀ u,Calls prog 34 #[.int .i64 k,.int .i64 1,.int .i64 4] u fun e w'=>e=.returned (.bool true)/\w'=u):=fun u=>by
  have q:=zv u k 1 4;rw[decide_eq_true (by omega)]at q;exact q
 have aM:(k == 1)=false:=by simp;omega
 have aN:(k == 2)=false:=by simp;omega
 have aO:(k != 1)=true:=by simp;omega
 clear hD au av ax aB H
 cases ho:fu d with
 | none =>
  have n:Hid (do7 d k x v=(1,zD7)):=Ah ho;rw[ho]at V;have a2:Calls prog 32 #[.agg #[.string d.r,(.slice z d.ss.length A),.string d.log,.int .i64 d.syn]] W0 fun e w'=>∃ I C,e=.returned (.tuple #[.agg #[I,.bool (aa d.r).sh,.int .i64 (aa d.r).lv],C,.bool false])/\ac w' W0.heap.size I (aa d.r).es/\Rws w' W0.heap.size C []/\Below W0.heap.size W0 w':=V
  clear V ho a0 a9 L;go_enter func8,ntmps8;go_upto_region 1 with fail
  rw[<- HW.out];clear HW;go_wp2_with fail;refine a2.mono ?_;rintro e D ⟨I,C,rfl,h1,h2,t⟩;obtain⟨va,vc,ay⟩:=cu h1;subst ay;have ao:=aj.out.below t;have aE:=J.out.trans (t.mono J.out.size);obtain⟨a6,o0,o1,o2⟩:=(ab.out.below t).facts;obtain⟨N,P,Q,R,S,T⟩:=ao.facts;obtain⟨b,a⟩:=ki ao aE (ez _ _) ⟨#[]⟩ ⟨#[]⟩ 0;have g:Hid (∀ o,Below w.heap.size w ((s4D D (w.heap.size+2) (.string ⟨#[]⟩) (.slice none 0 0) (.string ⟨#[]⟩) (.int .i64 0)).alloc o)):=fun o=>a.alloc a.size o
  clear b a a2 h1 h2 t ao aE;go_wp2;refine bodyPost_ret (v:=.tuple #[.agg #[.string ⟨#[]⟩,.slice none 0 0,.string ⟨#[]⟩,.int .i64 0],.int .i64 1]) ?_ rfl ?_
  .rw[results_cell_tmp rfl]
   go_simp
  .rw[n.out]
   exact⟨.slice none 0 0,rfl,ez _ _,g.out _⟩
 | some l =>
  have y:Hid (fu d=some l):=ho;rw[ho]at V;have a2:Calls prog 32 #[.agg #[.string d.r,(.slice z d.ss.length A),.string d.log,.int .i64 d.syn]] W0 fun e w'=>∃ I C,e=.returned (.tuple #[.agg #[I,.bool (aa d.r).sh,.int .i64 (aa d.r).lv],C,.bool true])/\ac w' W0.heap.size I (aa d.r).es/\Rws w' W0.heap.size C l/\Below W0.heap.size W0 w':=V
  clear V ho;go_enter func8,ntmps8;go_upto_region 1 with fail
  rw[<- HW.out];clear HW;go_wp2_with fail;refine a2.mono ?_;rintro e D ⟨I,C,rfl,h1,h2,t⟩;obtain⟨va,vc,ay⟩:=cu h1;subst ay;obtain⟨ar,cr,aK⟩:=bz h2;obtain⟨w2,ah⟩:∃ w2,w2=D.alloc (.cells #[.slice va (aa d.r).es.length vc,.bool (aa d.r).sh,.int .i64 (aa d.r).lv] 56):=⟨_,rfl⟩
  have an:Hid (w2=D.alloc (.cells #[.slice va (aa d.r).es.length vc,.bool (aa d.r).sh,.int .i64 (aa d.r).lv] 56)):=ah;have af:Below D.heap.size D w2:=by rw[ah];exact bY _
  have a4:=t.trans (af.mono t.size);have aw:Hd9 w w2 D.heap.size d (.slice z d.ss.length A) (.slice va (aa d.r).es.length vc) C (aa d.r) l k x v:=⟨al.out.below a4,ab.out.below a4,aj.out.below a4,by show _=_;rw[ah];exact heap_alloc_new D _,(ac.low h1 J.out.size).below af,(cz h2 J.out.size).below af,J.out.trans (a4.mono J.out.size),by have:=t.size;omega⟩;have U:=uf (a0.out w2 aw.bel);have am:=hZ aw;obtain⟨O,X,Y,Z,d3,df⟩:=(al.out.below t).facts;obtain⟨a6,o0,o1,o2⟩:=(ab.out.below t).facts;clear a2 h1 h2 t af a4 ah aw al ab aj
  cases hsy:ov d
  .have n:Hid (do7 d k x v=(1,zD7)):=qn y.out (by rw[hsy];simp)
   have a5:(cm d).isSome=false:=by unfold cm;rw[if_neg (by rw[hsy];simp)];rfl
   rw[a5]at U;clear hsy a5 a9 a0 L y;go_wp2_with fail;rw[<- an.out];refine U.mono ?_;rintro e w3 ⟨rfl,b3⟩;have c:=am.out.below b3;obtain⟨a6,o0,o1,o2⟩:=c.dob.facts;obtain⟨N,P,Q,R,S,T⟩:=c.ans.facts;obtain⟨b,a⟩:=ki c.ans c.bel (ez _ _) ⟨#[]⟩ ⟨#[]⟩ 0;have s:Hid (ak _ _ _ _):=b;have g:Hid (Below _ _ _):=a;clear b a c b3 U;go_wp2;refine bodyPost_ret (v:=.tuple #[.agg #[.string ⟨#[]⟩,.slice none 0 0,.string ⟨#[]⟩,.int .i64 0],.int .i64 1]) ?_ rfl ?_
   .rw[results_cell_tmp rfl]
    go_simp
   .rw[n.out]
    exact⟨.slice none 0 0,rfl,s.out,g.out⟩
  .have a5:(cm d).isSome=true:=by unfold cm;rw[if_pos hsy,y.out];rfl
   rw[a5]at U;have ae:Hid (ov d=true):=hsy;clear hsy a5;go_wp2_with fail;rw[<- an.out];refine U.mono ?_;rintro e w3 ⟨rfl,b3⟩;have E:=hZ (am.out.below b3);have IN:=a9.out w3;obtain⟨a6,o0,o1,o2⟩:=E.out.dob.facts;clear U b3 am an a9;go_wp2_with fail;refine IN.mono ?_;rintro e aS ⟨rfl,az⟩;replace az:=az.symm;subst az;clear IN;by_cases a7:¬ x.size=0
   .have n:Hid (do7 d k x v=(1,zD7)):=qn y.out (by rw[ae.out];rcases hk with rfl|rfl <;> (unfold Am;simp[a7]))
    obtain⟨m1,m2,m3⟩:=Cp a7;have c:=E.out;obtain⟨N,P,Q,R,S,T⟩:=c.ans.facts;obtain⟨b,a⟩:=ki c.ans c.bel (ez _ _) ⟨#[]⟩ ⟨#[]⟩ 0;have s:Hid (ak _ _ _ _):=b;have g:Hid (Below _ _ _):=a;clear b a c;go_wp2;refine bodyPost_ret (v:=.tuple #[.agg #[.string ⟨#[]⟩,.slice none 0 0,.string ⟨#[]⟩,.int .i64 0],.int .i64 1]) ?_ rfl ?_
    .rw[results_cell_tmp rfl]
     go_simp
    .rw[n.out]
     exact⟨.slice none 0 0,rfl,s.out,g.out⟩
   .replace a7:x.size=0:=Decidable.not_not.1 a7
    obtain rfl:=Mt a7;by_cases a8:¬ v.size=0
    .have n:Hid (do7 d k ⟨#[]⟩ v=(1,zD7)):=qn y.out (by rw[ae.out];rcases hk with rfl|rfl <;> (unfold Am;simp[a8]))
     obtain⟨m1,m2,m3⟩:=Cp a8;have c:=E.out;obtain⟨N,P,Q,R,S,T⟩:=c.ans.facts;obtain⟨b,a⟩:=ki c.ans c.bel (ez _ _) ⟨#[]⟩ ⟨#[]⟩ 0;have s:Hid (ak _ _ _ _):=b;have g:Hid (Below _ _ _):=a;clear b a c;go_wp2;refine bodyPost_ret (v:=.tuple #[.agg #[.string ⟨#[]⟩,.slice none 0 0,.string ⟨#[]⟩,.int .i64 0],.int .i64 1]) ?_ rfl ?_
     .rw[results_cell_tmp rfl]
      go_simp
     .rw[n.out]
      exact⟨.slice none 0 0,rfl,s.out,g.out⟩
    .replace a8:v.size=0:=Decidable.not_not.1 a8
     obtain rfl:=Mt a8;have M:Hid (do7 d k ⟨#[]⟩ ⟨#[]⟩=doL d l k ⟨#[]⟩ ⟨#[]⟩):=Fk y.out ae.out (by rcases hk with rfl|rfl <;> rfl);have OW:=Fx (a0.out w3 E.out.bel);obtain⟨O,X,Y,Z,d3,df⟩:=E.out.disk.facts;clear ae a0;go_wp2_with fail;refine OW.mono ?_;rintro e w4 ⟨vp,rfl,s4,b4⟩;obtain⟨F,G,aI⟩:=ip s4;subst aI;have ag:=E.out.below b4;obtain⟨f,ai⟩:∃ f,f=s4D w4 w.heap.size (.string d.r) (.slice F d.ss.length G) (.string d.log) (.int .i64 d.syn):=⟨_,rfl⟩
     have i:Hd9 w f D.heap.size d (.slice F d.ss.length G) (.slice va (aa d.r).es.length vc) C (aa d.r) l k ⟨#[]⟩ ⟨#[]⟩:=by rw[ai];exact ag.own _
     have a1:Hid (ak f w.heap.size (.slice F d.ss.length G) d.ss):=by rw[ai];exact (kq s4 E.out.bel.size).box ag.disk (by decide) (lu _ _ _ _ _ _)
     have aA:Hid ((((w4.setCell ⟨w.heap.size,0,none⟩ (.string d.r)).setCell ⟨w.heap.size,1,none⟩ (.slice F d.ss.length G)).setCell ⟨w.heap.size,2,none⟩ (.string d.log)).setCell ⟨w.heap.size,3,none⟩ (.int .i64 d.syn)=f):=ai.symm;have K:=hZ i;obtain⟨O,X,Y,Z,d3,df⟩:=ag.disk.facts;clear OW s4 b4 ai E ag;go_upto_region 6 with fail
     rw[aA.out];clear aA;have aL:=i.hbr;obtain⟨O,X,Y,Z,d3,df⟩:=i.disk.facts;obtain⟨a6,o0,o1,o2⟩:=i.dob.facts;obtain⟨N,P,Q,R,S,T⟩:=i.ans.facts;obtain⟨aQ,u0,u1,u2⟩:=i.rul.facts;rcases hk with rfl|rfl
     .have n:Hid (do7 d 3 ⟨#[]⟩ ⟨#[]⟩=(0,{ d with syn:=(d.log.size:Int) })):=by show _=_;rw[M.out];rfl
      have g6:=dq f w.heap.size 3 (.int .i64 (d.log.size:Int));have aC:=i.ans.set (p:=w.heap.size) (k:=3) (by omega) (.int .i64 (d.log.size:Int));obtain⟨b,a⟩:=ki aC (i.bel.setCell (p:=⟨w.heap.size,3,none⟩) bR _) (a1.out.box i.disk (by decide) g6) d.r d.log (d.log.size:Int);have s:Hid (ak _ _ _ _):=b;have g:Hid (Below _ _ _):=a;clear b a aC g6 i M y L a1 K;go_wp2;refine bodyPost_ret (v:=.tuple #[.agg #[.string d.r,(.slice F d.ss.length G),.string d.log,.int .i64 (d.log.size:Int)],.int .i64 0]) ?_ rfl ?_
      .rw[results_cell_tmp rfl]
       go_simp
      .rw[n.out]
       exact⟨(.slice F d.ss.length G),rfl,s.out,g.out⟩
     .subst aK
      have PG:=W3 i.rows (Wv (jz L.out y.out))
      cases hpp:pu l with
      | none =>
       have n:Hid (do7 d 4 ⟨#[]⟩ ⟨#[]⟩=(3,d)):=by show _=_;rw[M.out];unfold doL;rw[if_neg (by decide),if_pos rfl,hpp]
       rw[hpp]at PG;have a3:Calls prog 36 #[.slice ar l.length cr] f fun e w'=>∃ v,e=.returned (.tuple #[v,.bool false])/\(∀ pp,(none:Option (List ByteArray))=some pp->ak w' f.heap.size v pp)/\Below f.heap.size f w':=PG
       clear PG hpp M y L i;go_wp2_with fail;refine a3.mono ?_;rintro e w6 ⟨vq,rfl,_,W⟩;have m:=K.out.below W;obtain⟨b,a⟩:=ki m.ans m.bel (a1.out.below W) d.r d.log d.syn;have s:Hid (ak _ _ _ _):=b;have g:Hid (Below _ _ _):=a;obtain⟨N,P,Q,R,S,T⟩:=m.ans.facts;obtain⟨O,X,Y,Z,d3,df⟩:=m.disk.facts;clear a3 W m b a a1 K;go_wp2;refine bodyPost_ret (v:=.tuple #[.agg #[.string d.r,(.slice F d.ss.length G),.string d.log,.int .i64 d.syn],.int .i64 3]) ?_ rfl ?_
       .rw[results_cell_tmp rfl]
        go_simp
       .rw[n.out]
        exact⟨(.slice F d.ss.length G),rfl,s.out,g.out⟩
      | some pp =>
       have n:Hid (do7 d 4 ⟨#[]⟩ ⟨#[]⟩=(0,{ d with ss:=pp,log:=⟨#[]⟩,syn:=0 })):=by show _=_;rw[M.out];unfold doL;rw[if_neg (by decide),if_pos rfl,hpp]
       have a3:Calls prog 36 #[.slice ar l.length cr] f fun e w'=>∃ v,e=.returned (.tuple #[v,.bool true])/\ak w' f.heap.size v pp/\Below f.heap.size f w':=PG.mono fun e w' ⟨v,q1,q2,q3⟩=>⟨v,by rw[q1,hpp];rfl,q2 pp hpp,q3⟩
       clear PG hpp M y L i;go_wp2_with fail;refine a3.mono ?_;rintro e w6 ⟨vq,rfl,s6,W⟩;obtain⟨aq,cq,aJ⟩:=ip s6;subst aJ;have m:=K.out.below W;have g7:=((dq w6 w.heap.size 1 (.slice aq pp.length cq)).trans (dq _ w.heap.size 2 (.string ⟨#[]⟩))).trans (dq _ w.heap.size 3 (.int .i64 0));have aD:=em g7 (show w.heap.size+2≠w.heap.size by omega) m.ans;have aF:=Below.grown m.bel g7 m.bel.size (fun j hj=>by have:=Option.some.inj hj;omega);have aG:=(kq s6 K.out.bel.size).box m.disk (by decide) g7;obtain⟨b,a⟩:=ki aD aF aG d.r ⟨#[]⟩ 0;have s:Hid (ak _ _ _ _):=b;have g:Hid (Below _ _ _):=a;obtain⟨N,P,Q,R,S,T⟩:=m.ans.facts;obtain⟨O,X,Y,Z,d3,df⟩:=m.disk.facts;clear a3 W m b a a1 K s6 g7 aD aF aG;go_wp2
       refine bodyPost_ret (v:=.tuple #[.agg #[.string d.r,(.slice aq pp.length cq),.string ⟨#[]⟩,.int .i64 0],.int .i64 0]) ?_ rfl ?_
       .rw[results_cell_tmp rfl]
        go_simp
       .rw[n.out]
        exact⟨(.slice aq pp.length cq),rfl,s.out,g.out⟩
theorem b30 {w:World} {B:Nat} {vd:Value} {d:Ds7}(k:Int) (x v:ByteArray) (hk:¬ (1<=k/\k<=4)) (A:Dk7 w B vd d) :
  Calls prog 8 #[.agg #[.string d.r,vd,.string d.log,.int .i64 d.syn],.agg #[.int .i64 k,.string x,.string v]] w fun e w'=>Bw w (do7 d k x v) e w':=by
 obtain⟨f,g,ao⟩:=A.form;subst ao;obtain⟨W0,n⟩:∃ W0,W0=((w.alloc (.cells #[.string d.r,.slice f d.ss.length g,.string d.log,.int .i64 d.syn] 25)).alloc (.cells #[.int .i64 k,.string x,.string v] 27)).alloc (.cells #[.string ⟨#[]⟩,.slice none 0 0,.string ⟨#[]⟩,.int .i64 0] 25):=⟨_,rfl⟩
 have a3:Below w.heap.size w W0:=by rw[n];exact ((bY _).alloc (by simp) _).alloc (by simp;omega) _
 have av:W0.heap.size=w.heap.size+3:=by rw[n];simp
 have a4:ba W0 w.heap.size d.r (.slice f d.ss.length g) d.log d.syn:=by
  show _=_
  rw[n,Below.heap_alloc _ _ _ (by simp;omega),Below.heap_alloc _ _ _ (by simp)];exact heap_alloc_new w _
 have a6:gi W0 (w.heap.size+1) k x v:=by
  show _=_
  rw[n,Below.heap_alloc _ _ _ (by simp)];have h:=heap_alloc_new (w.alloc (.cells #[.string d.r,.slice f d.ss.length g,.string d.log,.int .i64 d.syn] 25)) (.cells #[.int .i64 k,.string x,.string v] 27);rw[World.size_alloc]at h;exact h
 have ae:ba W0 (w.heap.size+2) ⟨#[]⟩ (.slice none 0 0) ⟨#[]⟩ 0:=by
  show _=_
  rw[n];have h:=heap_alloc_new ((w.alloc (.cells #[.string d.r,.slice f d.ss.length g,.string d.log,.int .i64 d.syn] 25)).alloc (.cells #[.int .i64 k,.string x,.string v] 27)) (.cells #[.string ⟨#[]⟩,.slice none 0 0,.string ⟨#[]⟩,.int .i64 0] 25);rw[World.size_alloc,World.size_alloc]at h;exact h
 have y:=om (A.below a3);have X:Hid (∀ u,Below w.heap.size w u->Dk7 u B (.slice f d.ss.length g) d):=fun u hu=>A.below hu
 have P:Hid (W0=((w.alloc (.cells #[.string d.r,.slice f d.ss.length g,.string d.log,.int .i64 d.syn] 25)).alloc (.cells #[.int .i64 k,.string x,.string v] 27)).alloc (.cells #[.string ⟨#[]⟩,.slice none 0 0,.string ⟨#[]⟩,.int .i64 0] 25)):=n;have s:=hZ a3;have W:=hZ a4;have K:=hZ a6;have V:=hZ ae;obtain⟨an,d0,d1,d2,d3,df⟩:=a4.facts;obtain⟨M,Q,R,S⟩:=a6.facts;have au:=A.ok.log;have ab:Hid (Ok7 d):=A.ok;have J:Hid (∀ u,Calls prog 34 #[.int .i64 k,.int .i64 1,.int .i64 4] u fun e w'=>e=.returned (.bool false)/\w'=u):=fun u=>by
  have q:=zv u k 1 4;rw[decide_eq_false hk]at q;exact q
 have ap:(k == 1)=false:=by simp;omega
 have aq:(k == 2)=false:=by simp;omega
 clear A a3 a4 a6 ae n
 cases ho:fu d with
 | none =>
  have G:Hid (do7 d k x v=(1,zD7)):=Ah ho;rw[ho]at y;have D:Calls prog 32 #[.agg #[.string d.r,(.slice f d.ss.length g),.string d.log,.int .i64 d.syn]] W0 fun e w'=>∃ p i,e=.returned (.tuple #[.agg #[p,.bool (aa d.r).sh,.int .i64 (aa d.r).lv],i,.bool false])/\ac w' W0.heap.size p (aa d.r).es/\Rws w' W0.heap.size i []/\Below W0.heap.size W0 w':=y
  clear y ho X J ab;go_enter func8,ntmps8;go_upto_region 1 with fail
  rw[<- P.out];clear P;go_wp2_with fail;refine D.mono ?_;rintro e j ⟨p,i,rfl,z,I,a⟩;obtain⟨T,U,a7⟩:=cu z;subst a7;have a2:=V.out.below a;have af:=s.out.trans (a.mono s.out.size);obtain⟨M,Q,R,S⟩:=(K.out.below a).facts;obtain⟨a0,ag,ah,ai,aj,al⟩:=a2.facts;obtain⟨m,c⟩:=ki a2 af (ez _ _) ⟨#[]⟩ ⟨#[]⟩ 0;have C:Hid (∀ o,Below w.heap.size w ((s4D j (w.heap.size+2) (.string ⟨#[]⟩) (.slice none 0 0) (.string ⟨#[]⟩) (.int .i64 0)).alloc o)):=fun o=>c.alloc c.size o
  clear m c D z I a a2 af;go_wp2;refine bodyPost_ret (v:=.tuple #[.agg #[.string ⟨#[]⟩,.slice none 0 0,.string ⟨#[]⟩,.int .i64 0],.int .i64 1]) ?_ rfl ?_
  .rw[results_cell_tmp rfl]
   go_simp
  .rw[G.out]
   exact⟨.slice none 0 0,rfl,ez _ _,C.out _⟩
 | some l =>
  have O:Hid (fu d=some l):=ho;rw[ho]at y;have D:Calls prog 32 #[.agg #[.string d.r,(.slice f d.ss.length g),.string d.log,.int .i64 d.syn]] W0 fun e w'=>∃ p i,e=.returned (.tuple #[.agg #[p,.bool (aa d.r).sh,.int .i64 (aa d.r).lv],i,.bool true])/\ac w' W0.heap.size p (aa d.r).es/\Rws w' W0.heap.size i l/\Below W0.heap.size W0 w':=y
  clear y ho;go_enter func8,ntmps8;go_upto_region 1 with fail
  rw[<- P.out];clear P;go_wp2_with fail;refine D.mono ?_;rintro e j ⟨p,i,rfl,z,I,a⟩;obtain⟨T,U,a7⟩:=cu z;subst a7;obtain⟨ar,cr,aw⟩:=bz I;obtain⟨w2,N⟩:∃ w2,w2=j.alloc (.cells #[.slice T (aa d.r).es.length U,.bool (aa d.r).sh,.int .i64 (aa d.r).lv] 56):=⟨_,rfl⟩
  have a1:Hid (w2=j.alloc (.cells #[.slice T (aa d.r).es.length U,.bool (aa d.r).sh,.int .i64 (aa d.r).lv] 56)):=N;have L:Below j.heap.size j w2:=by rw[N];exact bY _
  have E:=a.trans (L.mono a.size);have a5:Hd9 w w2 j.heap.size d (.slice f d.ss.length g) (.slice T (aa d.r).es.length U) i (aa d.r) l k x v:=⟨W.out.below E,K.out.below E,V.out.below E,by show _=_;rw[N];exact heap_alloc_new j _,(ac.low z s.out.size).below L,(cz I s.out.size).below L,s.out.trans (E.mono s.out.size),by have:=a.size;omega⟩;have t:=uf (X.out w2 a5.bel);have Y:=hZ a5;obtain⟨an,d0,d1,d2,d3,df⟩:=(W.out.below a).facts;obtain⟨M,Q,R,S⟩:=(K.out.below a).facts;clear D z I a L E N a5 W K V
  cases hsy:ov d
  .have G:Hid (do7 d k x v=(1,zD7)):=qn O.out (by rw[hsy];simp)
   have F:(cm d).isSome=false:=by unfold cm;rw[if_neg (by rw[hsy];simp)];rfl
   rw[F]at t;clear hsy F J X ab O;go_wp2_with fail;rw[<- a1.out];refine t.mono ?_;rintro e w3 ⟨rfl,H⟩;have b:=Y.out.below H;obtain⟨M,Q,R,S⟩:=b.dob.facts;obtain⟨a0,ag,ah,ai,aj,al⟩:=b.ans.facts;obtain⟨m,c⟩:=ki b.ans b.bel (ez _ _) ⟨#[]⟩ ⟨#[]⟩ 0;have Z:Hid (ak _ _ _ _):=m;have C:Hid (Below _ _ _):=c;clear m c b H t;go_wp2;refine bodyPost_ret (v:=.tuple #[.agg #[.string ⟨#[]⟩,.slice none 0 0,.string ⟨#[]⟩,.int .i64 0],.int .i64 1]) ?_ rfl ?_
   .rw[results_cell_tmp rfl]
    go_simp
   .rw[G.out]
    exact⟨.slice none 0 0,rfl,Z.out,C.out⟩
  .have F:(cm d).isSome=true:=by unfold cm;rw[if_pos hsy,O.out];rfl
   rw[F]at t;have am:Hid (ov d=true):=hsy;clear hsy F;go_wp2_with fail;rw[<- a1.out];refine t.mono ?_;rintro e w3 ⟨rfl,H⟩;have a9:=hZ (Y.out.below H);have IN:=J.out w3;obtain⟨M,Q,R,S⟩:=a9.out.dob.facts;clear t H Y a1 J;go_wp2_with fail;refine IN.mono ?_;rintro e ax ⟨rfl,a8⟩;replace a8:=a8.symm;subst a8;clear IN;have G:Hid (do7 d k x v=(1,zD7)):=qn O.out (by rw[am.out];unfold Am;simp;omega);have b:=a9.out;obtain⟨a0,ag,ah,ai,aj,al⟩:=b.ans.facts;obtain⟨m,c⟩:=ki b.ans b.bel (ez _ _) ⟨#[]⟩ ⟨#[]⟩ 0;have Z:Hid (ak _ _ _ _):=m;have C:Hid (Below _ _ _):=c;clear m c b;go_wp2;refine bodyPost_ret (v:=.tuple #[.agg #[.string ⟨#[]⟩,.slice none 0 0,.string ⟨#[]⟩,.int .i64 0],.int .i64 1]) ?_ rfl ?_
   .rw[results_cell_tmp rfl]
    go_simp
   .rw[G.out]
    exact⟨.slice none 0 0,rfl,Z.out,C.out⟩
theorem am5 {w:World} {B:Nat} {f:Value} {d:Ds7}(k:Int) (x v:ByteArray) (c:x.size<=1048576) (b:v.size<=1048576) (a:Dk7 w B f d) :
  Calls prog 8 #[.agg #[.string d.r,f,.string d.log,.int .i64 d.syn],.agg #[.int .i64 k,.string x,.string v]] w fun e w'=>Bw w (do7 d k x v) e w':=by
 by_cases g:1<=k/\k<=4
 .obtain rfl|rfl|rfl|rfl:k=1\/k=2\/k=3\/k=4:=by omega
  .exact b31 x v c b a
  .exact b32 x v c b a
  .exact ak0 3 x v (.inl rfl) a
  .exact ak0 4 x v (.inr rfl) a
 .exact b30 k x v g a
end Go.Proofs.YtjbmgghehdemdaaGreatDoor
