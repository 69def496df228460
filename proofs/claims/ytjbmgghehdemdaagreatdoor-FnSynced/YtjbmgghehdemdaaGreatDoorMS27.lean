/- SAp7 -/
import Derived.Test.YtjbmgghehdemdaaGreatDoorMS26
namespace Go.Proofs.YtjbmgghehdemdaaGreatDoor
set_option maxRecDepth 100000
set_option maxHeartbeats 16000000
open _root_.Go.Proofs.Tryz
open Go.RowKit
theorem It {w:World} {B Bl:Nat} {ve vr:Value} {R:RA} {l:List Rw}(o:Dn) (af:o.text.size<=1048576) (ah:o.val.size<=60) (U:ac w B ve R.es) (ae:bd R.es R.lv=true) (V:Rws w Bl vr l) (a0:m6 l) (aj:l.length<=60) :
  Calls prog 79 #[.agg #[ve,.bool R.sh,.int .i64 R.lv],vr,.agg #[.int .i64 (kn7 o),.string o.text,.string o.val]] w fun e w' =>
   ∃ v,e=.returned (.tuple #[v,.bool (decide (apC R l o=0))])/\(apC R l o=0->Rws w' w.heap.size v (apR R l o))/\Below w.heap.size w w':=by
 obtain⟨K,L,rfl⟩:=ef U;obtain⟨ar,cr,ai⟩:=db V;subst ai;obtain⟨W,G⟩:∃ W,W=(w.alloc (.cells #[.slice K R.es.length L,.bool R.sh,.int .i64 R.lv] 56)).alloc (.cells #[.int .i64 (kn7 o),.string o.text,.string o.val] 27):=⟨_,rfl⟩
 have J:Below w.heap.size w W:=by rw[G];exact (bY _).alloc (by simp) _
 have n:Hid (Below w.heap.size w W):=J;have z:Hid (fo W (w.heap.size+1) (kn7 o) o.text o.val):=by
  have h:=heap_alloc_new (w.alloc (.cells #[.slice K R.es.length L,.bool R.sh,.int .i64 R.lv] 56)) (.cells #[.int .i64 (kn7 o),.string o.text,.string o.val] 27);rw[World.size_alloc]at h;show _=_
  rw[G];exact h
 have HU:Hid (lr W w.heap.size (.slice K R.es.length L) R.sh R.lv):=by
  show _=_
  rw[G,Below.heap_alloc _ _ _ (by simp)];exact heap_alloc_new w _
 have S:Hid (Rws W Bl (.slice ar l.length cr) l):=V.below J;have A:Hid (W=(w.alloc (.cells #[.slice K R.es.length L,.bool R.sh,.int .i64 R.lv] 56)).alloc (.cells #[.int .i64 (kn7 o),.string o.text,.string o.val] 27)):=G;have d:=Eg o.text af (U.below J) ae;obtain⟨I,u0,u1,u2⟩:=HU.out.facts;obtain⟨r,j,s,t⟩:=z.out.facts;have H:Hid (m6 l):=a0;clear U V a0 J G
 cases hfit:iz R o.text
 .have b:Hid (apC R l o=2):=ud (by rw[hfit];rfl)
  rw[hfit]at d;generalize (if o.text.size<=60 then dx R o.text else ⟨#[]⟩)=key at d;clear hfit;generalize kn7 o=kd at *;go_enter func79,ntmps79;go_wp2_with fail;rw[<- A.out];go_wp2_with fail;refine d.mono ?_;rintro e i ⟨rfl,a⟩;have f:Hid (Below w.heap.size w i):=n.out.trans (a.mono n.out.size);clear d a u0 u1 u2 I j s t r;go_wp2;go_ret2;exact⟨_,by (rw[b.out];try rfl),fun h=>absurd h (by rw[b.out];decide),f.out⟩
 .rw[if_pos (qe hfit).1,hfit]at d
  have F:(iz R o.text && decide (o.val.size<=60))=true:=by rw[hfit,decide_eq_true ah];rfl
  obtain⟨key,O⟩:∃ key,key=dx R o.text:=⟨_,rfl⟩
  rw[<- O]at d;have M:Hid (key=dx R o.text):=O;clear O hfit
  cases hput:o.put
  .have g:=Hh (l:=l) F hput
   have y:kn7 o=2:=by unfold kn7;rw[hput];rfl
   have x:apR R l o=sq l key:=by unfold apR;rw[hput,M.out];rfl
   rw[<- M.out]at g;rw[y]at j A z ⊢;have m:=fun (u:World) (X:Below W.heap.size W u)=>Fg (c:=cr) key (ja (S.out.below X)) (by omega) H.out
   cases hth:di l key
   .have b:Hid (apC R l o=4):=by show _=_;rw[g,hth];rfl
    rw[hth]at m;generalize ba l key=p at m;clear g F y x hth;go_enter func79,ntmps79;go_wp2_with fail;rw[<- A.out];go_wp2_with fail;refine d.mono ?_;rintro e i ⟨rfl,a⟩;have E:=m i a;obtain⟨r,j,s,t⟩:=(z.out.below a).facts;have f:Hid (Below w.heap.size w i):=n.out.trans (a.mono n.out.size);clear d a u0 u1 u2 I m;go_wp2_with fail;refine E.mono ?_;rintro e C ⟨rfl,q⟩;have k:Hid (Below w.heap.size w C):=f.out.trans (q.mono f.out.size);clear E q j s t r;go_wp2;go_ret2;exact⟨_,by (rw[b.out];try rfl),fun h=>absurd h (by rw[b.out];decide),k.out⟩
   .have b:Hid (apC R l o=0):=by show _=_;rw[g,hth];rfl
    have a7:=(qt H.out hth).2;rw[hth]at m;have a3:Hid (apR R l o=l.take (ba l key)++l.drop (ba l key+1)):=x;generalize ba l key=p at m a7 a3;clear g F y x hth;go_enter func79,ntmps79;go_wp2_with fail;rw[<- A.out];go_wp2_with fail;refine d.mono ?_;rintro e i ⟨rfl,a⟩;have E:=m i a;obtain⟨r,j,s,t⟩:=(z.out.below a).facts;have f:Hid (Below W.heap.size W i):=a;clear d a u0 u1 u2 I m;go_wp2_with fail;refine E.mono ?_;rintro e C ⟨rfl,q⟩;have N:=f.out.trans (q.mono f.out.size);have k:Hid (Below w.heap.size w C):=n.out.trans (N.mono n.out.size);have Q:=a15 (S.out.below N) a7 (by omega);rw[<- a3.out]at Q;clear E q j s t r N;go_wp2_with fail;refine Q.mono ?_;rintro e w3 ⟨v3,rfl,r3,b3⟩;have a8:Hid (Below w.heap.size w w3):=k.out.trans (b3.mono k.out.size)
    have ab:Hid (Rws w3 w.heap.size v3 (apR R l o)):=ff r3 k.out.size;clear Q r3 b3;go_wp2;go_ret2;exact⟨_,by (rw[b.out];try rfl),fun _=>ab.out,a8.out⟩
  .have g:=Km (l:=l) F hput
   have y:kn7 o=1:=by unfold kn7;rw[hput];rfl
   have P:Ev R o=⟨key,o.text,o.val⟩:=by unfold Ev;rw[M.out]
   have x:apR R l o=jc l ⟨key,o.text,o.val⟩:=by unfold apR;rw[hput,P];rfl
   rw[P]at g;rw[y]at j A z ⊢;have T:=fun (u:World) (X:Below W.heap.size W u)=>ao1 ⟨key,o.text,o.val⟩ (S.out.below X) (by omega) H.out
   have a4:Hid ((jc l ⟨key,o.text,o.val⟩).length<=l.length+1):=Ph H.out;have Z:Hid (apR R l o=jc l ⟨key,o.text,o.val⟩):=x;obtain⟨D,HD⟩:∃ D,Hid (jc l ⟨key,o.text,o.val⟩=D):=⟨_,rfl⟩
   rw[HD.out]at Z T g a4;have b:Hid (apC R l o=if D.length<=60 then 0 else 3):=g;clear g F y x P;go_enter func79,ntmps79;go_wp2_with fail;rw[<- A.out];go_wp2_with fail;refine d.mono ?_;rintro e i ⟨rfl,a⟩;have a5:=T i a;obtain⟨r,j,s,t⟩:=(z.out.below a).facts;have f:Hid (Below w.heap.size w i):=n.out.trans (a.mono n.out.size);clear d a u0 u1 u2 I T;go_wp2_with fail;refine a5.mono ?_;rintro e C ⟨v2,rfl,Y,q⟩;obtain⟨a2,c2,ag⟩:=db Y;subst ag;have k:Hid (Below w.heap.size w C):=f.out.trans (q.mono f.out.size);have aa:Hid (Rws C w.heap.size (.slice a2 D.length c2) (apR R l o)):=by show Rws _ _ _ _;rw[Z.out];exact ff Y f.out.size
   have ak:=a4.out;clear a5 Y q j s t r;by_cases hD:D.length<=60
   .have a6:(D.length:Int)<=60:=by omega
    have a9:Hid (apC R l o=0):=by show _=_;rw[b.out,if_pos hD]
    clear b;go_wp2;go_ret2;exact⟨_,by (rw[a9.out];try rfl),fun _=>aa.out,k.out⟩
   .have a6:¬ (D.length:Int)<=60:=by omega
    have a1:Hid (apC R l o=3):=by show _=_;rw[b.out,if_neg hD]
    have ad:decide ((D.length:Int)<=60)=false:=decide_eq_false a6;clear b;go_wp2;go_ret2;exact⟨.slice a2 D.length c2,by (rw[a1.out];first|rfl|(rw[show decide ((3:Int)=0)=decide ((D.length:Int)<=60) by rw[ad];rfl];rfl)),fun h=>absurd h (by rw[a1.out];decide),k.out⟩
def Yj:Option (Dn × Nat)->Value
 | none=>.tuple #[.agg #[.int .i64 0,.string ⟨#[]⟩,.string ⟨#[]⟩],.int .i64 0]
 | some (o,n)=>.tuple #[.agg #[.int .i64 (kn7 o),.string o.text,.string o.val],.int .i64 (n:Int)]
theorem cu {B:Nat} {w u:World}(h:Below B w u) (n:Nat):Below B w (u.drewN n):=⟨h.os,h.tape,h.output,h.size,h.block⟩
theorem Ud (s:ByteArray) (a:Nat):s.extract a a=⟨#[]⟩:=by
 apply ByteArray.ext
 simp
theorem a14 (w:World):(w.alloc (.cells #[.int .i64 0,.string ⟨#[]⟩,.string ⟨#[]⟩] 27)).cell? ⟨w.heap.size,0,none⟩=some (.int .i64 0)/\(w.alloc (.cells #[.int .i64 0,.string ⟨#[]⟩,.string ⟨#[]⟩] 27)).cell? ⟨w.heap.size,1,none⟩=some (.string ⟨#[]⟩)/\(w.alloc (.cells #[.int .i64 0,.string ⟨#[]⟩,.string ⟨#[]⟩] 27)).cell? ⟨w.heap.size,2,none⟩=some (.string ⟨#[]⟩)/\∀ j,(w.alloc (.cells #[.int .i64 0,.string ⟨#[]⟩,.string ⟨#[]⟩] 27)).frozen? ⟨w.heap.size,j,none⟩=false:=by
 have h:=heap_alloc_new w (.cells #[.int .i64 0,.string ⟨#[]⟩,.string ⟨#[]⟩] 27);exact⟨cell_of_row _ _ 0 _ _ _ h,cell_of_row _ _ 1 _ _ _ h,cell_of_row _ _ 2 _ _ _ h,fun j=>frozen_of_row _ _ j _ _ h⟩
theorem b15 (s:ByteArray) (w:World) (h0:0<s.size) (J:s.size<=1048576) :
  Calls prog 97 #[.string s] w fun e w'=>e=.returned (Yj (bm s))/\Below w.heap.size w w':=by
 have x:∀ u:World,(Instr.index 9 (.string s) (.int .i64 0)).run prog u=.ok (.int .u8 (hd s 0:Int)) u:=dd s 0 (by omega)
 have i:Hid (∀ o:Obj,Below w.heap.size w (w.alloc o)):=fun o=>bY o
 obtain⟨F,G,H,I⟩:=a14 w;have E:w.heap.size<(w.alloc (.cells #[.int .i64 0,.string ⟨#[]⟩,.string ⟨#[]⟩] 27)).heap.size:=by simp
 have j:¬ s.size=0:=by omega
 have K:=jy s 1;have L:=jy s 2;by_cases h:hd s 0=112
 .rw[h]at x
  by_cases k:s.size<3
  .have d:bm s=none:=by unfold bm;rw[if_neg j,if_pos h,if_pos k]
   have r:(s.size:Int)<3:=by omega
   rw[d];show Calls prog 97 #[.string s] w fun e w'=>e=.returned (.tuple #[.agg #[.int .i64 0,.string ⟨#[]⟩,.string ⟨#[]⟩],.int .i64 0])/\Below w.heap.size w w'
   clear d;go_enter func97,ntmps97;go_wp2;refine bodyPost_ret (v:=.tuple #[.agg #[.int .i64 0,.string ⟨#[]⟩,.string ⟨#[]⟩],.int .i64 0]) ?_ rfl ⟨rfl,by repeat (first|exact i.out _|refine Below.drew ?_|refine cu ?_ _)⟩;rw[results_cell_tmp rfl];go_simp
  have r:¬ (s.size:Int)<3:=by omega
  have D:∀ u:World,(Instr.index 9 (.string s) (.int .i64 1)).run prog u=.ok (.int .u8 (hd s 1:Int)) u:=dd s 1 (by omega)
  have Q:∀ u:World,(Instr.index 9 (.string s) (.int .i64 2)).run prog u=.ok (.int .u8 (hd s 2:Int)) u:=dd s 2 (by omega)
  have u1:IntKind.i64.wrap (hd s 1:Int)=(hd s 1:Int):=by rw[IntKind.wrap_i64];omega
  have u2:IntKind.i64.wrap (hd s 2:Int)=(hd s 2:Int):=by rw[IntKind.wrap_i64];omega
  by_cases l:s.size<=3+hd s 1+hd s 2
  .have d:bm s=none:=by unfold bm;rw[if_neg j,if_pos h,if_neg k,if_pos l]
   rw[d];show Calls prog 97 #[.string s] w fun e w'=>e=.returned (.tuple #[.agg #[.int .i64 0,.string ⟨#[]⟩,.string ⟨#[]⟩],.int .i64 0])/\Below w.heap.size w w'
   clear d;generalize hd s 1=a at *;generalize hd s 2=b at *;have p:(s.size:Int)<=3+(a:Int)+(b:Int):=by omega
   have d:True:=trivial;clear d;go_enter func97,ntmps97;go_wp2;refine bodyPost_ret (v:=.tuple #[.agg #[.int .i64 0,.string ⟨#[]⟩,.string ⟨#[]⟩],.int .i64 0]) ?_ rfl ⟨rfl,by repeat (first|exact i.out _|refine Below.drew ?_|refine cu ?_ _)⟩;rw[results_cell_tmp rfl];go_simp
  have m:∀ u:World,(Instr.index 9 (.string s) (.int .i64 ((3+hd s 1+hd s 2:Nat):Int))).run prog u=.ok (.int .u8 (hd s (3+hd s 1+hd s 2):Int)) u:=dd s _ (by omega)
  have t:=jy s (3+hd s 1+hd s 2);have A:=s.size;by_cases f:hd s (3+hd s 1+hd s 2)=46
  .have d:bm s=some (⟨true,s.extract 3 (3+hd s 1),s.extract (3+hd s 1) (3+hd s 1+hd s 2)⟩,3+hd s 1+hd s 2+1):=by unfold bm;rw[if_neg j,if_pos h,if_neg k,if_neg l,if_pos f]
   rw[d];show Calls prog 97 #[.string s] w fun e w'=>e=.returned (.tuple #[.agg #[.int .i64 1,.string (s.extract 3 (3+hd s 1)),.string (s.extract (3+hd s 1) (3+hd s 1+hd s 2))],.int .i64 ((3+hd s 1+hd s 2+1:Nat):Int)])/\Below w.heap.size w w'
   rw[f]at m;clear d f t;generalize hd s 1=a at *;generalize hd s 2=b at *;have p:¬ (s.size:Int)<=3+(a:Int)+(b:Int):=by omega
   have g:((3+a+b:Nat):Int)=3+(a:Int)+(b:Int):=by omega
   have q:((3+a+b+1:Nat):Int)=3+(a:Int)+(b:Int)+1:=by omega
   rw[g]at m;rw[q];clear g q;have B:∀ u:World,(Instr.slice 9 (.string s) (some (.int .i64 3)) (some (.int .i64 (3+(a:Int)))) none).run prog u=.ok (.string (s.extract 3 (3+a))) u:=fun u=>mp s _ _ _ _ (by omega) (by omega) (by omega) (by omega) u
   have C:∀ u:World,(Instr.slice 9 (.string s) (some (.int .i64 (3+(a:Int)))) (some (.int .i64 (3+(a:Int)+(b:Int)))) none).run prog u=.ok (.string (s.extract (3+a) (3+a+b))) u:=fun u=>mp s _ _ _ _ (by omega) (by omega) (by omega) (by omega) u
   generalize s.extract 3 (3+a)=e1 at *;generalize s.extract (3+a) (3+a+b)=e2 at *;go_enter func97,ntmps97;go_upto_region 15 with fail
   go_region
   all_goals
    go_wp2;refine bodyPost_ret (v:=.tuple #[.agg #[.int .i64 1,.string e1,.string e2],.int .i64 (3+(a:Int)+(b:Int)+1)]) ?_ rfl ⟨rfl,by repeat (first|exact i.out _|refine Below.drew ?_|refine cu ?_ _)⟩;rw[results_cell_tmp rfl];go_simp
  .have d:bm s=none:=by unfold bm;rw[if_neg j,if_pos h,if_neg k,if_neg l,if_neg f]
   rw[d];show Calls prog 97 #[.string s] w fun e w'=>e=.returned (.tuple #[.agg #[.int .i64 0,.string ⟨#[]⟩,.string ⟨#[]⟩],.int .i64 0])/\Below w.heap.size w w'
   clear d;generalize hd s (3+hd s 1+hd s 2)=c at *;generalize hd s 1=a at *;generalize hd s 2=b at *;have p:¬ (s.size:Int)<=3+(a:Int)+(b:Int):=by omega
   have g:((3+a+b:Nat):Int)=3+(a:Int)+(b:Int):=by omega
   rw[g]at m;have y:¬ (c:Int)=46:=by omega
   have z:((c:Int) != 46)=true:=by simp;omega
   clear g f;have d:True:=trivial;clear d;go_enter func97,ntmps97;go_wp2;refine bodyPost_ret (v:=.tuple #[.agg #[.int .i64 0,.string ⟨#[]⟩,.string ⟨#[]⟩],.int .i64 0]) ?_ rfl ⟨rfl,by repeat (first|exact i.out _|refine Below.drew ?_|refine cu ?_ _)⟩;rw[results_cell_tmp rfl];go_simp
 .by_cases n:hd s 0=100
  .rw[n]at x
   by_cases k:s.size<2
   .have d:bm s=none:=by unfold bm;rw[if_neg j,if_neg h,if_pos n,if_pos k]
    have r:(s.size:Int)<2:=by omega
    rw[d];show Calls prog 97 #[.string s] w fun e w'=>e=.returned (.tuple #[.agg #[.int .i64 0,.string ⟨#[]⟩,.string ⟨#[]⟩],.int .i64 0])/\Below w.heap.size w w'
    clear d;go_enter func97,ntmps97;go_wp2;refine bodyPost_ret (v:=.tuple #[.agg #[.int .i64 0,.string ⟨#[]⟩,.string ⟨#[]⟩],.int .i64 0]) ?_ rfl ⟨rfl,by repeat (first|exact i.out _|refine Below.drew ?_|refine cu ?_ _)⟩;rw[results_cell_tmp rfl];go_simp
   have r:¬ (s.size:Int)<2:=by omega
   have D:∀ u:World,(Instr.index 9 (.string s) (.int .i64 1)).run prog u=.ok (.int .u8 (hd s 1:Int)) u:=dd s 1 (by omega)
   have u1:IntKind.i64.wrap (hd s 1:Int)=(hd s 1:Int):=by rw[IntKind.wrap_i64];omega
   by_cases l:s.size<=2+hd s 1
   .have d:bm s=none:=by unfold bm;rw[if_neg j,if_neg h,if_pos n,if_neg k,if_pos l]
    rw[d];show Calls prog 97 #[.string s] w fun e w'=>e=.returned (.tuple #[.agg #[.int .i64 0,.string ⟨#[]⟩,.string ⟨#[]⟩],.int .i64 0])/\Below w.heap.size w w'
    clear d;generalize hd s 1=a at *;have p:(s.size:Int)<=2+(a:Int):=by omega
    have d:True:=trivial;clear d;go_enter func97,ntmps97;go_wp2;refine bodyPost_ret (v:=.tuple #[.agg #[.int .i64 0,.string ⟨#[]⟩,.string ⟨#[]⟩],.int .i64 0]) ?_ rfl ⟨rfl,by repeat (first|exact i.out _|refine Below.drew ?_|refine cu ?_ _)⟩;rw[results_cell_tmp rfl];go_simp
   have m:∀ u:World,(Instr.index 9 (.string s) (.int .i64 ((2+hd s 1:Nat):Int))).run prog u=.ok (.int .u8 (hd s (2+hd s 1):Int)) u:=dd s _ (by omega)
   have t:=jy s (2+hd s 1);have A:=s.size;by_cases f:hd s (2+hd s 1)=46
   .have d:bm s=some (⟨false,s.extract 2 (2+hd s 1),⟨#[]⟩⟩,2+hd s 1+1):=by unfold bm;rw[if_neg j,if_neg h,if_pos n,if_neg k,if_neg l,if_pos f]
    rw[d];show Calls prog 97 #[.string s] w fun e w'=>e=.returned (.tuple #[.agg #[.int .i64 2,.string (s.extract 2 (2+hd s 1)),.string ⟨#[]⟩],.int .i64 ((2+hd s 1+1:Nat):Int)])/\Below w.heap.size w w'
    rw[f]at m;clear d f t;generalize hd s 1=a at *;have p:¬ (s.size:Int)<=2+(a:Int):=by omega
    have g:((2+a:Nat):Int)=2+(a:Int):=by omega
    have q:((2+a+1:Nat):Int)=2+(a:Int)+1:=by omega
    rw[g]at m;rw[q];clear g q;have B:∀ u:World,(Instr.slice 9 (.string s) (some (.int .i64 2)) (some (.int .i64 (2+(a:Int)))) none).run prog u=.ok (.string (s.extract 2 (2+a))) u:=fun u=>mp s _ _ _ _ (by omega) (by omega) (by omega) (by omega) u
    have C:∀ u:World,(Instr.slice 9 (.string s) (some (.int .i64 (2+(a:Int)))) (some (.int .i64 (2+(a:Int)))) none).run prog u=.ok (.string ⟨#[]⟩) u:=fun u=>by rw[mp s _ _ (2+a) (2+a) (by omega) (by omega) (by omega) (by omega) u,Ud]
    generalize s.extract 2 (2+a)=e1 at *;go_enter func97,ntmps97;go_upto_region 15 with fail
    go_region
    all_goals
     go_wp2;refine bodyPost_ret (v:=.tuple #[.agg #[.int .i64 2,.string e1,.string ⟨#[]⟩],.int .i64 (2+(a:Int)+1)]) ?_ rfl ⟨rfl,by repeat (first|exact i.out _|refine Below.drew ?_|refine cu ?_ _)⟩;rw[results_cell_tmp rfl];go_simp
   .have d:bm s=none:=by unfold bm;rw[if_neg j,if_neg h,if_pos n,if_neg k,if_neg l,if_neg f]
    rw[d];show Calls prog 97 #[.string s] w fun e w'=>e=.returned (.tuple #[.agg #[.int .i64 0,.string ⟨#[]⟩,.string ⟨#[]⟩],.int .i64 0])/\Below w.heap.size w w'
    clear d;generalize hd s (2+hd s 1)=c at *;generalize hd s 1=a at *;have p:¬ (s.size:Int)<=2+(a:Int):=by omega
    have g:((2+a:Nat):Int)=2+(a:Int):=by omega
    rw[g]at m;have y:¬ (c:Int)=46:=by omega
    have z:((c:Int) != 46)=true:=by simp;omega
    clear g f;have d:True:=trivial;clear d;go_enter func97,ntmps97;go_wp2;refine bodyPost_ret (v:=.tuple #[.agg #[.int .i64 0,.string ⟨#[]⟩,.string ⟨#[]⟩],.int .i64 0]) ?_ rfl ⟨rfl,by repeat (first|exact i.out _|refine Below.drew ?_|refine cu ?_ _)⟩;rw[results_cell_tmp rfl];go_simp
  .have d:bm s=none:=by unfold bm;rw[if_neg j,if_neg h,if_neg n]
   have M:¬ (hd s 0:Int)=112:=by omega
   have N:¬ (hd s 0:Int)=100:=by omega
   have O:((hd s 0:Int) == 112)=false:=by simp;omega
   have P:((hd s 0:Int) == 100)=false:=by simp;omega
   rw[d];show Calls prog 97 #[.string s] w fun e w'=>e=.returned (.tuple #[.agg #[.int .i64 0,.string ⟨#[]⟩,.string ⟨#[]⟩],.int .i64 0])/\Below w.heap.size w w'
   clear d;go_enter func97,ntmps97;go_wp2;refine bodyPost_ret (v:=.tuple #[.agg #[.int .i64 0,.string ⟨#[]⟩,.string ⟨#[]⟩],.int .i64 0]) ?_ rfl ⟨rfl,by repeat (first|exact i.out _|refine Below.drew ?_|refine cu ?_ _)⟩;rw[results_cell_tmp rfl];go_simp
def jh (s:ByteArray):Option (Dn × Nat) :=
 match bm s with
 | none=>none
 | some (o,n)=>if o.text.size<=60/\o.val.size<=60 then some (o,n) else none
theorem ma {s:ByteArray}(h:bm s=none):jh s=none:=by unfold jh;rw[h]
theorem K5 {s:ByteArray} {o:Dn} {n:Nat}(h:bm s=some (o,n)) (a:¬ (o.text.size<=60/\o.val.size<=60)):jh s=none:=by
 unfold jh;rw[h];show (if _ then _ else _)=none
 rw[if_neg a]
theorem A5 {s:ByteArray} {o:Dn} {n:Nat}(h:bm s=some (o,n)) (a:o.text.size<=60/\o.val.size<=60):jh s=some (o,n):=by
 unfold jh;rw[h];show (if _ then _ else _)=_
 rw[if_pos a]
theorem ao9 {s:ByteArray}(h:s.size<2):bm s=none:=by
 unfold bm;by_cases a:s.size=0
 .rw[if_pos a]
 rw[if_neg a];by_cases b:hd s 0=112
 .rw[if_pos b,if_pos (by omega)]
 rw[if_neg b];by_cases c:hd s 0=100
 .rw[if_pos c,if_pos (by omega)]
 .rw[if_neg c]
theorem yc (s:ByteArray) (a b:Nat) (h:a+b<=s.size):(s.extract a (a+b)).size=b:=by rw[ByteArray.size_extract];omega
theorem Mi {s:ByteArray}(a:¬ s.size=0) (e:hd s 0=112) (d:¬ s.size<3) (l:60<hd s 1\/60<hd s 2):jh s=none:=by
 by_cases b:s.size<=3+hd s 1+hd s 2
 .exact ma (by unfold bm;rw[if_neg a,if_pos e,if_neg d,if_pos b])
 by_cases f:hd s (3+hd s 1+hd s 2)=46
 .have g:bm s=some (⟨true,s.extract 3 (3+hd s 1),s.extract (3+hd s 1) (3+hd s 1+hd s 2)⟩,3+hd s 1+hd s 2+1):=by unfold bm;rw[if_neg a,if_pos e,if_neg d,if_neg b,if_pos f]
  refine K5 g fun c=>?_
  have j:=yc s 3 (hd s 1) (by omega);have k:=yc s (3+hd s 1) (hd s 2) (by omega);have h:(s.extract 3 (3+hd s 1)).size<=60:=c.1;have i:(s.extract (3+hd s 1) (3+hd s 1+hd s 2)).size<=60:=c.2;omega
 .exact ma (by unfold bm;rw[if_neg a,if_pos e,if_neg d,if_neg b,if_neg f])
theorem Yg {s:ByteArray}(b:¬ s.size=0) (f:¬ hd s 0=112) (a:hd s 0=100) (e:¬ s.size<2) (k:60<hd s 1):jh s=none:=by
 by_cases d:s.size<=2+hd s 1
 .exact ma (by unfold bm;rw[if_neg b,if_neg f,if_pos a,if_neg e,if_pos d])
 by_cases g:hd s (2+hd s 1)=46
 .have h:bm s=some (⟨false,s.extract 2 (2+hd s 1),⟨#[]⟩⟩,2+hd s 1+1):=by unfold bm;rw[if_neg b,if_neg f,if_pos a,if_neg e,if_neg d,if_pos g]
  refine K5 h fun c=>?_
  have j:=yc s 2 (hd s 1) (by omega);have i:(s.extract 2 (2+hd s 1)).size<=60:=c.1;omega
 .exact ma (by unfold bm;rw[if_neg b,if_neg f,if_pos a,if_neg e,if_neg d,if_neg g])
theorem Qw (s:ByteArray) (w:World) (h0:0<s.size) (N:s.size<=1048576) :
  Calls prog 48 #[.string s] w fun e w'=>e=.returned (Yj (jh s))/\Below w.heap.size w w':=by
 have f:Hid (∀ o:Obj,Below w.heap.size w (w.alloc o)):=fun o=>bY o
 obtain⟨J,K,L,M⟩:=a14 w;have I:w.heap.size<(w.alloc (.cells #[.int .i64 0,.string ⟨#[]⟩,.string ⟨#[]⟩] 27)).heap.size:=by simp
 have j:¬ s.size=0:=by omega
 have O:=jy s 1;have P:=jy s 2;by_cases F:s.size<2
 .have d:jh s=none:=ma (ao9 F)
  have C:(s.size:Int)<2:=by omega
  rw[d];show Calls prog 48 #[.string s] w fun e w'=>e=.returned (.tuple #[.agg #[.int .i64 0,.string ⟨#[]⟩,.string ⟨#[]⟩],.int .i64 0])/\Below w.heap.size w w'
  clear d;go_enter func48,ntmps48;go_wp2;refine bodyPost_ret (v:=.tuple #[.agg #[.int .i64 0,.string ⟨#[]⟩,.string ⟨#[]⟩],.int .i64 0]) ?_ rfl ⟨rfl,by repeat (first|exact f.out _|refine Below.alloc ?_ (by simp) _|refine Below.setCell ?_ bR _|refine Below.drew ?_|refine cu ?_ _)⟩;rw[results_cell_tmp rfl];go_simp
 have C:¬ (s.size:Int)<2:=by omega
 have y:∀ u:World,(Instr.index 9 (.string s) (.int .i64 0)).run prog u=.ok (.int .u8 (hd s 0:Int)) u:=dd s 0 (by omega)
 by_cases g:hd s 0=112
 .rw[g]at y
  by_cases k:s.size<3
  .have d:jh s=none:=ma (by unfold bm;rw[if_neg j,if_pos g,if_pos k])
   have B:(s.size:Int)<3:=by omega
   rw[d];show Calls prog 48 #[.string s] w fun e w'=>e=.returned (.tuple #[.agg #[.int .i64 0,.string ⟨#[]⟩,.string ⟨#[]⟩],.int .i64 0])/\Below w.heap.size w w'
   clear d;go_enter func48,ntmps48;go_wp2;refine bodyPost_ret (v:=.tuple #[.agg #[.int .i64 0,.string ⟨#[]⟩,.string ⟨#[]⟩],.int .i64 0]) ?_ rfl ⟨rfl,by repeat (first|exact f.out _|refine Below.alloc ?_ (by simp) _|refine Below.setCell ?_ bR _|refine Below.drew ?_|refine cu ?_ _)⟩;rw[results_cell_tmp rfl];go_simp
  have B:¬ (s.size:Int)<3:=by omega
  have H:∀ u:World,(Instr.index 9 (.string s) (.int .i64 1)).run prog u=.ok (.int .u8 (hd s 1:Int)) u:=dd s 1 (by omega)
  have U:∀ u:World,(Instr.index 9 (.string s) (.int .i64 2)).run prog u=.ok (.int .u8 (hd s 2:Int)) u:=dd s 2 (by omega)
  have u1:IntKind.i64.wrap (hd s 1:Int)=(hd s 1:Int):=by rw[IntKind.wrap_i64];omega
  have u2:IntKind.i64.wrap (hd s 2:Int)=(hd s 2:Int):=by rw[IntKind.wrap_i64];omega
  by_cases x:60<hd s 1
  .have d:jh s=none:=Mi j g k (.inl x)
   rw[d];show Calls prog 48 #[.string s] w fun e w'=>e=.returned (.tuple #[.agg #[.int .i64 0,.string ⟨#[]⟩,.string ⟨#[]⟩],.int .i64 0])/\Below w.heap.size w w'
   clear d;generalize hd s 1=a at *;generalize hd s 2=b at *;have l:(60:Int)<(a:Int):=by omega
   go_enter func48,ntmps48;go_wp2;refine bodyPost_ret (v:=.tuple #[.agg #[.int .i64 0,.string ⟨#[]⟩,.string ⟨#[]⟩],.int .i64 0]) ?_ rfl ⟨rfl,by repeat (first|exact f.out _|refine Below.alloc ?_ (by simp) _|refine Below.setCell ?_ bR _|refine Below.drew ?_|refine cu ?_ _)⟩;rw[results_cell_tmp rfl];go_simp
  by_cases G:60<hd s 2
  .have d:jh s=none:=Mi j g k (.inr G)
   rw[d];show Calls prog 48 #[.string s] w fun e w'=>e=.returned (.tuple #[.agg #[.int .i64 0,.string ⟨#[]⟩,.string ⟨#[]⟩],.int .i64 0])/\Below w.heap.size w w'
   clear d;generalize hd s 1=a at *;generalize hd s 2=b at *;have l:¬ (60:Int)<(a:Int):=by omega
   have t:(60:Int)<(b:Int):=by omega
   go_enter func48,ntmps48;go_wp2;refine bodyPost_ret (v:=.tuple #[.agg #[.int .i64 0,.string ⟨#[]⟩,.string ⟨#[]⟩],.int .i64 0]) ?_ rfl ⟨rfl,by repeat (first|exact f.out _|refine Below.alloc ?_ (by simp) _|refine Below.setCell ?_ bR _|refine Below.drew ?_|refine cu ?_ _)⟩;rw[results_cell_tmp rfl];go_simp
  by_cases m:s.size<=3+hd s 1+hd s 2
  .have d:jh s=none:=ma (by unfold bm;rw[if_neg j,if_pos g,if_neg k,if_pos m])
   rw[d];show Calls prog 48 #[.string s] w fun e w'=>e=.returned (.tuple #[.agg #[.int .i64 0,.string ⟨#[]⟩,.string ⟨#[]⟩],.int .i64 0])/\Below w.heap.size w w'
   clear d;generalize hd s 1=a at *;generalize hd s 2=b at *;have l:¬ (60:Int)<(a:Int):=by omega
   have t:¬ (60:Int)<(b:Int):=by omega
   have q:(s.size:Int)<3+(a:Int)+(b:Int)+1:=by omega
   go_enter func48,ntmps48;go_wp2;refine bodyPost_ret (v:=.tuple #[.agg #[.int .i64 0,.string ⟨#[]⟩,.string ⟨#[]⟩],.int .i64 0]) ?_ rfl ⟨rfl,by repeat (first|exact f.out _|refine Below.alloc ?_ (by simp) _|refine Below.setCell ?_ bR _|refine Below.drew ?_|refine cu ?_ _)⟩;rw[results_cell_tmp rfl];go_simp
  have n:∀ u:World,(Instr.index 9 (.string s) (.int .i64 ((3+hd s 1+hd s 2:Nat):Int))).run prog u=.ok (.int .u8 (hd s (3+hd s 1+hd s 2):Int)) u:=dd s _ (by omega)
  by_cases h:hd s (3+hd s 1+hd s 2)=46
  .have d:jh s=some (⟨true,s.extract 3 (3+hd s 1),s.extract (3+hd s 1) (3+hd s 1+hd s 2)⟩,3+hd s 1+hd s 2+1):=A5 (by unfold bm;rw[if_neg j,if_pos g,if_neg k,if_neg m,if_pos h]) ⟨by have:=yc s 3 (hd s 1) (by omega);show (s.extract 3 (3+hd s 1)).size<=60;omega,by have:=yc s (3+hd s 1) (hd s 2) (by omega);show (s.extract (3+hd s 1) (3+hd s 1+hd s 2)).size<=60;omega⟩
   rw[d];show Calls prog 48 #[.string s] w fun e w'=>e=.returned (.tuple #[.agg #[.int .i64 1,.string (s.extract 3 (3+hd s 1)),.string (s.extract (3+hd s 1) (3+hd s 1+hd s 2))],.int .i64 ((3+hd s 1+hd s 2+1:Nat):Int)])/\Below w.heap.size w w'
   rw[h]at n;clear d h;generalize hd s 1=a at *;generalize hd s 2=b at *;have l:¬ (60:Int)<(a:Int):=by omega
   have t:¬ (60:Int)<(b:Int):=by omega
   have q:¬ (s.size:Int)<3+(a:Int)+(b:Int)+1:=by omega
   have i:((3+a+b:Nat):Int)=3+(a:Int)+(b:Int):=by omega
   have r:((3+a+b+1:Nat):Int)=3+(a:Int)+(b:Int)+1:=by omega
   rw[i]at n;rw[r];clear i r;have D:∀ u:World,(Instr.slice 9 (.string s) (some (.int .i64 3)) (some (.int .i64 (3+(a:Int)))) none).run prog u=.ok (.string (s.extract 3 (3+a))) u:=fun u=>mp s _ _ _ _ (by omega) (by omega) (by omega) (by omega) u
   have E:∀ u:World,(Instr.slice 9 (.string s) (some (.int .i64 (3+(a:Int)))) (some (.int .i64 (3+(a:Int)+(b:Int)))) none).run prog u=.ok (.string (s.extract (3+a) (3+a+b))) u:=fun u=>mp s _ _ _ _ (by omega) (by omega) (by omega) (by omega) u
   generalize s.extract 3 (3+a)=e1 at *;generalize s.extract (3+a) (3+a+b)=e2 at *;go_enter func48,ntmps48;go_wp2;refine bodyPost_ret (v:=.tuple #[.agg #[.int .i64 1,.string e1,.string e2],.int .i64 (3+(a:Int)+(b:Int)+1)]) ?_ rfl ⟨rfl,by repeat (first|exact f.out _|refine Below.alloc ?_ (by simp) _|refine Below.setCell ?_ bR _|refine Below.drew ?_|refine cu ?_ _)⟩;rw[results_cell_tmp rfl];go_simp
  .have d:jh s=none:=ma (by unfold bm;rw[if_neg j,if_pos g,if_neg k,if_neg m,if_neg h])
   rw[d];show Calls prog 48 #[.string s] w fun e w'=>e=.returned (.tuple #[.agg #[.int .i64 0,.string ⟨#[]⟩,.string ⟨#[]⟩],.int .i64 0])/\Below w.heap.size w w'
   clear d;generalize hd s (3+hd s 1+hd s 2)=c at *;generalize hd s 1=a at *;generalize hd s 2=b at *;have l:¬ (60:Int)<(a:Int):=by omega
   have t:¬ (60:Int)<(b:Int):=by omega
   have q:¬ (s.size:Int)<3+(a:Int)+(b:Int)+1:=by omega
   have i:((3+a+b:Nat):Int)=3+(a:Int)+(b:Int):=by omega
   rw[i]at n;have z:¬ (c:Int)=46:=by omega
   have A:((c:Int) != 46)=true:=by simp;omega
   clear i h;go_enter func48,ntmps48;go_wp2;refine bodyPost_ret (v:=.tuple #[.agg #[.int .i64 0,.string ⟨#[]⟩,.string ⟨#[]⟩],.int .i64 0]) ?_ rfl ⟨rfl,by repeat (first|exact f.out _|refine Below.alloc ?_ (by simp) _|refine Below.setCell ?_ bR _|refine Below.drew ?_|refine cu ?_ _)⟩;rw[results_cell_tmp rfl];go_simp
 .by_cases p:hd s 0=100
  .rw[p]at y
   have k:¬ s.size<2:=by omega
   have H:∀ u:World,(Instr.index 9 (.string s) (.int .i64 1)).run prog u=.ok (.int .u8 (hd s 1:Int)) u:=dd s 1 (by omega)
   have u1:IntKind.i64.wrap (hd s 1:Int)=(hd s 1:Int):=by rw[IntKind.wrap_i64];omega
   by_cases x:60<hd s 1
   .have d:jh s=none:=Yg j g p k x
    rw[d];show Calls prog 48 #[.string s] w fun e w'=>e=.returned (.tuple #[.agg #[.int .i64 0,.string ⟨#[]⟩,.string ⟨#[]⟩],.int .i64 0])/\Below w.heap.size w w'
    clear d;generalize hd s 1=a at *;have l:(60:Int)<(a:Int):=by omega
    go_enter func48,ntmps48;go_wp2;refine bodyPost_ret (v:=.tuple #[.agg #[.int .i64 0,.string ⟨#[]⟩,.string ⟨#[]⟩],.int .i64 0]) ?_ rfl ⟨rfl,by repeat (first|exact f.out _|refine Below.alloc ?_ (by simp) _|refine Below.setCell ?_ bR _|refine Below.drew ?_|refine cu ?_ _)⟩;rw[results_cell_tmp rfl];go_simp
   by_cases m:s.size<=2+hd s 1
   .have d:jh s=none:=ma (by unfold bm;rw[if_neg j,if_neg g,if_pos p,if_neg k,if_pos m])
    rw[d];show Calls prog 48 #[.string s] w fun e w'=>e=.returned (.tuple #[.agg #[.int .i64 0,.string ⟨#[]⟩,.string ⟨#[]⟩],.int .i64 0])/\Below w.heap.size w w'
    clear d;generalize hd s 1=a at *;have l:¬ (60:Int)<(a:Int):=by omega
    have q:(s.size:Int)<2+(a:Int)+1:=by omega
    go_enter func48,ntmps48;go_wp2;refine bodyPost_ret (v:=.tuple #[.agg #[.int .i64 0,.string ⟨#[]⟩,.string ⟨#[]⟩],.int .i64 0]) ?_ rfl ⟨rfl,by repeat (first|exact f.out _|refine Below.alloc ?_ (by simp) _|refine Below.setCell ?_ bR _|refine Below.drew ?_|refine cu ?_ _)⟩;rw[results_cell_tmp rfl];go_simp
   have n:∀ u:World,(Instr.index 9 (.string s) (.int .i64 ((2+hd s 1:Nat):Int))).run prog u=.ok (.int .u8 (hd s (2+hd s 1):Int)) u:=dd s _ (by omega)
   by_cases h:hd s (2+hd s 1)=46
   .have d:jh s=some (⟨false,s.extract 2 (2+hd s 1),⟨#[]⟩⟩,2+hd s 1+1):=A5 (by unfold bm;rw[if_neg j,if_neg g,if_pos p,if_neg k,if_neg m,if_pos h]) ⟨by have:=yc s 2 (hd s 1) (by omega);show (s.extract 2 (2+hd s 1)).size<=60;omega,by show 0<=60;omega⟩
    rw[d];show Calls prog 48 #[.string s] w fun e w'=>e=.returned (.tuple #[.agg #[.int .i64 2,.string (s.extract 2 (2+hd s 1)),.string ⟨#[]⟩],.int .i64 ((2+hd s 1+1:Nat):Int)])/\Below w.heap.size w w'
    rw[h]at n;clear d h;generalize hd s 1=a at *;have l:¬ (60:Int)<(a:Int):=by omega
    have q:¬ (s.size:Int)<2+(a:Int)+1:=by omega
    have i:((2+a:Nat):Int)=2+(a:Int):=by omega
    have r:((2+a+1:Nat):Int)=2+(a:Int)+1:=by omega
    rw[i]at n;rw[r];clear i r;have D:∀ u:World,(Instr.slice 9 (.string s) (some (.int .i64 2)) (some (.int .i64 (2+(a:Int)))) none).run prog u=.ok (.string (s.extract 2 (2+a))) u:=fun u=>mp s _ _ _ _ (by omega) (by omega) (by omega) (by omega) u
    have E:∀ u:World,(Instr.slice 9 (.string s) (some (.int .i64 (2+(a:Int)))) (some (.int .i64 (2+(a:Int)))) none).run prog u=.ok (.string ⟨#[]⟩) u:=fun u=>by rw[mp s _ _ (2+a) (2+a) (by omega) (by omega) (by omega) (by omega) u,Ud]
    generalize s.extract 2 (2+a)=e1 at *;go_enter func48,ntmps48;go_wp2;refine bodyPost_ret (v:=.tuple #[.agg #[.int .i64 2,.string e1,.string ⟨#[]⟩],.int .i64 (2+(a:Int)+1)]) ?_ rfl ⟨rfl,by repeat (first|exact f.out _|refine Below.alloc ?_ (by simp) _|refine Below.setCell ?_ bR _|refine Below.drew ?_|refine cu ?_ _)⟩;rw[results_cell_tmp rfl];go_simp
   .have d:jh s=none:=ma (by unfold bm;rw[if_neg j,if_neg g,if_pos p,if_neg k,if_neg m,if_neg h])
    rw[d];show Calls prog 48 #[.string s] w fun e w'=>e=.returned (.tuple #[.agg #[.int .i64 0,.string ⟨#[]⟩,.string ⟨#[]⟩],.int .i64 0])/\Below w.heap.size w w'
    clear d;generalize hd s (2+hd s 1)=c at *;generalize hd s 1=a at *;have l:¬ (60:Int)<(a:Int):=by omega
    have q:¬ (s.size:Int)<2+(a:Int)+1:=by omega
    have i:((2+a:Nat):Int)=2+(a:Int):=by omega
    rw[i]at n;have z:¬ (c:Int)=46:=by omega
    have A:((c:Int) != 46)=true:=by simp;omega
    clear i h;go_enter func48,ntmps48;go_wp2;refine bodyPost_ret (v:=.tuple #[.agg #[.int .i64 0,.string ⟨#[]⟩,.string ⟨#[]⟩],.int .i64 0]) ?_ rfl ⟨rfl,by repeat (first|exact f.out _|refine Below.alloc ?_ (by simp) _|refine Below.setCell ?_ bR _|refine Below.drew ?_|refine cu ?_ _)⟩;rw[results_cell_tmp rfl];go_simp
  .have d:jh s=none:=ma (by unfold bm;rw[if_neg j,if_neg g,if_neg p])
   have Q:¬ (hd s 0:Int)=112:=by omega
   have R:¬ (hd s 0:Int)=100:=by omega
   have S:((hd s 0:Int) != 112)=true:=by simp;omega
   have T:((hd s 0:Int) != 100)=true:=by simp;omega
   rw[d];show Calls prog 48 #[.string s] w fun e w'=>e=.returned (.tuple #[.agg #[.int .i64 0,.string ⟨#[]⟩,.string ⟨#[]⟩],.int .i64 0])/\Below w.heap.size w w'
   clear d;go_enter func48,ntmps48;go_wp2;refine bodyPost_ret (v:=.tuple #[.agg #[.int .i64 0,.string ⟨#[]⟩,.string ⟨#[]⟩],.int .i64 0]) ?_ rfl ⟨rfl,by repeat (first|exact f.out _|refine Below.alloc ?_ (by simp) _|refine Below.setCell ?_ bR _|refine Below.drew ?_|refine cu ?_ _)⟩;rw[results_cell_tmp rfl];go_simp
theorem Yh {s:ByteArray} {o:Dn} {n:Nat}(h:jh s=some (o,n)):bm s=some (o,n)/\o.text.size<=60/\o.val.size<=60:=by
 unfold jh at h
 cases hr:bm s with
 | none=>rw[hr]at h;cases h
 | some p =>
  obtain⟨b,c⟩:=p;rw[hr]at h;have a:(if b.text.size<=60/\b.val.size<=60 then some (b,c) else none)=some (o,n):=h;split at a
  .rename_i hl
   cases a
   exact⟨rfl,hl⟩
  .cases a
theorem ab3 {R:RA} {l:List Rw} {s:ByteArray}(h0:s.size≠0) (h:jh s=none):jd R l s=none:=by
 cases hr:bm s with
 | none=>exact ab2 h0 hr
 | some p =>
  obtain⟨o,n⟩:=p;refine Id hr ?_;have hn:¬ (o.text.size<=60/\o.val.size<=60):=fun c=>by rw[A5 hr c]at h;cases h
  have a:(iz R o.text && decide (o.val.size<=60))=false:=by
   cases hq:(iz R o.text && decide (o.val.size<=60))
   .rfl
   .rw[Bool.and_eq_true,decide_eq_true_eq]at hq
    exact absurd ⟨(qe hq.1).1,hq.2⟩ hn
  rw[ud a];decide
theorem Yq {R:RA} {l:List Rw}(h:jv R l):da l=true :=
 pi.2 ⟨h.len,fun x hx=>by
  have:=h.sz x hx;unfold sz1;rw[decide_eq_true (by omega),decide_eq_true (by omega),decide_eq_true (by omega)];rfl,yi h.rise⟩
structure Ds7 where
 r:ByteArray
 ss:List ByteArray
 log:ByteArray
 syn:Int
def zD7:Ds7:=⟨⟨#[]⟩,[],⟨#[]⟩,0⟩
def dn7 (k:Int) (x v:ByteArray):Dn:=⟨decide (k=1),x,v⟩
def js (o:Dn):ByteArray :=
 if o.put=true then ⟨#[112]⟩++⟨#[UInt8.ofNat o.text.size,UInt8.ofNat o.val.size]⟩++o.text++o.val++⟨#[46]⟩ else ⟨#[100]⟩++⟨#[UInt8.ofNat o.text.size]⟩++o.text++⟨#[46]⟩
theorem Mj (o:Dn):(js o).size=if o.put=true then 4+o.text.size+o.val.size else 3+o.text.size:=by
 unfold js;split
 .simp only[ByteArray.size_append]
  show 1+2+o.text.size+o.val.size+1=_
  omega
 .simp only[ByteArray.size_append]
  show 1+1+o.text.size+1=_
  omega
def er (k:Int) (x v:ByteArray):Bool:=decide (1<=k/\k<=4/\((k=3\/k=4)->x.size=0)/\(k≠1->v.size=0))
def lq (d:Ds7):Bool:=decide (0<=d.syn/\d.syn<=(d.log.size:Int))
def fb (d:Ds7):Option (List Rw):=eb (ab d.r) d.ss d.log
def doL (d:Ds7) (l:List Rw) (k:Int) (x v:ByteArray):Int × Ds7 :=
 if k=3 then (0,{ d with syn:=(d.log.size:Int) })
 else if k=4 then (match mc l with
  | some pp=>(0,{ d with ss:=pp,log:=⟨#[]⟩,syn:=0 })
  | none=>(3,d))
 else if apC (ab d.r) l (dn7 k x v)=0 then (if d.log.size+(js (dn7 k x v)).size<=6000 then (0,{ d with log:=d.log++js (dn7 k x v) }) else (3,d))
 else (apC (ab d.r) l (dn7 k x v),d)
def do7 (d:Ds7) (k:Int) (x v:ByteArray):Int × Ds7 :=
 match fb d with
 | none=>(1,zD7)
 | some l=>if (lq d && er k x v)=true then doL d l k x v else (1,zD7)
structure Ok7 (d:Ds7):Prop where
 rules:d.r.size<=1048576
 pages:d.ss.length<=1048576
 page:∀ s ∈ d.ss,s.size<=1048576
 side:qw d.ss
 log:d.log.size<=1000000
theorem Yx {l:List Rw} {p:List ByteArray}(d:l.length<=60) (e:∀ x ∈ l,x.text.size<=60/\x.val.size<=60) (h:mc l=some p):qw p:=by
 obtain⟨g,b,c,_⟩:=Cx h;intro f a;rw[b]at a
 cases a
 rw[c];exact⟨d,e⟩
theorem b54 {d:Ds7} {l:List Rw}(h:Ok7 d) (a:jv (ab d.r) l) (k:Int) (x v:ByteArray):Ok7 (doL d l k x v).2:=by
 unfold doL;split
 .exact⟨h.rules,h.pages,h.page,h.side,h.log⟩
 split
 .split
  .rename_i pp hp
   obtain⟨_,_,_,_,_,c,b⟩:=Cx hp;exact⟨h.rules,by show pp.length<=_;omega,fun s hs=>by have:=b s hs;omega,Yx a.len (fun x hx=>⟨(a.sz x hx).1,(a.sz x hx).2.1⟩) hp,by show 0<=1000000;omega⟩
  .exact h
 split
 .split
  .rename_i hs
   exact⟨h.rules,h.pages,h.page,h.side,by show (d.log++_).size<=_;rw[ByteArray.size_append];omega⟩
  .exact h
 .exact h
theorem Qq:qw []:=fun gs h=>by
 have:gs=[]:=by
  unfold bu at h;rw[if_pos (by show 0<=40;omega)]at h;have a:some []=some gs:=h
  cases a
  rfl
 subst this;exact⟨by show 0<=60;omega,fun x hx=>by cases hx⟩
theorem ae1:Ok7 zD7:=⟨Nat.zero_le _,Nat.zero_le _,fun s hs=>(by cases hs),Qq,Nat.zero_le _⟩
theorem qi {d:Ds7} {l:List Rw}(h:Ok7 d) (a:fb d=some l):jv (ab d.r) l:=Xu h.side a
theorem b53 {d:Ds7}(h:Ok7 d) (k:Int) (x v:ByteArray):Ok7 (do7 d k x v).2:=by
 unfold do7;split
 .exact ae1
 .rename_i l ho
  split
  .exact b54 h (qi h ho) k x v
  .exact ae1
def ju:Nat->ByteArray->Nat
 | 0,_=>0
 | f+1,s=>match bm s with
  | none=>0
  | some (_,n)=>n+ju f (s.extract n s.size)
def cm (s:ByteArray):Nat:=ju s.size s
theorem I9 {s:ByteArray}(h:s.size=0):bm s=none:=by unfold bm;rw[if_pos h]
theorem He:∀ (f g:Nat) (s:ByteArray),s.size<=f->s.size<=g->ju f s=ju g s
 | 0,0,_,_,_=>rfl
 | 0,g+1,s,h1,_=>by rw[ju,ju,I9 (by omega)]
 | f+1,0,s,_,h2=>by rw[ju,ju,I9 (by omega)]
 | f+1,g+1,s,h1,h2=>by
  rw[ju,ju]
  cases hr:bm s with
  | none=>rfl
  | some p =>
   obtain⟨o,n⟩:=p;have a:=n7 hr;have b:=gg s n;show n+ju f (s.extract n s.size)=n+ju g (s.extract n s.size)
   rw[He f g (s.extract n s.size) (by omega) (by omega)]
theorem y8 {s:ByteArray}(h:bm s=none):cm s=0:=by
 unfold cm
 cases s.size with
 | zero=>rfl
 | succ m=>rw[ju,h]
theorem y7 {s:ByteArray} {o:Dn} {n:Nat}(h:bm s=some (o,n)):cm s=n+cm (s.extract n s.size):=by
 have b:=n7 h;have c:=gg s n;unfold cm;obtain⟨m,a⟩:∃ m,s.size=m+1:=⟨s.size-1,by omega⟩
 rw[show ju s.size s=ju (m+1) s by rw[a],ju,h];show n+ju m (s.extract n s.size)=_
 rw[He m _ (s.extract n s.size) (by omega) bR]
theorem A6 (s:ByteArray) (a n:Nat):(s.extract a s.size).extract n (s.extract a s.size).size=s.extract (a+n) s.size:=by
 rw[gg];apply ByteArray.ext
 apply Array.toList_inj.1
 have e:=fun (t:ByteArray) (i j:Nat)=>kc t i j
 rw[e,e,e,List.drop_take,List.drop_drop,List.take_take];congr 1
 omega
def b60 (w:World) (ty:TypeId) (pv:Value):Prop:=w.cell? ⟨0,0,none⟩=some (.iface ty pv)
def bc2 (w:World) (s:ByteArray) (v i:Value) (wr:World):Prop :=
 ∃ (k:Nat) (os:List Dn),k<=s.size/\i=.int .i64 (k:Int)/\Dos wr w.heap.size v os/\os.length<=k/\im s=(im (s.extract k s.size)).map (os++·)/\cm s=k+cm (s.extract k s.size)/\Below w.heap.size w wr
theorem az2 {s:ByteArray} {k n:Nat} {o:Dn} {os:List Dn}(a:bm (s.extract k s.size)=some (o,n)) (h1:im s=(im (s.extract k s.size)).map (os++·)) (h2:cm s=k+cm (s.extract k s.size)) :
  im s=(im (s.extract (k+n) s.size)).map ((os++[o])++·)/\cm s=k+n+cm (s.extract (k+n) s.size):=by
 rw[zz a,A6]at h1;rw[y7 a,A6]at h2;refine⟨?_,by omega⟩;rw[h1]
 cases im (s.extract (k+n) s.size) <;> simp
theorem H6 (s:ByteArray) (w:World) (hz:s.size<=1048576){ty:TypeId} {pv:Value}(F:b60 w ty pv) :
  Calls prog 46 #[.string s] w fun e w' =>
   (s.size<=6000/\∃ (os:List Dn) (v:Value),im s=some os/\e=.returned (.tuple #[v,.nilIface])/\Dos w' w.heap.size v os/\os.length<=6000/\Below w.heap.size w w') \/
   (s.size<=6000/\im s=none/\e=.returned (.tuple #[.slice none 0 0,.iface 98 (.agg #[.int .i64 (cm s:Int)])])/\Below w.heap.size w w') \/
   (¬ s.size<=6000/\e=.returned (.tuple #[.slice none 0 0,.iface ty pv])/\Below w.heap.size w w'):=by
 by_cases E:s.size<=6000
 .have V:¬ (6000:Int)<(s.size:Int):=by omega
  obtain⟨i0,hi,Z,a0,a1⟩:=info_parts ay4;have L:Hid (∀ (k:Nat) (u:World),k<s.size->Calls prog 97 #[.string (s.extract k s.size)] u fun e w'=>e=.returned (Yj (bm (s.extract k s.size)))/\Below u.heap.size u w'):=fun k u hk=>b15 _ u (by rw[gg];omega) (by rw[gg];omega)
  have B:s.extract 0 s.size=s:=by simp
  clear F;go_enter func46,ntmps46;go_wp2_with fail;go_loopw [4,5] (fun v i wr=>bc2 w s v i wr) (fun _ i _=>s.size-(intOf i).toNat)
  case atStart=>exact⟨0,[],Nat.zero_le _,rfl,World.ownsRow_nil _ _ _ _,bR,by rw[B];simp,by rw[B];omega,bX⟩
  case round =>
   clear B;obtain⟨k,os,hk,rfl,M,a6,N,O,P⟩:=hrel;have r:=hZ M;have d:Hid (im s=(im (s.extract k s.size)).map (os++·)):=N;have l:Hid (cm s=k+cm (s.extract k s.size)):=O;have a:=hZ P;clear M N O P;by_cases X:k<s.size
   .have a3:(k:Int)<(s.size:Int):=by omega
    have f:=L.out k wr X;have sl:∀ u:World,(Instr.slice 9 (.string s) (some (.int .i64 (k:Int))) none none).run prog u=.ok (.string (s.extract k s.size)) u:=fun u=>by
     rw[run_slice_string_l (ht:=underlying9) (h0:=by omega) (h1:=by omega),Int.toNat_natCast]
    cases hrn:bm (s.extract k s.size) with
    | none =>
     rw[hrn]at f;have h:im s=none:=by rw[d.out,Ei (by rw[gg];omega) hrn];rfl
     have K:cm s=k:=by rw[l.out,y8 hrn];omega
     have y:Hid (im s=none):=h;have U:Hid (cm s=k):=K;have g:Calls prog 97 #[.string (s.extract k s.size)] wr fun e w'=>e=.returned (.tuple #[.agg #[.int .i64 0,.string ⟨#[]⟩,.string ⟨#[]⟩],.int .i64 0])/\Below wr.heap.size wr w':=f
     clear f h K hrn d l r;generalize s.extract k s.size=rs at *;go_wp2_with fail;refine g.mono ?_;rintro e c ⟨rfl,b⟩;have R:Hid (∀ o,Below w.heap.size w (c.alloc o)):=fun o=>(a.out.trans (b.mono a.out.size)).alloc (a.out.trans (b.mono a.out.size)).size o
     clear g b a;go_wp2;go_ret2;exact .inr (.inl ⟨E,y.out,by (rw[U.out];try rfl),R.out _⟩)
    | some p =>
     obtain⟨o,n⟩:=p;rw[hrn]at f;have W:=n7 hrn;rw[gg]at W;have a4:¬ (n:Int)=0:=by omega
     have a5:((n:Int) == 0)=false:=by simp;omega
     have A:=az2 hrn d.out l.out;obtain⟨q,hq⟩:∃ q,q=k+n:=⟨_,rfl⟩
     rw[<- hq]at A;have H:Hid (im s=(im (s.extract q s.size)).map ((os++[o])++·)/\cm s=q+cm (s.extract q s.size)):=A;have a8:IntKind.i64.wrap ((k:Int)+(n:Int))=(q:Int):=by rw[IntKind.wrap_i64];omega
     have g:Calls prog 97 #[.string (s.extract k s.size)] wr fun e w'=>e=.returned (.tuple #[.agg #[.int .i64 (kn7 o),.string o.text,.string o.val],.int .i64 (n:Int)])/\Below wr.heap.size wr w':=f
     clear f hrn d l A;generalize s.extract k s.size=rs at *;generalize hkn7:kn7 o=kd at *;go_wp2_with fail;refine g.mono ?_;rintro e c ⟨rfl,b⟩;have C:Below c.heap.size c (c.alloc (.cells #[.int .i64 kd,.string o.text,.string o.val] 27)):=bY _;have D:=C.alloc C.size (.cells #[.int .i64 kd,.string o.text,.string o.val] 27);have m:=((r.out.below b).below D);have G:=hZ m;have z:Below w.heap.size w ((c.alloc (.cells #[.int .i64 kd,.string o.text,.string o.val] 27)).alloc (.cells #[.int .i64 kd,.string o.text,.string o.val] 27)):=(a.out.trans (b.mono a.out.size)).trans (D.mono (a.out.trans (b.mono a.out.size)).size)
     have t:=hZ z;have a7:=z.size;have Y:(c.alloc (.cells #[.int .i64 kd,.string o.text,.string o.val] 27)).heap.size=c.heap.size+1:=by simp
     unfold Dos at m;clear g b C D a r z;go_wp2_with (at_builtin;refine wpList_append_own _ rfl _ _ 94 rfl w.heap.size 27 i0 (.agg #[.int .i64 0,.string ⟨#[]⟩,.string ⟨#[]⟩]) 3 40 underlying94 hi Z a0 a1 rfl (by decide) _ _ _ rfl m ⟨_,0,none⟩ 1 1 [.int .i64 kd,.string o.text,.string o.val] rfl rfl (Ds _ _ _ _ _ _ Y.symm) (fun x hx=>by simp at hx;rcases hx with rfl|rfl|rfl <;> rfl) (by unfold maxLen;omega) (by omega) (by omega) ?_;intro v5 Q J I _)
     have T:Hid (Dos Q w.heap.size v5 (os++[o])):=aw8 (by unfold dnC;rw[hkn7];exact J);have S:Hid (Below w.heap.size w Q):=Below.grown t.out I t.out.size (fun j hj=>(World.ownsRow.lt G.out j hj).1);clear J I G t m;go_wp2;exact⟨⟨q,os++[o],by omega,by (first|rfl|go_num),T.out,by simp;omega,H.out.1,H.out.2,S.out⟩,by simp[intOf];omega⟩
   .obtain rfl:k=s.size:=by omega
    have h:im s=some os:=by rw[d.out,Pu (by rw[gg];omega)];simp
    have y:Hid (im s=some os):=h;clear h d l L;go_wp2;go_ret2;exact .inl ⟨E,os,_,y.out,rfl,r.out,by omega,a.out⟩
 .have V:(6000:Int)<(s.size:Int):=by omega
  have a2:=ag F;unfold b60 at F;go_enter func46,ntmps46;go_wp2;go_quiet (fail)
  go_wp2;go_ret2;exact .inr (.inr ⟨E,rfl,cu bX _⟩)
def pg7:ByteArray:=⟨#[80,71,1,0,0,0,0]⟩
theorem Mh:am pg7=[⟨⟨#[]⟩,⟨#[]⟩,⟨#[]⟩⟩]:=by kernel_rfl
theorem a77 (a:ByteArray):ltK a ⟨#[]⟩=false:=by
 unfold ltK;rw[show (⟨#[]⟩:ByteArray).toList=[] by rw[ByteArray.toList_eq]]
 cases a.toList <;> rfl
theorem Ny:∀ (ss:List ByteArray) (acc gs:List (List Rw)) (s:ByteArray),bkF acc (ss++[s])=some gs->∃ gs0,bkF acc ss=some gs0/\ii gs0 s=true/\gs=gs0++[am s]
 | [],acc,gs,s,h=>by
  have a:(if ii acc s=true then bkF (acc++[am s]) [] else none)=some gs:=h;split at a
  .rename_i ho
   have b:some (acc++[am s])=some gs:=a
   cases b
   exact⟨acc,rfl,ho,rfl⟩
  .cases a
 | t::ss,acc,gs,s,h=>by
  have a:(if ii acc t=true then bkF (acc++[am t]) (ss++[s]) else none)=some gs:=h;split at a
  .rename_i ho
   obtain⟨gs0,q1,q2,q3⟩:=Ny ss _ gs s a;refine⟨gs0,?_,q2,q3⟩;show (if ii acc t=true then bkF (acc++[am t]) ss else none)=some gs0
   rw[if_pos ho,q1]
  .cases a
theorem aq4 {ss:List ByteArray}(h:qw ss):qw (ss++[pg7]):=by
 intro f a;unfold bu at a;split at a
 .rename_i h40
  obtain⟨gs0,q1,q2,q3⟩:=Ny ss [] f pg7 a;have e:bu ss=some gs0:=by
   unfold bu;rw[if_pos (by simp at h40;omega)];exact q1
  have i:=h gs0 e;have g:gs0=[]:=by
   unfold ii at q2;rw[Bool.and_eq_true]at q2
   cases hg:gs0.getLast? with
   | none=>exact List.getLast?_eq_none_iff.1 hg
   | some l =>
    have b:=q2.2;rw[hg]at b;have c:ltK (np l) (rd (am pg7))=true:=b;rw[Mh]at c;have d:ltK (np l) ⟨#[]⟩=true:=c;rw[a77]at d
    cases d
  subst g;rw[q3,Mh];refine⟨by simp,fun x hx=>?_⟩;have:x=⟨⟨#[]⟩,⟨#[]⟩,⟨#[]⟩⟩:=by simpa using hx
  subst this;exact⟨by decide,by decide⟩
 .cases a
def Lg7 (d:Ds7):Prop:=d.log.size<=6000/\d.ss.length<=40
theorem b52 {d:Ds7}(h:Lg7 d) (k:Int) (x v:ByteArray):Lg7 (do7 d k x v).2:=by
 unfold do7;split
 .exact⟨Nat.zero_le _,Nat.zero_le _⟩
 .split
  .unfold doL
   split
   .exact h
   split
   .split
    .rename_i pp hp
     obtain⟨_,_,_,_,_,a,_⟩:=Cx hp;exact⟨Nat.zero_le _,a⟩
    .exact h
   split
   .split
    .rename_i hs
     refine⟨?_,h.2⟩;show (d.log++_).size<=6000
     rw[ByteArray.size_append];exact hs
    .exact h
   .exact h
  .exact⟨Nat.zero_le _,Nat.zero_le _⟩
theorem af2 {s t:ByteArray} {i:Nat}(h:i<s.size):bAt (s++t) i=bAt s i:=by
 have a:i<s.data.toList.length:=by rw[Array.length_toList];exact h
 unfold bAt;rw[ByteArray.data_append,Array.toList_append,List.getD_eq_getElem?_getD,List.getD_eq_getElem?_getD,List.getElem?_append_left a]
theorem jj {s t:ByteArray} {i:Nat}(h:i<s.size):hd (s++t) i=hd s i:=by unfold hd;rw[af2 h]
theorem uf {s t:ByteArray} {a b:Nat}(h:b<=s.size):(s++t).extract a b=s.extract a b:=by
 apply ByteArray.ext
 simp[ByteArray.data_extract,ByteArray.data_append,Array.extract_append]
 omega
theorem Qf {s t:ByteArray} {o:Dn} {n:Nat}(h:bm s=some (o,n)):bm (s++t)=some (o,n):=by
 have a:(s++t).size=s.size+t.size:=ByteArray.size_append;unfold bm at h;split at h
 .cases h
 .rename_i h0
  unfold bm;rw[if_neg (by omega),jj (by omega)];split at h
  .rename_i h1
   rw[if_pos h1];split at h
   .cases h
   .rename_i h2
    rw[if_neg (by omega),jj (i:=1) (by omega),jj (i:=2) (by omega)];split at h
    .cases h
    .rename_i h3
     rw[if_neg (by omega),jj (by omega),uf (by omega),uf (by omega)];exact h
  .rename_i h1
   rw[if_neg h1];split at h
   .rename_i h2
    rw[if_pos h2];split at h
    .cases h
    .rename_i h3
     rw[if_neg (by omega),jj (i:=1) (by omega)];split at h
     .cases h
     .rename_i h4
      rw[if_neg (by omega),jj (by omega),uf (by omega)];exact h
   .cases h
theorem a35 {s t:ByteArray} {n:Nat}(h:n<=s.size):(s++t).extract n (s++t).size=s.extract n s.size++t:=by
 apply ByteArray.ext
 have a:s.data.size=s.size:=rfl;have d:t.data.size=t.size:=rfl;simp[ByteArray.data_extract,ByteArray.data_append,Array.extract_append,a]
 rw[show n-s.size=0 by omega];have b:s.data.extract n (s.size+t.size)=s.data.extract n s.size:=by
  apply Array.ext
  .simp[a]
  .intro i e f
   simp
 have c:t.data.extract 0 t.size=t.data:=by rw[<- d];simp
 rw[b,c]
theorem uu {d:Ds7} {l:List Rw}(h:fb d=some l):∃ gs,bu d.ss=some gs/\(ab d.r).code=0/\ig (ab d.r) gs.flatten=true/\d.log.size<=6000/\jd (ab d.r) gs.flatten d.log=some l:=by
 unfold fb eb at h
 cases hb:bu d.ss with
 | none=>rw[hb]at h;cases h
 | some gs =>
  rw[hb]at h;have a:(if (ab d.r).code=0/\ig (ab d.r) gs.flatten=true/\d.log.size<=6000 then jd (ab d.r) gs.flatten d.log else none)=some l:=h;split at a
  .rename_i hc
   exact⟨gs,rfl,hc.1,hc.2.1,hc.2.2,a⟩
  .cases a
theorem an0 {d:Ds7} {gs:List (List Rw)}(a:bu d.ss=some gs) (h0:(ab d.r).code=0) (b:ig (ab d.r) gs.flatten=true) (c:d.log.size<=6000):fb d=jd (ab d.r) gs.flatten d.log:=by
 unfold fb eb;rw[a];show (if _ then _ else _)=_
 rw[if_pos ⟨h0,b,c⟩]
end Go.Proofs.YtjbmgghehdemdaaGreatDoor
