/- SAp7 -/
import Derived.Test.YtjbmgghehdemdaaGreatDoorMP26
namespace Go.Proofs.YtjbmgghehdemdaaGreatDoor
set_option maxRecDepth 100000
set_option maxHeartbeats 16000000
open _root_.Go.Proofs.Tryz
open Go.RowKit
theorem Il {w:World} {B Bl:Nat} {ve vr:Value} {R:RA} {l:List Rw}(o:Dn) (af:o.text.size<=1048576) (ah:o.val.size<=60) (U:ac w B ve R.es) (ae:ay R.es R.lv=true) (V:Rws w Bl vr l) (a0:jr l) (aj:l.length<=60) :
  Calls prog 79 #[.agg #[ve,.bool R.sh,.int .i64 R.lv],vr,.agg #[.int .i64 (kn7 o),.string o.text,.string o.val]] w fun e w' =>
   ∃ v,e=.returned (.tuple #[v,.bool (decide (apC R l o=0))])/\(apC R l o=0->Rws w' w.heap.size v (apR R l o))/\Below w.heap.size w w':=by
 obtain⟨K,L,rfl⟩:=eg U;obtain⟨ar,cr,ai⟩:=cz V;subst ai;obtain⟨W,G⟩:∃ W,W=(w.alloc (.cells #[.slice K R.es.length L,.bool R.sh,.int .i64 R.lv] 56)).alloc (.cells #[.int .i64 (kn7 o),.string o.text,.string o.val] 27):=⟨_,rfl⟩
 have J:Below w.heap.size w W:=by rw[G];exact (bY _).alloc (by simp) _
 have n:Hid (Below w.heap.size w W):=J;have z:Hid (dw W (w.heap.size+1) (kn7 o) o.text o.val):=by
  have h:=heap_alloc_new (w.alloc (.cells #[.slice K R.es.length L,.bool R.sh,.int .i64 R.lv] 56)) (.cells #[.int .i64 (kn7 o),.string o.text,.string o.val] 27);rw[World.size_alloc]at h;show _=_
  rw[G];exact h
 have HU:Hid (li W w.heap.size (.slice K R.es.length L) R.sh R.lv):=by
  show _=_
  rw[G,Below.heap_alloc _ _ _ (by simp)];exact heap_alloc_new w _
 have S:Hid (Rws W Bl (.slice ar l.length cr) l):=V.below J;have A:Hid (W=(w.alloc (.cells #[.slice K R.es.length L,.bool R.sh,.int .i64 R.lv] 56)).alloc (.cells #[.int .i64 (kn7 o),.string o.text,.string o.val] 27)):=G;have d:=E8 o.text af (U.below J) ae;obtain⟨I,u0,u1,u2⟩:=HU.out.facts;obtain⟨r,j,s,t⟩:=z.out.facts;have H:Hid (jr l):=a0;clear U V a0 J G
 cases hfit:fe R o.text
 .have b:Hid (apC R l o=2):=tg (by rw[hfit];rfl)
  rw[hfit]at d;generalize (if o.text.size<=60 then bj R o.text else ⟨#[]⟩)=key at d;clear hfit;generalize kn7 o=kd at *;go_enter func79,ntmps79;go_wp2_with fail;rw[<- A.out];go_wp2_with fail;refine d.mono ?_;rintro e i ⟨rfl,a⟩;have f:Hid (Below w.heap.size w i):=n.out.trans (a.mono n.out.size);clear d a u0 u1 u2 I j s t r;go_wp2;go_ret2;exact⟨_,by (rw[b.out];try rfl),fun h=>absurd h (by rw[b.out];decide),f.out⟩
 .rw[if_pos (lu hfit).1,hfit]at d
  have F:(fe R o.text && decide (o.val.size<=60))=true:=by rw[hfit,decide_eq_true ah];rfl
  obtain⟨key,O⟩:∃ key,key=bj R o.text:=⟨_,rfl⟩
  rw[<- O]at d;have M:Hid (key=bj R o.text):=O;clear O hfit
  cases hput:o.put
  .have g:=H6 (l:=l) F hput
   have y:kn7 o=2:=by unfold kn7;rw[hput];rfl
   have x:apR R l o=pu l key:=by unfold apR;rw[hput,M.out];rfl
   rw[<- M.out]at g;rw[y]at j A z ⊢;have m:=fun (u:World) (X:Below W.heap.size W u)=>F9 (c:=cr) key (gu (S.out.below X)) (by omega) H.out
   cases hth:bq l key
   .have b:Hid (apC R l o=4):=by show _=_;rw[g,hth];rfl
    rw[hth]at m;generalize an l key=p at m;clear g F y x hth;go_enter func79,ntmps79;go_wp2_with fail;rw[<- A.out];go_wp2_with fail;refine d.mono ?_;rintro e i ⟨rfl,a⟩;have E:=m i a;obtain⟨r,j,s,t⟩:=(z.out.below a).facts;have f:Hid (Below w.heap.size w i):=n.out.trans (a.mono n.out.size);clear d a u0 u1 u2 I m;go_wp2_with fail;refine E.mono ?_;rintro e C ⟨rfl,q⟩;have k:Hid (Below w.heap.size w C):=f.out.trans (q.mono f.out.size);clear E q j s t r;go_wp2;go_ret2;exact⟨_,by (rw[b.out];try rfl),fun h=>absurd h (by rw[b.out];decide),k.out⟩
   .have b:Hid (apC R l o=0):=by show _=_;rw[g,hth];rfl
    have a7:=(nd H.out hth).2;rw[hth]at m;have a3:Hid (apR R l o=l.take (an l key)++l.drop (an l key+1)):=x;generalize an l key=p at m a7 a3;clear g F y x hth;go_enter func79,ntmps79;go_wp2_with fail;rw[<- A.out];go_wp2_with fail;refine d.mono ?_;rintro e i ⟨rfl,a⟩;have E:=m i a;obtain⟨r,j,s,t⟩:=(z.out.below a).facts;have f:Hid (Below W.heap.size W i):=a;clear d a u0 u1 u2 I m;go_wp2_with fail;refine E.mono ?_;rintro e C ⟨rfl,q⟩;have N:=f.out.trans (q.mono f.out.size);have k:Hid (Below w.heap.size w C):=n.out.trans (N.mono n.out.size);have Q:=a06 (S.out.below N) a7 (by omega);rw[<- a3.out]at Q;clear E q j s t r N;go_wp2_with fail;refine Q.mono ?_;rintro e w3 ⟨v3,rfl,r3,b3⟩;have a8:Hid (Below w.heap.size w w3):=k.out.trans (b3.mono k.out.size)
    have ab:Hid (Rws w3 w.heap.size v3 (apR R l o)):=eu r3 k.out.size;clear Q r3 b3;go_wp2;go_ret2;exact⟨_,by (rw[b.out];try rfl),fun _=>ab.out,a8.out⟩
  .have g:=Kb (l:=l) F hput
   have y:kn7 o=1:=by unfold kn7;rw[hput];rfl
   have P:Cr R o=⟨key,o.text,o.val⟩:=by unfold Cr;rw[M.out]
   have x:apR R l o=io l ⟨key,o.text,o.val⟩:=by unfold apR;rw[hput,P];rfl
   rw[P]at g;rw[y]at j A z ⊢;have T:=fun (u:World) (X:Below W.heap.size W u)=>an6 ⟨key,o.text,o.val⟩ (S.out.below X) (by omega) H.out
   have a4:Hid ((io l ⟨key,o.text,o.val⟩).length<=l.length+1):=Oy H.out;have Z:Hid (apR R l o=io l ⟨key,o.text,o.val⟩):=x;obtain⟨D,HD⟩:∃ D,Hid (io l ⟨key,o.text,o.val⟩=D):=⟨_,rfl⟩
   rw[HD.out]at Z T g a4;have b:Hid (apC R l o=if D.length<=60 then 0 else 3):=g;clear g F y x P;go_enter func79,ntmps79;go_wp2_with fail;rw[<- A.out];go_wp2_with fail;refine d.mono ?_;rintro e i ⟨rfl,a⟩;have a5:=T i a;obtain⟨r,j,s,t⟩:=(z.out.below a).facts;have f:Hid (Below w.heap.size w i):=n.out.trans (a.mono n.out.size);clear d a u0 u1 u2 I T;go_wp2_with fail;refine a5.mono ?_;rintro e C ⟨v2,rfl,Y,q⟩;obtain⟨a2,c2,ag⟩:=cz Y;subst ag;have k:Hid (Below w.heap.size w C):=f.out.trans (q.mono f.out.size);have aa:Hid (Rws C w.heap.size (.slice a2 D.length c2) (apR R l o)):=by show Rws _ _ _ _;rw[Z.out];exact eu Y f.out.size
   have ak:=a4.out;clear a5 Y q j s t r;by_cases hD:D.length<=60
   .have a6:(D.length:Int)<=60:=by omega
    have a9:Hid (apC R l o=0):=by show _=_;rw[b.out,if_pos hD]
    clear b;go_wp2;go_ret2;exact⟨_,by (rw[a9.out];try rfl),fun _=>aa.out,k.out⟩
   .have a6:¬ (D.length:Int)<=60:=by omega
    have a1:Hid (apC R l o=3):=by show _=_;rw[b.out,if_neg hD]
    have ad:decide ((D.length:Int)<=60)=false:=decide_eq_false a6;clear b;go_wp2;go_ret2;exact⟨.slice a2 D.length c2,by (rw[a1.out];first|rfl|(rw[show decide ((3:Int)=0)=decide ((D.length:Int)<=60) by rw[ad];rfl];rfl)),fun h=>absurd h (by rw[a1.out];decide),k.out⟩
def ap0:Option (Dn × Nat)->Value
 | none=>.tuple #[.agg #[.int .i64 0,.string ⟨#[]⟩,.string ⟨#[]⟩],.int .i64 0]
 | some (o,n)=>.tuple #[.agg #[.int .i64 (kn7 o),.string o.text,.string o.val],.int .i64 (n:Int)]
theorem cm {B:Nat} {w u:World}(h:Below B w u) (n:Nat):Below B w (u.drewN n):=⟨h.os,h.tape,h.output,h.size,h.block⟩
theorem Ub (s:ByteArray) (a:Nat):s.extract a a=⟨#[]⟩:=by
 apply ByteArray.ext
 simp
theorem a05 (w:World):(w.alloc (.cells #[.int .i64 0,.string ⟨#[]⟩,.string ⟨#[]⟩] 27)).cell? ⟨w.heap.size,0,none⟩=some (.int .i64 0)/\(w.alloc (.cells #[.int .i64 0,.string ⟨#[]⟩,.string ⟨#[]⟩] 27)).cell? ⟨w.heap.size,1,none⟩=some (.string ⟨#[]⟩)/\(w.alloc (.cells #[.int .i64 0,.string ⟨#[]⟩,.string ⟨#[]⟩] 27)).cell? ⟨w.heap.size,2,none⟩=some (.string ⟨#[]⟩)/\∀ j,(w.alloc (.cells #[.int .i64 0,.string ⟨#[]⟩,.string ⟨#[]⟩] 27)).frozen? ⟨w.heap.size,j,none⟩=false:=by
 have h:=heap_alloc_new w (.cells #[.int .i64 0,.string ⟨#[]⟩,.string ⟨#[]⟩] 27);exact⟨cell_of_row _ _ 0 _ _ _ h,cell_of_row _ _ 1 _ _ _ h,cell_of_row _ _ 2 _ _ _ h,fun j=>frozen_of_row _ _ j _ _ h⟩
theorem az9 (s:ByteArray) (w:World) (h0:0<s.size) (J:s.size<=1048576) :
  Calls prog 97 #[.string s] w fun e w'=>e=.returned (ap0 (bm s))/\Below w.heap.size w w':=by
 have x:∀ u:World,(Instr.index 9 (.string s) (.int .i64 0)).run prog u=.ok (.int .u8 (hd s 0:Int)) u:=db s 0 (by omega)
 have i:Hid (∀ o:Obj,Below w.heap.size w (w.alloc o)):=fun o=>bY o
 obtain⟨F,G,H,I⟩:=a05 w;have E:w.heap.size<(w.alloc (.cells #[.int .i64 0,.string ⟨#[]⟩,.string ⟨#[]⟩] 27)).heap.size:=by simp
 have j:¬ s.size=0:=by omega
 have K:=jp s 1;have L:=jp s 2;by_cases h:hd s 0=112
 .rw[h]at x
  by_cases k:s.size<3
  .have d:bm s=none:=by unfold bm;rw[if_neg j,if_pos h,if_pos k]
   have r:(s.size:Int)<3:=by omega
   rw[d];show Calls prog 97 #[.string s] w fun e w'=>e=.returned (.tuple #[.agg #[.int .i64 0,.string ⟨#[]⟩,.string ⟨#[]⟩],.int .i64 0])/\Below w.heap.size w w'
   clear d;go_enter func97,ntmps97;go_wp2;refine bodyPost_ret (v:=.tuple #[.agg #[.int .i64 0,.string ⟨#[]⟩,.string ⟨#[]⟩],.int .i64 0]) ?_ rfl ⟨rfl,by repeat (first|exact i.out _|refine Below.drew ?_|refine cm ?_ _)⟩;rw[results_cell_tmp rfl];go_simp
  have r:¬ (s.size:Int)<3:=by omega
  have D:∀ u:World,(Instr.index 9 (.string s) (.int .i64 1)).run prog u=.ok (.int .u8 (hd s 1:Int)) u:=db s 1 (by omega)
  have Q:∀ u:World,(Instr.index 9 (.string s) (.int .i64 2)).run prog u=.ok (.int .u8 (hd s 2:Int)) u:=db s 2 (by omega)
  have u1:IntKind.i64.wrap (hd s 1:Int)=(hd s 1:Int):=by rw[IntKind.wrap_i64];omega
  have u2:IntKind.i64.wrap (hd s 2:Int)=(hd s 2:Int):=by rw[IntKind.wrap_i64];omega
  by_cases l:s.size<=3+hd s 1+hd s 2
  .have d:bm s=none:=by unfold bm;rw[if_neg j,if_pos h,if_neg k,if_pos l]
   rw[d];show Calls prog 97 #[.string s] w fun e w'=>e=.returned (.tuple #[.agg #[.int .i64 0,.string ⟨#[]⟩,.string ⟨#[]⟩],.int .i64 0])/\Below w.heap.size w w'
   clear d;generalize hd s 1=a at *;generalize hd s 2=b at *;have p:(s.size:Int)<=3+(a:Int)+(b:Int):=by omega
   have d:True:=trivial;clear d;go_enter func97,ntmps97;go_wp2;refine bodyPost_ret (v:=.tuple #[.agg #[.int .i64 0,.string ⟨#[]⟩,.string ⟨#[]⟩],.int .i64 0]) ?_ rfl ⟨rfl,by repeat (first|exact i.out _|refine Below.drew ?_|refine cm ?_ _)⟩;rw[results_cell_tmp rfl];go_simp
  have m:∀ u:World,(Instr.index 9 (.string s) (.int .i64 ((3+hd s 1+hd s 2:Nat):Int))).run prog u=.ok (.int .u8 (hd s (3+hd s 1+hd s 2):Int)) u:=db s _ (by omega)
  have t:=jp s (3+hd s 1+hd s 2);have A:=s.size;by_cases f:hd s (3+hd s 1+hd s 2)=46
  .have d:bm s=some (⟨true,s.extract 3 (3+hd s 1),s.extract (3+hd s 1) (3+hd s 1+hd s 2)⟩,3+hd s 1+hd s 2+1):=by unfold bm;rw[if_neg j,if_pos h,if_neg k,if_neg l,if_pos f]
   rw[d];show Calls prog 97 #[.string s] w fun e w'=>e=.returned (.tuple #[.agg #[.int .i64 1,.string (s.extract 3 (3+hd s 1)),.string (s.extract (3+hd s 1) (3+hd s 1+hd s 2))],.int .i64 ((3+hd s 1+hd s 2+1:Nat):Int)])/\Below w.heap.size w w'
   rw[f]at m;clear d f t;generalize hd s 1=a at *;generalize hd s 2=b at *;have p:¬ (s.size:Int)<=3+(a:Int)+(b:Int):=by omega
   have g:((3+a+b:Nat):Int)=3+(a:Int)+(b:Int):=by omega
   have q:((3+a+b+1:Nat):Int)=3+(a:Int)+(b:Int)+1:=by omega
   rw[g]at m;rw[q];clear g q;have B:∀ u:World,(Instr.slice 9 (.string s) (some (.int .i64 3)) (some (.int .i64 (3+(a:Int)))) none).run prog u=.ok (.string (s.extract 3 (3+a))) u:=fun u=>mm s _ _ _ _ (by omega) (by omega) (by omega) (by omega) u
   have C:∀ u:World,(Instr.slice 9 (.string s) (some (.int .i64 (3+(a:Int)))) (some (.int .i64 (3+(a:Int)+(b:Int)))) none).run prog u=.ok (.string (s.extract (3+a) (3+a+b))) u:=fun u=>mm s _ _ _ _ (by omega) (by omega) (by omega) (by omega) u
   generalize s.extract 3 (3+a)=e1 at *;generalize s.extract (3+a) (3+a+b)=e2 at *;go_enter func97,ntmps97;go_upto_region 15 with fail
   go_region
   all_goals
    go_wp2;refine bodyPost_ret (v:=.tuple #[.agg #[.int .i64 1,.string e1,.string e2],.int .i64 (3+(a:Int)+(b:Int)+1)]) ?_ rfl ⟨rfl,by repeat (first|exact i.out _|refine Below.drew ?_|refine cm ?_ _)⟩;rw[results_cell_tmp rfl];go_simp
  .have d:bm s=none:=by unfold bm;rw[if_neg j,if_pos h,if_neg k,if_neg l,if_neg f]
   rw[d];show Calls prog 97 #[.string s] w fun e w'=>e=.returned (.tuple #[.agg #[.int .i64 0,.string ⟨#[]⟩,.string ⟨#[]⟩],.int .i64 0])/\Below w.heap.size w w'
   clear d;generalize hd s (3+hd s 1+hd s 2)=c at *;generalize hd s 1=a at *;generalize hd s 2=b at *;have p:¬ (s.size:Int)<=3+(a:Int)+(b:Int):=by omega
   have g:((3+a+b:Nat):Int)=3+(a:Int)+(b:Int):=by omega
   rw[g]at m;have y:¬ (c:Int)=46:=by omega
   have z:((c:Int) != 46)=true:=by simp;omega
   clear g f;have d:True:=trivial;clear d;go_enter func97,ntmps97;go_wp2;refine bodyPost_ret (v:=.tuple #[.agg #[.int .i64 0,.string ⟨#[]⟩,.string ⟨#[]⟩],.int .i64 0]) ?_ rfl ⟨rfl,by repeat (first|exact i.out _|refine Below.drew ?_|refine cm ?_ _)⟩;rw[results_cell_tmp rfl];go_simp
 .by_cases n:hd s 0=100
  .rw[n]at x
   by_cases k:s.size<2
   .have d:bm s=none:=by unfold bm;rw[if_neg j,if_neg h,if_pos n,if_pos k]
    have r:(s.size:Int)<2:=by omega
    rw[d];show Calls prog 97 #[.string s] w fun e w'=>e=.returned (.tuple #[.agg #[.int .i64 0,.string ⟨#[]⟩,.string ⟨#[]⟩],.int .i64 0])/\Below w.heap.size w w'
    clear d;go_enter func97,ntmps97;go_wp2;refine bodyPost_ret (v:=.tuple #[.agg #[.int .i64 0,.string ⟨#[]⟩,.string ⟨#[]⟩],.int .i64 0]) ?_ rfl ⟨rfl,by repeat (first|exact i.out _|refine Below.drew ?_|refine cm ?_ _)⟩;rw[results_cell_tmp rfl];go_simp
   have r:¬ (s.size:Int)<2:=by omega
   have D:∀ u:World,(Instr.index 9 (.string s) (.int .i64 1)).run prog u=.ok (.int .u8 (hd s 1:Int)) u:=db s 1 (by omega)
   have u1:IntKind.i64.wrap (hd s 1:Int)=(hd s 1:Int):=by rw[IntKind.wrap_i64];omega
   by_cases l:s.size<=2+hd s 1
   .have d:bm s=none:=by unfold bm;rw[if_neg j,if_neg h,if_pos n,if_neg k,if_pos l]
    rw[d];show Calls prog 97 #[.string s] w fun e w'=>e=.returned (.tuple #[.agg #[.int .i64 0,.string ⟨#[]⟩,.string ⟨#[]⟩],.int .i64 0])/\Below w.heap.size w w'
    clear d;generalize hd s 1=a at *;have p:(s.size:Int)<=2+(a:Int):=by omega
    have d:True:=trivial;clear d;go_enter func97,ntmps97;go_wp2;refine bodyPost_ret (v:=.tuple #[.agg #[.int .i64 0,.string ⟨#[]⟩,.string ⟨#[]⟩],.int .i64 0]) ?_ rfl ⟨rfl,by repeat (first|exact i.out _|refine Below.drew ?_|refine cm ?_ _)⟩;rw[results_cell_tmp rfl];go_simp
   have m:∀ u:World,(Instr.index 9 (.string s) (.int .i64 ((2+hd s 1:Nat):Int))).run prog u=.ok (.int .u8 (hd s (2+hd s 1):Int)) u:=db s _ (by omega)
   have t:=jp s (2+hd s 1);have A:=s.size;by_cases f:hd s (2+hd s 1)=46
   .have d:bm s=some (⟨false,s.extract 2 (2+hd s 1),⟨#[]⟩⟩,2+hd s 1+1):=by unfold bm;rw[if_neg j,if_neg h,if_pos n,if_neg k,if_neg l,if_pos f]
    rw[d];show Calls prog 97 #[.string s] w fun e w'=>e=.returned (.tuple #[.agg #[.int .i64 2,.string (s.extract 2 (2+hd s 1)),.string ⟨#[]⟩],.int .i64 ((2+hd s 1+1:Nat):Int)])/\Below w.heap.size w w'
    rw[f]at m;clear d f t;generalize hd s 1=a at *;have p:¬ (s.size:Int)<=2+(a:Int):=by omega
    have g:((2+a:Nat):Int)=2+(a:Int):=by omega
    have q:((2+a+1:Nat):Int)=2+(a:Int)+1:=by omega
    rw[g]at m;rw[q];clear g q;have B:∀ u:World,(Instr.slice 9 (.string s) (some (.int .i64 2)) (some (.int .i64 (2+(a:Int)))) none).run prog u=.ok (.string (s.extract 2 (2+a))) u:=fun u=>mm s _ _ _ _ (by omega) (by omega) (by omega) (by omega) u
    have C:∀ u:World,(Instr.slice 9 (.string s) (some (.int .i64 (2+(a:Int)))) (some (.int .i64 (2+(a:Int)))) none).run prog u=.ok (.string ⟨#[]⟩) u:=fun u=>by rw[mm s _ _ (2+a) (2+a) (by omega) (by omega) (by omega) (by omega) u,Ub]
    generalize s.extract 2 (2+a)=e1 at *;go_enter func97,ntmps97;go_upto_region 15 with fail
    go_region
    all_goals
     go_wp2;refine bodyPost_ret (v:=.tuple #[.agg #[.int .i64 2,.string e1,.string ⟨#[]⟩],.int .i64 (2+(a:Int)+1)]) ?_ rfl ⟨rfl,by repeat (first|exact i.out _|refine Below.drew ?_|refine cm ?_ _)⟩;rw[results_cell_tmp rfl];go_simp
   .have d:bm s=none:=by unfold bm;rw[if_neg j,if_neg h,if_pos n,if_neg k,if_neg l,if_neg f]
    rw[d];show Calls prog 97 #[.string s] w fun e w'=>e=.returned (.tuple #[.agg #[.int .i64 0,.string ⟨#[]⟩,.string ⟨#[]⟩],.int .i64 0])/\Below w.heap.size w w'
    clear d;generalize hd s (2+hd s 1)=c at *;generalize hd s 1=a at *;have p:¬ (s.size:Int)<=2+(a:Int):=by omega
    have g:((2+a:Nat):Int)=2+(a:Int):=by omega
    rw[g]at m;have y:¬ (c:Int)=46:=by omega
    have z:((c:Int) != 46)=true:=by simp;omega
    clear g f;have d:True:=trivial;clear d;go_enter func97,ntmps97;go_wp2;refine bodyPost_ret (v:=.tuple #[.agg #[.int .i64 0,.string ⟨#[]⟩,.string ⟨#[]⟩],.int .i64 0]) ?_ rfl ⟨rfl,by repeat (first|exact i.out _|refine Below.drew ?_|refine cm ?_ _)⟩;rw[results_cell_tmp rfl];go_simp
  .have d:bm s=none:=by unfold bm;rw[if_neg j,if_neg h,if_neg n]
   have M:¬ (hd s 0:Int)=112:=by omega
   have N:¬ (hd s 0:Int)=100:=by omega
   have O:((hd s 0:Int) == 112)=false:=by simp;omega
   have P:((hd s 0:Int) == 100)=false:=by simp;omega
   rw[d];show Calls prog 97 #[.string s] w fun e w'=>e=.returned (.tuple #[.agg #[.int .i64 0,.string ⟨#[]⟩,.string ⟨#[]⟩],.int .i64 0])/\Below w.heap.size w w'
   clear d;go_enter func97,ntmps97;go_wp2;refine bodyPost_ret (v:=.tuple #[.agg #[.int .i64 0,.string ⟨#[]⟩,.string ⟨#[]⟩],.int .i64 0]) ?_ rfl ⟨rfl,by repeat (first|exact i.out _|refine Below.drew ?_|refine cm ?_ _)⟩;rw[results_cell_tmp rfl];go_simp
def ji (s:ByteArray):Option (Dn × Nat) :=
 match bm s with
 | none=>none
 | some (o,n)=>if o.text.size<=60/\o.val.size<=60 then some (o,n) else none
theorem mk {s:ByteArray}(h:bm s=none):ji s=none:=by unfold ji;rw[h]
theorem Jq {s:ByteArray} {o:Dn} {n:Nat}(h:bm s=some (o,n)) (a:¬ (o.text.size<=60/\o.val.size<=60)):ji s=none:=by
 unfold ji;rw[h];show (if _ then _ else _)=none
 rw[if_neg a]
theorem Eo {s:ByteArray} {o:Dn} {n:Nat}(h:bm s=some (o,n)) (a:o.text.size<=60/\o.val.size<=60):ji s=some (o,n):=by
 unfold ji;rw[h];show (if _ then _ else _)=_
 rw[if_pos a]
theorem ao8 {s:ByteArray}(h:s.size<2):bm s=none:=by
 unfold bm;by_cases a:s.size=0
 .rw[if_pos a]
 rw[if_neg a];by_cases b:hd s 0=112
 .rw[if_pos b,if_pos (by omega)]
 rw[if_neg b];by_cases c:hd s 0=100
 .rw[if_pos c,if_pos (by omega)]
 .rw[if_neg c]
theorem xz (s:ByteArray) (a b:Nat) (h:a+b<=s.size):(s.extract a (a+b)).size=b:=by rw[ByteArray.size_extract];omega
theorem M8 {s:ByteArray}(a:¬ s.size=0) (e:hd s 0=112) (d:¬ s.size<3) (l:60<hd s 1\/60<hd s 2):ji s=none:=by
 by_cases b:s.size<=3+hd s 1+hd s 2
 .exact mk (by unfold bm;rw[if_neg a,if_pos e,if_neg d,if_pos b])
 by_cases f:hd s (3+hd s 1+hd s 2)=46
 .have g:bm s=some (⟨true,s.extract 3 (3+hd s 1),s.extract (3+hd s 1) (3+hd s 1+hd s 2)⟩,3+hd s 1+hd s 2+1):=by unfold bm;rw[if_neg a,if_pos e,if_neg d,if_neg b,if_pos f]
  refine Jq g fun c=>?_
  have j:=xz s 3 (hd s 1) (by omega);have k:=xz s (3+hd s 1) (hd s 2) (by omega);have h:(s.extract 3 (3+hd s 1)).size<=60:=c.1;have i:(s.extract (3+hd s 1) (3+hd s 1+hd s 2)).size<=60:=c.2;omega
 .exact mk (by unfold bm;rw[if_neg a,if_pos e,if_neg d,if_neg b,if_neg f])
theorem Yf {s:ByteArray}(b:¬ s.size=0) (f:¬ hd s 0=112) (a:hd s 0=100) (e:¬ s.size<2) (k:60<hd s 1):ji s=none:=by
 by_cases d:s.size<=2+hd s 1
 .exact mk (by unfold bm;rw[if_neg b,if_neg f,if_pos a,if_neg e,if_pos d])
 by_cases g:hd s (2+hd s 1)=46
 .have h:bm s=some (⟨false,s.extract 2 (2+hd s 1),⟨#[]⟩⟩,2+hd s 1+1):=by unfold bm;rw[if_neg b,if_neg f,if_pos a,if_neg e,if_neg d,if_pos g]
  refine Jq h fun c=>?_
  have j:=xz s 2 (hd s 1) (by omega);have i:(s.extract 2 (2+hd s 1)).size<=60:=c.1;omega
 .exact mk (by unfold bm;rw[if_neg b,if_neg f,if_pos a,if_neg e,if_neg d,if_neg g])
theorem aq9 (s:ByteArray) (w:World) (h0:0<s.size) (N:s.size<=1048576) :
  Calls prog 48 #[.string s] w fun e w'=>e=.returned (ap0 (ji s))/\Below w.heap.size w w':=by
 have f:Hid (∀ o:Obj,Below w.heap.size w (w.alloc o)):=fun o=>bY o
 obtain⟨J,K,L,M⟩:=a05 w;have I:w.heap.size<(w.alloc (.cells #[.int .i64 0,.string ⟨#[]⟩,.string ⟨#[]⟩] 27)).heap.size:=by simp
 have j:¬ s.size=0:=by omega
 have O:=jp s 1;have P:=jp s 2;by_cases F:s.size<2
 .have d:ji s=none:=mk (ao8 F)
  have C:(s.size:Int)<2:=by omega
  rw[d];show Calls prog 48 #[.string s] w fun e w'=>e=.returned (.tuple #[.agg #[.int .i64 0,.string ⟨#[]⟩,.string ⟨#[]⟩],.int .i64 0])/\Below w.heap.size w w'
  clear d;go_enter func48,ntmps48;go_wp2;refine bodyPost_ret (v:=.tuple #[.agg #[.int .i64 0,.string ⟨#[]⟩,.string ⟨#[]⟩],.int .i64 0]) ?_ rfl ⟨rfl,by repeat (first|exact f.out _|refine Below.alloc ?_ (by simp) _|refine Below.setCell ?_ bR _|refine Below.drew ?_|refine cm ?_ _)⟩;rw[results_cell_tmp rfl];go_simp
 have C:¬ (s.size:Int)<2:=by omega
 have y:∀ u:World,(Instr.index 9 (.string s) (.int .i64 0)).run prog u=.ok (.int .u8 (hd s 0:Int)) u:=db s 0 (by omega)
 by_cases g:hd s 0=112
 .rw[g]at y
  by_cases k:s.size<3
  .have d:ji s=none:=mk (by unfold bm;rw[if_neg j,if_pos g,if_pos k])
   have B:(s.size:Int)<3:=by omega
   rw[d];show Calls prog 48 #[.string s] w fun e w'=>e=.returned (.tuple #[.agg #[.int .i64 0,.string ⟨#[]⟩,.string ⟨#[]⟩],.int .i64 0])/\Below w.heap.size w w'
   clear d;go_enter func48,ntmps48;go_wp2;refine bodyPost_ret (v:=.tuple #[.agg #[.int .i64 0,.string ⟨#[]⟩,.string ⟨#[]⟩],.int .i64 0]) ?_ rfl ⟨rfl,by repeat (first|exact f.out _|refine Below.alloc ?_ (by simp) _|refine Below.setCell ?_ bR _|refine Below.drew ?_|refine cm ?_ _)⟩;rw[results_cell_tmp rfl];go_simp
  have B:¬ (s.size:Int)<3:=by omega
  have H:∀ u:World,(Instr.index 9 (.string s) (.int .i64 1)).run prog u=.ok (.int .u8 (hd s 1:Int)) u:=db s 1 (by omega)
  have U:∀ u:World,(Instr.index 9 (.string s) (.int .i64 2)).run prog u=.ok (.int .u8 (hd s 2:Int)) u:=db s 2 (by omega)
  have u1:IntKind.i64.wrap (hd s 1:Int)=(hd s 1:Int):=by rw[IntKind.wrap_i64];omega
  have u2:IntKind.i64.wrap (hd s 2:Int)=(hd s 2:Int):=by rw[IntKind.wrap_i64];omega
  by_cases x:60<hd s 1
  .have d:ji s=none:=M8 j g k (.inl x)
   rw[d];show Calls prog 48 #[.string s] w fun e w'=>e=.returned (.tuple #[.agg #[.int .i64 0,.string ⟨#[]⟩,.string ⟨#[]⟩],.int .i64 0])/\Below w.heap.size w w'
   clear d;generalize hd s 1=a at *;generalize hd s 2=b at *;have l:(60:Int)<(a:Int):=by omega
   go_enter func48,ntmps48;go_wp2;refine bodyPost_ret (v:=.tuple #[.agg #[.int .i64 0,.string ⟨#[]⟩,.string ⟨#[]⟩],.int .i64 0]) ?_ rfl ⟨rfl,by repeat (first|exact f.out _|refine Below.alloc ?_ (by simp) _|refine Below.setCell ?_ bR _|refine Below.drew ?_|refine cm ?_ _)⟩;rw[results_cell_tmp rfl];go_simp
  by_cases G:60<hd s 2
  .have d:ji s=none:=M8 j g k (.inr G)
   rw[d];show Calls prog 48 #[.string s] w fun e w'=>e=.returned (.tuple #[.agg #[.int .i64 0,.string ⟨#[]⟩,.string ⟨#[]⟩],.int .i64 0])/\Below w.heap.size w w'
   clear d;generalize hd s 1=a at *;generalize hd s 2=b at *;have l:¬ (60:Int)<(a:Int):=by omega
   have t:(60:Int)<(b:Int):=by omega
   go_enter func48,ntmps48;go_wp2;refine bodyPost_ret (v:=.tuple #[.agg #[.int .i64 0,.string ⟨#[]⟩,.string ⟨#[]⟩],.int .i64 0]) ?_ rfl ⟨rfl,by repeat (first|exact f.out _|refine Below.alloc ?_ (by simp) _|refine Below.setCell ?_ bR _|refine Below.drew ?_|refine cm ?_ _)⟩;rw[results_cell_tmp rfl];go_simp
  by_cases m:s.size<=3+hd s 1+hd s 2
  .have d:ji s=none:=mk (by unfold bm;rw[if_neg j,if_pos g,if_neg k,if_pos m])
   rw[d];show Calls prog 48 #[.string s] w fun e w'=>e=.returned (.tuple #[.agg #[.int .i64 0,.string ⟨#[]⟩,.string ⟨#[]⟩],.int .i64 0])/\Below w.heap.size w w'
   clear d;generalize hd s 1=a at *;generalize hd s 2=b at *;have l:¬ (60:Int)<(a:Int):=by omega
   have t:¬ (60:Int)<(b:Int):=by omega
   have q:(s.size:Int)<3+(a:Int)+(b:Int)+1:=by omega
   go_enter func48,ntmps48;go_wp2;refine bodyPost_ret (v:=.tuple #[.agg #[.int .i64 0,.string ⟨#[]⟩,.string ⟨#[]⟩],.int .i64 0]) ?_ rfl ⟨rfl,by repeat (first|exact f.out _|refine Below.alloc ?_ (by simp) _|refine Below.setCell ?_ bR _|refine Below.drew ?_|refine cm ?_ _)⟩;rw[results_cell_tmp rfl];go_simp
  have n:∀ u:World,(Instr.index 9 (.string s) (.int .i64 ((3+hd s 1+hd s 2:Nat):Int))).run prog u=.ok (.int .u8 (hd s (3+hd s 1+hd s 2):Int)) u:=db s _ (by omega)
  by_cases h:hd s (3+hd s 1+hd s 2)=46
  .have d:ji s=some (⟨true,s.extract 3 (3+hd s 1),s.extract (3+hd s 1) (3+hd s 1+hd s 2)⟩,3+hd s 1+hd s 2+1):=Eo (by unfold bm;rw[if_neg j,if_pos g,if_neg k,if_neg m,if_pos h]) ⟨by have:=xz s 3 (hd s 1) (by omega);show (s.extract 3 (3+hd s 1)).size<=60;omega,by have:=xz s (3+hd s 1) (hd s 2) (by omega);show (s.extract (3+hd s 1) (3+hd s 1+hd s 2)).size<=60;omega⟩
   rw[d];show Calls prog 48 #[.string s] w fun e w'=>e=.returned (.tuple #[.agg #[.int .i64 1,.string (s.extract 3 (3+hd s 1)),.string (s.extract (3+hd s 1) (3+hd s 1+hd s 2))],.int .i64 ((3+hd s 1+hd s 2+1:Nat):Int)])/\Below w.heap.size w w'
   rw[h]at n;clear d h;generalize hd s 1=a at *;generalize hd s 2=b at *;have l:¬ (60:Int)<(a:Int):=by omega
   have t:¬ (60:Int)<(b:Int):=by omega
   have q:¬ (s.size:Int)<3+(a:Int)+(b:Int)+1:=by omega
   have i:((3+a+b:Nat):Int)=3+(a:Int)+(b:Int):=by omega
   have r:((3+a+b+1:Nat):Int)=3+(a:Int)+(b:Int)+1:=by omega
   rw[i]at n;rw[r];clear i r;have D:∀ u:World,(Instr.slice 9 (.string s) (some (.int .i64 3)) (some (.int .i64 (3+(a:Int)))) none).run prog u=.ok (.string (s.extract 3 (3+a))) u:=fun u=>mm s _ _ _ _ (by omega) (by omega) (by omega) (by omega) u
   have E:∀ u:World,(Instr.slice 9 (.string s) (some (.int .i64 (3+(a:Int)))) (some (.int .i64 (3+(a:Int)+(b:Int)))) none).run prog u=.ok (.string (s.extract (3+a) (3+a+b))) u:=fun u=>mm s _ _ _ _ (by omega) (by omega) (by omega) (by omega) u
   generalize s.extract 3 (3+a)=e1 at *;generalize s.extract (3+a) (3+a+b)=e2 at *;go_enter func48,ntmps48;go_wp2;refine bodyPost_ret (v:=.tuple #[.agg #[.int .i64 1,.string e1,.string e2],.int .i64 (3+(a:Int)+(b:Int)+1)]) ?_ rfl ⟨rfl,by repeat (first|exact f.out _|refine Below.alloc ?_ (by simp) _|refine Below.setCell ?_ bR _|refine Below.drew ?_|refine cm ?_ _)⟩;rw[results_cell_tmp rfl];go_simp
  .have d:ji s=none:=mk (by unfold bm;rw[if_neg j,if_pos g,if_neg k,if_neg m,if_neg h])
   rw[d];show Calls prog 48 #[.string s] w fun e w'=>e=.returned (.tuple #[.agg #[.int .i64 0,.string ⟨#[]⟩,.string ⟨#[]⟩],.int .i64 0])/\Below w.heap.size w w'
   clear d;generalize hd s (3+hd s 1+hd s 2)=c at *;generalize hd s 1=a at *;generalize hd s 2=b at *;have l:¬ (60:Int)<(a:Int):=by omega
   have t:¬ (60:Int)<(b:Int):=by omega
   have q:¬ (s.size:Int)<3+(a:Int)+(b:Int)+1:=by omega
   have i:((3+a+b:Nat):Int)=3+(a:Int)+(b:Int):=by omega
   rw[i]at n;have z:¬ (c:Int)=46:=by omega
   have A:((c:Int) != 46)=true:=by simp;omega
   clear i h;go_enter func48,ntmps48;go_wp2;refine bodyPost_ret (v:=.tuple #[.agg #[.int .i64 0,.string ⟨#[]⟩,.string ⟨#[]⟩],.int .i64 0]) ?_ rfl ⟨rfl,by repeat (first|exact f.out _|refine Below.alloc ?_ (by simp) _|refine Below.setCell ?_ bR _|refine Below.drew ?_|refine cm ?_ _)⟩;rw[results_cell_tmp rfl];go_simp
 .by_cases p:hd s 0=100
  .rw[p]at y
   have k:¬ s.size<2:=by omega
   have H:∀ u:World,(Instr.index 9 (.string s) (.int .i64 1)).run prog u=.ok (.int .u8 (hd s 1:Int)) u:=db s 1 (by omega)
   have u1:IntKind.i64.wrap (hd s 1:Int)=(hd s 1:Int):=by rw[IntKind.wrap_i64];omega
   by_cases x:60<hd s 1
   .have d:ji s=none:=Yf j g p k x
    rw[d];show Calls prog 48 #[.string s] w fun e w'=>e=.returned (.tuple #[.agg #[.int .i64 0,.string ⟨#[]⟩,.string ⟨#[]⟩],.int .i64 0])/\Below w.heap.size w w'
    clear d;generalize hd s 1=a at *;have l:(60:Int)<(a:Int):=by omega
    go_enter func48,ntmps48;go_wp2;refine bodyPost_ret (v:=.tuple #[.agg #[.int .i64 0,.string ⟨#[]⟩,.string ⟨#[]⟩],.int .i64 0]) ?_ rfl ⟨rfl,by repeat (first|exact f.out _|refine Below.alloc ?_ (by simp) _|refine Below.setCell ?_ bR _|refine Below.drew ?_|refine cm ?_ _)⟩;rw[results_cell_tmp rfl];go_simp
   by_cases m:s.size<=2+hd s 1
   .have d:ji s=none:=mk (by unfold bm;rw[if_neg j,if_neg g,if_pos p,if_neg k,if_pos m])
    rw[d];show Calls prog 48 #[.string s] w fun e w'=>e=.returned (.tuple #[.agg #[.int .i64 0,.string ⟨#[]⟩,.string ⟨#[]⟩],.int .i64 0])/\Below w.heap.size w w'
    clear d;generalize hd s 1=a at *;have l:¬ (60:Int)<(a:Int):=by omega
    have q:(s.size:Int)<2+(a:Int)+1:=by omega
    go_enter func48,ntmps48;go_wp2;refine bodyPost_ret (v:=.tuple #[.agg #[.int .i64 0,.string ⟨#[]⟩,.string ⟨#[]⟩],.int .i64 0]) ?_ rfl ⟨rfl,by repeat (first|exact f.out _|refine Below.alloc ?_ (by simp) _|refine Below.setCell ?_ bR _|refine Below.drew ?_|refine cm ?_ _)⟩;rw[results_cell_tmp rfl];go_simp
   have n:∀ u:World,(Instr.index 9 (.string s) (.int .i64 ((2+hd s 1:Nat):Int))).run prog u=.ok (.int .u8 (hd s (2+hd s 1):Int)) u:=db s _ (by omega)
   by_cases h:hd s (2+hd s 1)=46
   .have d:ji s=some (⟨false,s.extract 2 (2+hd s 1),⟨#[]⟩⟩,2+hd s 1+1):=Eo (by unfold bm;rw[if_neg j,if_neg g,if_pos p,if_neg k,if_neg m,if_pos h]) ⟨by have:=xz s 2 (hd s 1) (by omega);show (s.extract 2 (2+hd s 1)).size<=60;omega,by show 0<=60;omega⟩
    rw[d];show Calls prog 48 #[.string s] w fun e w'=>e=.returned (.tuple #[.agg #[.int .i64 2,.string (s.extract 2 (2+hd s 1)),.string ⟨#[]⟩],.int .i64 ((2+hd s 1+1:Nat):Int)])/\Below w.heap.size w w'
    rw[h]at n;clear d h;generalize hd s 1=a at *;have l:¬ (60:Int)<(a:Int):=by omega
    have q:¬ (s.size:Int)<2+(a:Int)+1:=by omega
    have i:((2+a:Nat):Int)=2+(a:Int):=by omega
    have r:((2+a+1:Nat):Int)=2+(a:Int)+1:=by omega
    rw[i]at n;rw[r];clear i r;have D:∀ u:World,(Instr.slice 9 (.string s) (some (.int .i64 2)) (some (.int .i64 (2+(a:Int)))) none).run prog u=.ok (.string (s.extract 2 (2+a))) u:=fun u=>mm s _ _ _ _ (by omega) (by omega) (by omega) (by omega) u
    have E:∀ u:World,(Instr.slice 9 (.string s) (some (.int .i64 (2+(a:Int)))) (some (.int .i64 (2+(a:Int)))) none).run prog u=.ok (.string ⟨#[]⟩) u:=fun u=>by rw[mm s _ _ (2+a) (2+a) (by omega) (by omega) (by omega) (by omega) u,Ub]
    generalize s.extract 2 (2+a)=e1 at *;go_enter func48,ntmps48;go_wp2;refine bodyPost_ret (v:=.tuple #[.agg #[.int .i64 2,.string e1,.string ⟨#[]⟩],.int .i64 (2+(a:Int)+1)]) ?_ rfl ⟨rfl,by repeat (first|exact f.out _|refine Below.alloc ?_ (by simp) _|refine Below.setCell ?_ bR _|refine Below.drew ?_|refine cm ?_ _)⟩;rw[results_cell_tmp rfl];go_simp
   .have d:ji s=none:=mk (by unfold bm;rw[if_neg j,if_neg g,if_pos p,if_neg k,if_neg m,if_neg h])
    rw[d];show Calls prog 48 #[.string s] w fun e w'=>e=.returned (.tuple #[.agg #[.int .i64 0,.string ⟨#[]⟩,.string ⟨#[]⟩],.int .i64 0])/\Below w.heap.size w w'
    clear d;generalize hd s (2+hd s 1)=c at *;generalize hd s 1=a at *;have l:¬ (60:Int)<(a:Int):=by omega
    have q:¬ (s.size:Int)<2+(a:Int)+1:=by omega
    have i:((2+a:Nat):Int)=2+(a:Int):=by omega
    rw[i]at n;have z:¬ (c:Int)=46:=by omega
    have A:((c:Int) != 46)=true:=by simp;omega
    clear i h;go_enter func48,ntmps48;go_wp2;refine bodyPost_ret (v:=.tuple #[.agg #[.int .i64 0,.string ⟨#[]⟩,.string ⟨#[]⟩],.int .i64 0]) ?_ rfl ⟨rfl,by repeat (first|exact f.out _|refine Below.alloc ?_ (by simp) _|refine Below.setCell ?_ bR _|refine Below.drew ?_|refine cm ?_ _)⟩;rw[results_cell_tmp rfl];go_simp
  .have d:ji s=none:=mk (by unfold bm;rw[if_neg j,if_neg g,if_neg p])
   have Q:¬ (hd s 0:Int)=112:=by omega
   have R:¬ (hd s 0:Int)=100:=by omega
   have S:((hd s 0:Int) != 112)=true:=by simp;omega
   have T:((hd s 0:Int) != 100)=true:=by simp;omega
   rw[d];show Calls prog 48 #[.string s] w fun e w'=>e=.returned (.tuple #[.agg #[.int .i64 0,.string ⟨#[]⟩,.string ⟨#[]⟩],.int .i64 0])/\Below w.heap.size w w'
   clear d;go_enter func48,ntmps48;go_wp2;refine bodyPost_ret (v:=.tuple #[.agg #[.int .i64 0,.string ⟨#[]⟩,.string ⟨#[]⟩],.int .i64 0]) ?_ rfl ⟨rfl,by repeat (first|exact f.out _|refine Below.alloc ?_ (by simp) _|refine Below.setCell ?_ bR _|refine Below.drew ?_|refine cm ?_ _)⟩;rw[results_cell_tmp rfl];go_simp
theorem Yg {s:ByteArray} {o:Dn} {n:Nat}(h:ji s=some (o,n)):bm s=some (o,n)/\o.text.size<=60/\o.val.size<=60:=by
 unfold ji at h
 cases hr:bm s with
 | none=>rw[hr]at h;cases h
 | some p =>
  obtain⟨b,c⟩:=p;rw[hr]at h;have a:(if b.text.size<=60/\b.val.size<=60 then some (b,c) else none)=some (o,n):=h;split at a
  .rename_i hl
   cases a
   exact⟨rfl,hl⟩
  .cases a
theorem aa4 {R:RA} {l:List Rw} {s:ByteArray}(h0:s.size≠0) (h:ji s=none):mb R l s=none:=by
 cases hr:bm s with
 | none=>exact Md h0 hr
 | some p =>
  obtain⟨o,n⟩:=p;refine Hy hr ?_;have hn:¬ (o.text.size<=60/\o.val.size<=60):=fun c=>by rw[Eo hr c]at h;cases h
  have a:(fe R o.text && decide (o.val.size<=60))=false:=by
   cases hq:(fe R o.text && decide (o.val.size<=60))
   .rfl
   .rw[Bool.and_eq_true,decide_eq_true_eq]at hq
    exact absurd ⟨(lu hq.1).1,hq.2⟩ hn
  rw[tg a];decide
theorem Ym {R:RA} {l:List Rw}(h:ik R l):da l=true :=
 oz.2 ⟨h.len,fun x hx=>by
  have:=h.sz x hx;unfold sz1;rw[decide_eq_true (by omega),decide_eq_true (by omega),decide_eq_true (by omega)];rfl,ya h.rise⟩
structure Ds7 where
 r:ByteArray
 ss:List ByteArray
 log:ByteArray
 syn:Int
def zD7:Ds7:=⟨⟨#[]⟩,[],⟨#[]⟩,0⟩
def dn7 (k:Int) (x v:ByteArray):Dn:=⟨decide (k=1),x,v⟩
def cu (o:Dn):ByteArray :=
 if o.put=true then ⟨#[112]⟩++⟨#[UInt8.ofNat o.text.size,UInt8.ofNat o.val.size]⟩++o.text++o.val++⟨#[46]⟩ else ⟨#[100]⟩++⟨#[UInt8.ofNat o.text.size]⟩++o.text++⟨#[46]⟩
theorem zv (o:Dn):(cu o).size=if o.put=true then 4+o.text.size+o.val.size else 3+o.text.size:=by
 unfold cu;split
 .simp only[ByteArray.size_append]
  show 1+2+o.text.size+o.val.size+1=_
  omega
 .simp only[ByteArray.size_append]
  show 1+1+o.text.size+1=_
  omega
def dq (k:Int) (x v:ByteArray):Bool:=decide (1<=k/\k<=4/\((k=3\/k=4)->x.size=0)/\(k≠1->v.size=0))
def ki (d:Ds7):Bool:=decide (0<=d.syn/\d.syn<=(d.log.size:Int))
def du (d:Ds7):Option (List Rw):=eb (ab d.r) d.ss d.log
def doL (d:Ds7) (l:List Rw) (k:Int) (x v:ByteArray):Int × Ds7 :=
 if k=3 then (0,{ d with syn:=(d.log.size:Int) })
 else if k=4 then (match l8 l with
  | some pp=>(0,{ d with ss:=pp,log:=⟨#[]⟩,syn:=0 })
  | none=>(3,d))
 else if apC (ab d.r) l (dn7 k x v)=0 then (if d.log.size+(cu (dn7 k x v)).size<=6000 then (0,{ d with log:=d.log++cu (dn7 k x v) }) else (3,d))
 else (apC (ab d.r) l (dn7 k x v),d)
def do7 (d:Ds7) (k:Int) (x v:ByteArray):Int × Ds7 :=
 match du d with
 | none=>(1,zD7)
 | some l=>if (ki d && dq k x v)=true then doL d l k x v else (1,zD7)
structure Ok7 (d:Ds7):Prop where
 rules:d.r.size<=1048576
 pages:d.ss.length<=1048576
 page:∀ s ∈ d.ss,s.size<=1048576
 side:qq d.ss
 log:d.log.size<=1000000
theorem Yt {l:List Rw} {p:List ByteArray}(d:l.length<=60) (e:∀ x ∈ l,x.text.size<=60/\x.val.size<=60) (h:l8 l=some p):qq p:=by
 obtain⟨g,b,c,_⟩:=xm h;intro f a;rw[b]at a
 cases a
 rw[c];exact⟨d,e⟩
theorem a02 {d:Ds7} {l:List Rw}(h:Ok7 d) (a:ik (ab d.r) l) (k:Int) (x v:ByteArray):Ok7 (doL d l k x v).2:=by
 unfold doL;split
 .exact⟨h.rules,h.pages,h.page,h.side,h.log⟩
 split
 .split
  .rename_i pp hp
   obtain⟨_,_,_,_,_,c,b⟩:=xm hp;exact⟨h.rules,by show pp.length<=_;omega,fun s hs=>by have:=b s hs;omega,Yt a.len (fun x hx=>⟨(a.sz x hx).1,(a.sz x hx).2.1⟩) hp,by show 0<=1000000;omega⟩
  .exact h
 split
 .split
  .rename_i hs
   exact⟨h.rules,h.pages,h.page,h.side,by show (d.log++_).size<=_;rw[ByteArray.size_append];omega⟩
  .exact h
 .exact h
theorem Qg:qq []:=fun gs h=>by
 have:gs=[]:=by
  unfold bz at h;rw[if_pos (by show 0<=40;omega)]at h;have a:some []=some gs:=h
  cases a
  rfl
 subst this;exact⟨by show 0<=60;omega,fun x hx=>by cases hx⟩
theorem ad5:Ok7 zD7:=⟨Nat.zero_le _,Nat.zero_le _,fun s hs=>(by cases hs),Qg,Nat.zero_le _⟩
theorem m6 {d:Ds7} {l:List Rw}(h:Ok7 d) (a:du d=some l):ik (ab d.r) l:=Xt h.side a
theorem a01 {d:Ds7}(h:Ok7 d) (k:Int) (x v:ByteArray):Ok7 (do7 d k x v).2:=by
 unfold do7;split
 .exact ad5
 .rename_i l ho
  split
  .exact a02 h (m6 h ho) k x v
  .exact ad5
def ld:Nat->ByteArray->Nat
 | 0,_=>0
 | f+1,s=>match bm s with
  | none=>0
  | some (_,n)=>n+ld f (s.extract n s.size)
def jz (s:ByteArray):Nat:=ld s.size s
theorem Q5 {s:ByteArray}(h:s.size=0):bm s=none:=by unfold bm;rw[if_pos h]
theorem Gy:∀ (f g:Nat) (s:ByteArray),s.size<=f->s.size<=g->ld f s=ld g s
 | 0,0,_,_,_=>rfl
 | 0,g+1,s,h1,_=>by rw[ld,ld,Q5 (by omega)]
 | f+1,0,s,_,h2=>by rw[ld,ld,Q5 (by omega)]
 | f+1,g+1,s,h1,h2=>by
  rw[ld,ld]
  cases hr:bm s with
  | none=>rfl
  | some p =>
   obtain⟨o,n⟩:=p;have a:=ub hr;have b:=kc s n;show n+ld f (s.extract n s.size)=n+ld g (s.extract n s.size)
   rw[Gy f g (s.extract n s.size) (by omega) (by omega)]
theorem Z7 {s:ByteArray}(h:bm s=none):jz s=0:=by
 unfold jz
 cases s.size with
 | zero=>rfl
 | succ m=>rw[ld,h]
theorem Z6 {s:ByteArray} {o:Dn} {n:Nat}(h:bm s=some (o,n)):jz s=n+jz (s.extract n s.size):=by
 have b:=ub h;have c:=kc s n;unfold jz;obtain⟨m,a⟩:∃ m,s.size=m+1:=⟨s.size-1,by omega⟩
 rw[show ld s.size s=ld (m+1) s by rw[a],ld,h];show n+ld m (s.extract n s.size)=_
 rw[Gy m _ (s.extract n s.size) (by omega) bR]
theorem M9 (s:ByteArray) (a n:Nat):(s.extract a s.size).extract n (s.extract a s.size).size=s.extract (a+n) s.size:=by
 rw[kc];apply ByteArray.ext
 apply Array.toList_inj.1
 have e:=fun (t:ByteArray) (i j:Nat)=>yn t i j
 rw[e,e,e,List.drop_take,List.drop_drop,List.take_take];congr 1
 omega
def b43 (w:World) (ty:TypeId) (pv:Value):Prop:=w.cell? ⟨0,0,none⟩=some (.iface ty pv)
def ba0 (w:World) (s:ByteArray) (v i:Value) (wr:World):Prop :=
 ∃ (k:Nat) (os:List Dn),k<=s.size/\i=.int .i64 (k:Int)/\Dos wr w.heap.size v os/\os.length<=k/\js s=(js (s.extract k s.size)).map (os++·)/\jz s=k+jz (s.extract k s.size)/\Below w.heap.size w wr
theorem ay1 {s:ByteArray} {k n:Nat} {o:Dn} {os:List Dn}(a:bm (s.extract k s.size)=some (o,n)) (h1:js s=(js (s.extract k s.size)).map (os++·)) (h2:jz s=k+jz (s.extract k s.size)) :
  js s=(js (s.extract (k+n) s.size)).map ((os++[o])++·)/\jz s=k+n+jz (s.extract (k+n) s.size):=by
 rw[Ea a,M9]at h1;rw[Z6 a,M9]at h2;refine⟨?_,by omega⟩;rw[h1]
 cases js (s.extract (k+n) s.size) <;> simp
theorem Td (s:ByteArray) (w:World) (hz:s.size<=1048576){ty:TypeId} {pv:Value}(F:b43 w ty pv) :
  Calls prog 46 #[.string s] w fun e w' =>
   (s.size<=6000/\∃ (os:List Dn) (v:Value),js s=some os/\e=.returned (.tuple #[v,.nilIface])/\Dos w' w.heap.size v os/\os.length<=6000/\Below w.heap.size w w') \/
   (s.size<=6000/\js s=none/\e=.returned (.tuple #[.slice none 0 0,.iface 98 (.agg #[.int .i64 (jz s:Int)])])/\Below w.heap.size w w') \/
   (¬ s.size<=6000/\e=.returned (.tuple #[.slice none 0 0,.iface ty pv])/\Below w.heap.size w w'):=by
 by_cases E:s.size<=6000
 .have V:¬ (6000:Int)<(s.size:Int):=by omega
  obtain⟨i0,hi,Z,a0,a1⟩:=info_parts ax4;have L:Hid (∀ (k:Nat) (u:World),k<s.size->Calls prog 97 #[.string (s.extract k s.size)] u fun e w'=>e=.returned (ap0 (bm (s.extract k s.size)))/\Below u.heap.size u w'):=fun k u hk=>az9 _ u (by rw[kc];omega) (by rw[kc];omega)
  have B:s.extract 0 s.size=s:=by simp
  clear F;go_enter func46,ntmps46;go_wp2_with fail;go_loopw [4,5] (fun v i wr=>ba0 w s v i wr) (fun _ i _=>s.size-(intOf i).toNat)
  case atStart=>exact⟨0,[],Nat.zero_le _,rfl,World.ownsRow_nil _ _ _ _,bR,by rw[B];simp,by rw[B];omega,bX⟩
  case round =>
   clear B;obtain⟨k,os,hk,rfl,M,a6,N,O,P⟩:=hrel;have r:=hZ M;have d:Hid (js s=(js (s.extract k s.size)).map (os++·)):=N;have l:Hid (jz s=k+jz (s.extract k s.size)):=O;have a:=hZ P;clear M N O P;by_cases X:k<s.size
   .have a3:(k:Int)<(s.size:Int):=by omega
    have f:=L.out k wr X;have sl:∀ u:World,(Instr.slice 9 (.string s) (some (.int .i64 (k:Int))) none none).run prog u=.ok (.string (s.extract k s.size)) u:=fun u=>by
     rw[run_slice_string_l (ht:=underlying9) (h0:=by omega) (h1:=by omega),Int.toNat_natCast]
    cases hrn:bm (s.extract k s.size) with
    | none =>
     rw[hrn]at f;have h:js s=none:=by rw[d.out,Ly (by rw[kc];omega) hrn];rfl
     have K:jz s=k:=by rw[l.out,Z7 hrn];omega
     have y:Hid (js s=none):=h;have U:Hid (jz s=k):=K;have g:Calls prog 97 #[.string (s.extract k s.size)] wr fun e w'=>e=.returned (.tuple #[.agg #[.int .i64 0,.string ⟨#[]⟩,.string ⟨#[]⟩],.int .i64 0])/\Below wr.heap.size wr w':=f
     clear f h K hrn d l r;generalize s.extract k s.size=rs at *;go_wp2_with fail;refine g.mono ?_;rintro e c ⟨rfl,b⟩;have R:Hid (∀ o,Below w.heap.size w (c.alloc o)):=fun o=>(a.out.trans (b.mono a.out.size)).alloc (a.out.trans (b.mono a.out.size)).size o
     clear g b a;go_wp2;go_ret2;exact .inr (.inl ⟨E,y.out,by (rw[U.out];try rfl),R.out _⟩)
    | some p =>
     obtain⟨o,n⟩:=p;rw[hrn]at f;have W:=ub hrn;rw[kc]at W;have a4:¬ (n:Int)=0:=by omega
     have a5:((n:Int) == 0)=false:=by simp;omega
     have A:=ay1 hrn d.out l.out;obtain⟨q,hq⟩:∃ q,q=k+n:=⟨_,rfl⟩
     rw[<- hq]at A;have H:Hid (js s=(js (s.extract q s.size)).map ((os++[o])++·)/\jz s=q+jz (s.extract q s.size)):=A;have a8:IntKind.i64.wrap ((k:Int)+(n:Int))=(q:Int):=by rw[IntKind.wrap_i64];omega
     have g:Calls prog 97 #[.string (s.extract k s.size)] wr fun e w'=>e=.returned (.tuple #[.agg #[.int .i64 (kn7 o),.string o.text,.string o.val],.int .i64 (n:Int)])/\Below wr.heap.size wr w':=f
     clear f hrn d l A;generalize s.extract k s.size=rs at *;generalize hkn7:kn7 o=kd at *;go_wp2_with fail;refine g.mono ?_;rintro e c ⟨rfl,b⟩;have C:Below c.heap.size c (c.alloc (.cells #[.int .i64 kd,.string o.text,.string o.val] 27)):=bY _;have D:=C.alloc C.size (.cells #[.int .i64 kd,.string o.text,.string o.val] 27);have m:=((r.out.below b).below D);have G:=hZ m;have z:Below w.heap.size w ((c.alloc (.cells #[.int .i64 kd,.string o.text,.string o.val] 27)).alloc (.cells #[.int .i64 kd,.string o.text,.string o.val] 27)):=(a.out.trans (b.mono a.out.size)).trans (D.mono (a.out.trans (b.mono a.out.size)).size)
     have t:=hZ z;have a7:=z.size;have Y:(c.alloc (.cells #[.int .i64 kd,.string o.text,.string o.val] 27)).heap.size=c.heap.size+1:=by simp
     unfold Dos at m;clear g b C D a r z;go_wp2_with (at_builtin;refine wpList_append_own _ rfl _ _ 94 rfl w.heap.size 27 i0 (.agg #[.int .i64 0,.string ⟨#[]⟩,.string ⟨#[]⟩]) 3 40 underlying94 hi Z a0 a1 rfl (by decide) _ _ _ rfl m ⟨_,0,none⟩ 1 1 [.int .i64 kd,.string o.text,.string o.val] rfl rfl (Dl _ _ _ _ _ _ Y.symm) (fun x hx=>by simp at hx;rcases hx with rfl|rfl|rfl <;> rfl) (by unfold maxLen;omega) (by omega) (by omega) ?_;intro v5 Q J I _)
     have T:Hid (Dos Q w.heap.size v5 (os++[o])):=av8 (by unfold dnC;rw[hkn7];exact J);have S:Hid (Below w.heap.size w Q):=Below.grown t.out I t.out.size (fun j hj=>(World.ownsRow.lt G.out j hj).1);clear J I G t m;go_wp2;exact⟨⟨q,os++[o],by omega,by (first|rfl|go_num),T.out,by simp;omega,H.out.1,H.out.2,S.out⟩,by simp[intOf];omega⟩
   .obtain rfl:k=s.size:=by omega
    have h:js s=some os:=by rw[d.out,Pj (by rw[kc];omega)];simp
    have y:Hid (js s=some os):=h;clear h d l L;go_wp2;go_ret2;exact .inl ⟨E,os,_,y.out,rfl,r.out,by omega,a.out⟩
 .have V:(6000:Int)<(s.size:Int):=by omega
  have a2:=ag F;unfold b43 at F;go_enter func46,ntmps46;go_wp2;go_quiet (fail)
  go_wp2;go_ret2;exact .inr (.inr ⟨E,rfl,cm bX _⟩)
def pg7:ByteArray:=⟨#[80,71,1,0,0,0,0]⟩
theorem M7:am pg7=[⟨⟨#[]⟩,⟨#[]⟩,⟨#[]⟩⟩]:=by kernel_rfl
theorem a65 (a:ByteArray):ltK a ⟨#[]⟩=false:=by
 unfold ltK;rw[show (⟨#[]⟩:ByteArray).toList=[] by rw[ByteArray.toList_eq]]
 cases a.toList <;> rfl
theorem Nk:∀ (ss:List ByteArray) (acc gs:List (List Rw)) (s:ByteArray),bkF acc (ss++[s])=some gs->∃ gs0,bkF acc ss=some gs0/\ii gs0 s=true/\gs=gs0++[am s]
 | [],acc,gs,s,h=>by
  have a:(if ii acc s=true then bkF (acc++[am s]) [] else none)=some gs:=h;split at a
  .rename_i ho
   have b:some (acc++[am s])=some gs:=a
   cases b
   exact⟨acc,rfl,ho,rfl⟩
  .cases a
 | t::ss,acc,gs,s,h=>by
  have a:(if ii acc t=true then bkF (acc++[am t]) (ss++[s]) else none)=some gs:=h;split at a
  .rename_i ho
   obtain⟨gs0,q1,q2,q3⟩:=Nk ss _ gs s a;refine⟨gs0,?_,q2,q3⟩;show (if ii acc t=true then bkF (acc++[am t]) ss else none)=some gs0
   rw[if_pos ho,q1]
  .cases a
theorem aq3 {ss:List ByteArray}(h:qq ss):qq (ss++[pg7]):=by
 intro f a;unfold bz at a;split at a
 .rename_i h40
  obtain⟨gs0,q1,q2,q3⟩:=Nk ss [] f pg7 a;have e:bz ss=some gs0:=by
   unfold bz;rw[if_pos (by simp at h40;omega)];exact q1
  have i:=h gs0 e;have g:gs0=[]:=by
   unfold ii at q2;rw[Bool.and_eq_true]at q2
   cases hg:gs0.getLast? with
   | none=>exact List.getLast?_eq_none_iff.1 hg
   | some l =>
    have b:=q2.2;rw[hg]at b;have c:ltK (nl l) (qu (am pg7))=true:=b;rw[M7]at c;have d:ltK (nl l) ⟨#[]⟩=true:=c;rw[a65]at d
    cases d
  subst g;rw[q3,M7];refine⟨by simp,fun x hx=>?_⟩;have:x=⟨⟨#[]⟩,⟨#[]⟩,⟨#[]⟩⟩:=by simpa using hx
  subst this;exact⟨by decide,by decide⟩
 .cases a
def Lg7 (d:Ds7):Prop:=d.log.size<=6000/\d.ss.length<=40
theorem b40 {d:Ds7}(h:Lg7 d) (k:Int) (x v:ByteArray):Lg7 (do7 d k x v).2:=by
 unfold do7;split
 .exact⟨Nat.zero_le _,Nat.zero_le _⟩
 .split
  .unfold doL
   split
   .exact h
   split
   .split
    .rename_i pp hp
     obtain⟨_,_,_,_,_,a,_⟩:=xm hp;exact⟨Nat.zero_le _,a⟩
    .exact h
   split
   .split
    .rename_i hs
     refine⟨?_,h.2⟩;show (d.log++_).size<=6000
     rw[ByteArray.size_append];exact hs
    .exact h
   .exact h
  .exact⟨Nat.zero_le _,Nat.zero_le _⟩
theorem ae1 {s t:ByteArray} {i:Nat}(h:i<s.size):bAt (s++t) i=bAt s i:=by
 have a:i<s.data.toList.length:=by rw[Array.length_toList];exact h
 unfold bAt;rw[ByteArray.data_append,Array.toList_append,List.getD_eq_getElem?_getD,List.getD_eq_getElem?_getD,List.getElem?_append_left a]
theorem nn {s t:ByteArray} {i:Nat}(h:i<s.size):hd (s++t) i=hd s i:=by unfold hd;rw[ae1 h]
theorem C8 {s t:ByteArray} {a b:Nat}(h:b<=s.size):(s++t).extract a b=s.extract a b:=by
 apply ByteArray.ext
 simp[ByteArray.data_extract,ByteArray.data_append,Array.extract_append]
 omega
theorem ao6 {s t:ByteArray} {o:Dn} {n:Nat}(h:bm s=some (o,n)):bm (s++t)=some (o,n):=by
 have a:(s++t).size=s.size+t.size:=ByteArray.size_append;unfold bm at h;split at h
 .cases h
 .rename_i h0
  unfold bm;rw[if_neg (by omega),nn (by omega)];split at h
  .rename_i h1
   rw[if_pos h1];split at h
   .cases h
   .rename_i h2
    rw[if_neg (by omega),nn (i:=1) (by omega),nn (i:=2) (by omega)];split at h
    .cases h
    .rename_i h3
     rw[if_neg (by omega),nn (by omega),C8 (by omega),C8 (by omega)];exact h
  .rename_i h1
   rw[if_neg h1];split at h
   .rename_i h2
    rw[if_pos h2];split at h
    .cases h
    .rename_i h3
     rw[if_neg (by omega),nn (i:=1) (by omega)];split at h
     .cases h
     .rename_i h4
      rw[if_neg (by omega),nn (by omega),C8 (by omega)];exact h
   .cases h
theorem Lm {s t:ByteArray} {n:Nat}(h:n<=s.size):(s++t).extract n (s++t).size=s.extract n s.size++t:=by
 apply ByteArray.ext
 have a:s.data.size=s.size:=rfl;have d:t.data.size=t.size:=rfl;simp[ByteArray.data_extract,ByteArray.data_append,Array.extract_append,a]
 rw[show n-s.size=0 by omega];have b:s.data.extract n (s.size+t.size)=s.data.extract n s.size:=by
  apply Array.ext
  .simp[a]
  .intro i e f
   simp
 have c:t.data.extract 0 t.size=t.data:=by rw[<- d];simp
 rw[b,c]
theorem aa5 {R:RA} {t:ByteArray}:∀ (f:Nat) (s:ByteArray) (l l':List Rw),s.size<=f->mb R l s=some l'->mb R l (s++t)=mb R l' t:=by
 intro f;induction f with
 | zero =>
  intro s l l' d h;rw[z8 (by omega)]at h
  cases h
  have:s=⟨#[]⟩:=by apply ByteArray.ext;exact Array.eq_empty_of_size_eq_zero (by show s.size=0;omega)
  rw[this,show (⟨#[]⟩:ByteArray)++t=t by apply ByteArray.ext;simp]
 | succ f ih =>
  intro s l l' d h;by_cases a:s.size=0
  .rw[z8 a]at h
   cases h
   have:s=⟨#[]⟩:=by apply ByteArray.ext;exact Array.eq_empty_of_size_eq_zero a
   rw[this,show (⟨#[]⟩:ByteArray)++t=t by apply ByteArray.ext;simp]
  .cases hr:bm s with
   | none=>rw[Md a hr]at h;cases h
   | some p =>
    obtain⟨o,n⟩:=p;have c:=ub hr;by_cases b:apC R l o=0
    .rw[zx hr b]at h
     rw[zx (ao6 hr) b,Lm c.2];exact ih _ _ _ (by rw[kc];omega) h
    .rw[Hy hr b]at h;cases h
theorem On {s t:ByteArray} {i:Nat}:hd (s++t) (s.size+i)=hd t i:=by
 unfold hd bAt;rw[ByteArray.data_append,Array.toList_append,List.getD_eq_getElem?_getD,List.getD_eq_getElem?_getD,List.getElem?_append_right (by rw[Array.length_toList];show s.size<=s.size+i;omega)];rw[show s.size+i-s.data.toList.length=i by rw[Array.length_toList];show s.size+i-s.size=i;omega]
theorem Ki {p x r:ByteArray}:(p++x++r).extract p.size (p.size+x.size)=x:=by
 rw[C8 (by rw[ByteArray.size_append];omega)];have h:=Lm (s:=p) (t:=x) (n:=p.size) bR;rw[ByteArray.size_append]at h;rw[h];apply ByteArray.ext
 simp
theorem ao9 {x v:ByteArray}(l:x.size<=60) (k:v.size<=60):bm (cu ⟨true,x,v⟩)=some (⟨true,x,v⟩,(cu ⟨true,x,v⟩).size):=by
 have e:(cu ⟨true,x,v⟩).size=4+x.size+v.size:=by rw[zv];rfl
 have b:cu ⟨true,x,v⟩=(⟨#[112,UInt8.ofNat x.size,UInt8.ofNat v.size]⟩++x++v)++⟨#[46]⟩:=by
  show ⟨#[112]⟩++⟨#[UInt8.ofNat x.size,UInt8.ofNat v.size]⟩++x++v++⟨#[46]⟩=_
  apply ByteArray.ext
  simp
 have c:cu ⟨true,x,v⟩=⟨#[112,UInt8.ofNat x.size,UInt8.ofNat v.size]⟩++(x++v++⟨#[46]⟩):=by rw[b];simp only[ByteArray.append_assoc]
 have d:cu ⟨true,x,v⟩=⟨#[112,UInt8.ofNat x.size,UInt8.ofNat v.size]⟩++x++(v++⟨#[46]⟩):=by rw[b];simp only[ByteArray.append_assoc]
 have a:(⟨#[112,UInt8.ofNat x.size,UInt8.ofNat v.size]⟩:ByteArray).size=3:=rfl;have f:hd (cu ⟨true,x,v⟩) 0=112:=by rw[c,nn (by rw[a];omega)];rfl
 have q1:hd (cu ⟨true,x,v⟩) 1=x.size:=by
  rw[c,nn (by rw[a];omega)];show (UInt8.ofNat x.size).toNat=_
  simp
  omega
 have q2:hd (cu ⟨true,x,v⟩) 2=v.size:=by
  rw[c,nn (by rw[a];omega)];show (UInt8.ofNat v.size).toNat=_
  simp
  omega
 have q3:hd (cu ⟨true,x,v⟩) (3+x.size+v.size)=46:=by
  have h:=On (s:=⟨#[112,UInt8.ofNat x.size,UInt8.ofNat v.size]⟩++x++v) (t:=⟨#[46]⟩) (i:=0);rw[ByteArray.size_append,ByteArray.size_append,a]at h;rw[b];exact h
 have g:(cu ⟨true,x,v⟩).extract 3 (3+x.size)=x:=by
  have h:=Ki (p:=⟨#[112,UInt8.ofNat x.size,UInt8.ofNat v.size]⟩) (x:=x) (r:=v++⟨#[46]⟩);rw[a]at h;rw[d];exact h
 have j:(cu ⟨true,x,v⟩).extract (3+x.size) (3+x.size+v.size)=v:=by
  have h:=Ki (p:=⟨#[112,UInt8.ofNat x.size,UInt8.ofNat v.size]⟩++x) (x:=v) (r:=⟨#[46]⟩);rw[ByteArray.size_append,a]at h;rw[b];exact h
 unfold bm;rw[if_neg (by omega),if_pos f,if_neg (by omega),q1,q2,if_neg (by omega),if_pos q3,g,j,e];rw[show 3+x.size+v.size+1=4+x.size+v.size by omega]
theorem ao7 {x:ByteArray}(g:x.size<=60):bm (cu ⟨false,x,⟨#[]⟩⟩)=some (⟨false,x,⟨#[]⟩⟩,(cu ⟨false,x,⟨#[]⟩⟩).size):=by
 have d:(cu ⟨false,x,⟨#[]⟩⟩).size=3+x.size:=by rw[zv];rfl
 have b:cu ⟨false,x,⟨#[]⟩⟩=(⟨#[100,UInt8.ofNat x.size]⟩++x)++⟨#[46]⟩:=by
  show ⟨#[100]⟩++⟨#[UInt8.ofNat x.size]⟩++x++⟨#[46]⟩=_
  apply ByteArray.ext
  simp
 have c:cu ⟨false,x,⟨#[]⟩⟩=⟨#[100,UInt8.ofNat x.size]⟩++(x++⟨#[46]⟩):=by rw[b];simp only[ByteArray.append_assoc]
 have a:(⟨#[100,UInt8.ofNat x.size]⟩:ByteArray).size=2:=rfl;have e:hd (cu ⟨false,x,⟨#[]⟩⟩) 0=100:=by rw[c,nn (by rw[a];omega)];rfl
 have q1:hd (cu ⟨false,x,⟨#[]⟩⟩) 1=x.size:=by
  rw[c,nn (by rw[a];omega)];show (UInt8.ofNat x.size).toNat=_
  simp
  omega
 have q3:hd (cu ⟨false,x,⟨#[]⟩⟩) (2+x.size)=46:=by
  have h:=On (s:=⟨#[100,UInt8.ofNat x.size]⟩++x) (t:=⟨#[46]⟩) (i:=0);rw[ByteArray.size_append,a]at h;rw[b];exact h
 have f:(cu ⟨false,x,⟨#[]⟩⟩).extract 2 (2+x.size)=x:=by
  have h:=Ki (p:=⟨#[100,UInt8.ofNat x.size]⟩) (x:=x) (r:=⟨#[46]⟩);rw[a]at h;rw[b];exact h
 unfold bm;rw[if_neg (by omega),if_neg (by omega),if_pos e,if_neg (by omega),q1,if_neg (by omega),if_pos q3,f,d];rw[show 2+x.size+1=3+x.size by omega]
theorem ap8 {R:RA} {l:List Rw} {o:Dn}(a:o.text.size<=60) (d:o.val.size<=60) (hd:o.put=false->o.val=⟨#[]⟩) (b:apC R l o=0):mb R l (cu o)=some (apR R l o):=by
 have c:bm (cu o)=some (o,(cu o).size):=by
  obtain⟨p,x,v⟩:=o
  cases p
  .obtain rfl:v=⟨#[]⟩:=hd rfl
   exact ao7 a
  .exact ao9 a d
 rw[zx c b];exact z8 (by rw[kc];omega)
theorem T5 {d:Ds7} {l:List Rw}(h:du d=some l):∃ gs,bz d.ss=some gs/\(ab d.r).code=0/\go (ab d.r) gs.flatten=true/\d.log.size<=6000/\mb (ab d.r) gs.flatten d.log=some l:=by
 unfold du eb at h
 cases hb:bz d.ss with
 | none=>rw[hb]at h;cases h
 | some gs =>
  rw[hb]at h;have a:(if (ab d.r).code=0/\go (ab d.r) gs.flatten=true/\d.log.size<=6000 then mb (ab d.r) gs.flatten d.log else none)=some l:=h;split at a
  .rename_i hc
   exact⟨gs,rfl,hc.1,hc.2.1,hc.2.2,a⟩
  .cases a
theorem Pu {d:Ds7} {gs:List (List Rw)}(a:bz d.ss=some gs) (h0:(ab d.r).code=0) (b:go (ab d.r) gs.flatten=true) (c:d.log.size<=6000):du d=mb (ab d.r) gs.flatten d.log:=by
 unfold du eb;rw[a];show (if _ then _ else _)=_
 rw[if_pos ⟨h0,b,c⟩]
def pz (R:RA) (l:List Rw) (c k:Int) (x v:ByteArray):List Rw:=if c=0/\(k=1\/k=2) then apR R l (dn7 k x v) else l
theorem ag4 {d:Ds7} {l:List Rw} {k:Int} {x v:ByteArray}(z:Ok7 d) (b:du d=some l) (f:ki d=true) (m:dq k x v=true) :
  du (doL d l k x v).2=some (pz (ab d.r) l (doL d l k x v).1 k x v)/\ki (doL d l k x v).2=true:=by
 obtain⟨C,D,j,E,J,F⟩:=T5 b;have A:=m6 z b;have i:0<=d.syn/\d.syn<=(d.log.size:Int):=by unfold ki at f;exact of_decide_eq_true f
 unfold dq at m;obtain⟨G,H,I,B⟩:=of_decide_eq_true m;by_cases n:k=3
 .subst n
  have e:doL d l 3 x v=(0,{ d with syn:=(d.log.size:Int) }):=rfl;rw[e];refine⟨?_,?_⟩
  .show du d=_
   rw[b];unfold pz;rw[if_neg (by omega)]
  .unfold ki
   exact decide_eq_true ⟨by show (0:Int)<=(d.log.size:Int);omega,Int.le_refl _⟩
 .by_cases o:k=4
  .subst o
   cases hp:l8 l with
   | none =>
    have e:doL d l 4 x v=(3,d):=by unfold doL;rw[if_neg (by decide),if_pos rfl,hp]
    rw[e];refine⟨?_,f⟩;rw[b];unfold pz;rw[if_neg (by omega)]
   | some pp =>
    have e:doL d l 4 x v=(0,{ d with ss:=pp,log:=⟨#[]⟩,syn:=0 }):=by unfold doL;rw[if_neg (by decide),if_pos rfl,hp]
    rw[e];obtain⟨p,s,h,_⟩:=xm hp;refine⟨?_,rfl⟩;have u:go (ab d.r) p.flatten=true:=by
     rw[h];unfold go;exact List.all_eq_true.2 fun y hy=>decide_eq_true (A.key y hy)
    rw[Pu (d:={ d with ss:=pp,log:=⟨#[]⟩,syn:=0 }) s j u (Nat.zero_le _)];rw[z8 rfl,h];unfold pz;rw[if_neg (by omega)]
  .have e:doL d l k x v=if apC (ab d.r) l (dn7 k x v)=0 then (if d.log.size+(cu (dn7 k x v)).size<=6000 then (0,{ d with log:=d.log++cu (dn7 k x v) }) else (3,d)) else (apC (ab d.r) l (dn7 k x v),d):=by
    unfold doL;rw[if_neg n,if_neg o]
   by_cases a:apC (ab d.r) l (dn7 k x v)=0
   .by_cases g:d.log.size+(cu (dn7 k x v)).size<=6000
    .rw[if_pos a,if_pos g]at e
     rw[e];obtain⟨q1,q2,_,_⟩:=qt a;have t:(dn7 k x v).put=false->(dn7 k x v).val=⟨#[]⟩:=fun hp=>by
      have w:k≠1:=fun c=>by
       rw[show (dn7 k x v).put=decide (k=1) from rfl,decide_eq_true c]at hp
       cases hp
      apply ByteArray.ext
      exact Array.eq_empty_of_size_eq_zero (B w)
     refine⟨?_,?_⟩
     .rw[Pu (d:={ d with log:=d.log++cu (dn7 k x v) }) D j E (by show (d.log++_).size<=6000;rw[ByteArray.size_append];exact g)]
      show mb (ab d.r) C.flatten (d.log++cu (dn7 k x v))=_
      rw[aa5 _ _ _ _ bR F,ap8 (lu q1).1 q2 t a];unfold pz;rw[if_pos ⟨rfl,by omega⟩]
     .unfold ki
      refine decide_eq_true ⟨i.1,?_⟩;show d.syn<=((d.log++cu (dn7 k x v)).size:Int)
      rw[ByteArray.size_append];have:=i.2;omega
    .rw[if_pos a,if_neg g]at e
     rw[e];refine⟨?_,f⟩;rw[b];unfold pz;rw[if_neg (by omega)]
   .rw[if_neg a]at e
    rw[e];refine⟨?_,f⟩;rw[b];unfold pz;rw[if_neg (fun q=>a q.1)]
end Go.Proofs.YtjbmgghehdemdaaGreatDoor
