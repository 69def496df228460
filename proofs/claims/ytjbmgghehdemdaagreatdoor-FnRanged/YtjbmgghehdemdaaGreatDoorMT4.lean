/- Same2 -/
import Derived.Test.YtjbmgghehdemdaaGreatDoorMT2
import Derived.Deep.WholeRow
namespace Go.Proofs.YtjbmgghehdemdaaGreatDoor
set_option maxRecDepth 100000
set_option maxHeartbeats 16000000
open _root_.Go.Proofs.Tryz
open Go.RowKit
def Xp (a b:List Int) (k:Nat):Prop:=∀ j,j<k→a[j]? = b[j]?
theorem Bg (w:World) (a b:Option Addr) (c d:Nat):Calls prog 104 #[.slice a 0 c,.slice b 0 d] w fun e w'=>e=.returned (.bool true)∧∃ n,w'=w.drewN n:=by
 go_enter func104,ntmps104;go_wp2;go_loopw [13] (fun i wr=>i=.int .i64 0∧wr=w) (fun _ _=>0)
 case atStart=>exact⟨rfl,rfl⟩
 case round =>
  obtain⟨rfl,rfl⟩:=hrel;go_wp2;go_ret;exact⟨rfl,0,rfl⟩
theorem D6 (w:World) (a b:Option Addr) (n m c d:Nat) (h:n≠m):Calls prog 104 #[.slice a n c,.slice b m d] w fun e w'=>e=.returned (.bool false)∧∃ n,w'=w.drewN n:=by
 have h2:((n:Int) != (m:Int))=true:=by simp;omega
 go_enter func104,ntmps104;go_wp2;go_ret;exact⟨rfl,0,rfl⟩
theorem a38 (w:World) (g g' cap a0 n:Nat) (za zb:List Int) (ha:za.length=n) (hb:zb.length=n) (hz:n≤1048576)
  (h1:∀ j,j<n→w.cell? ⟨g,j,none⟩=some (.int .i64 (za[j]?.getD 0)))
  (h2:∀ j,j<n→w.cell? ⟨g',j,none⟩=some (.int .i64 (zb[j]?.getD 0))) :
  Calls prog 104 #[.slice (some ⟨g,0,none⟩) n cap,.slice (some ⟨g',0,none⟩) n a0] w fun e w'=>e=.returned (.bool (decide (za=zb)))∧∃ n,w'=w.drewN n:=by
 go_enter func104,ntmps104;go_wp2;go_loopw [13] (fun i wr=>∃ k nq:Nat,k≤n∧i=.int .i64 k∧wr=w.drewN nq∧Hid (Xp za zb k)) (fun i _=>n-(intOf i).toNat)
 case atStart=>exact⟨0,0,Nat.zero_le _,rfl,rfl,fun j hj=>by omega⟩
 case round =>
  obtain⟨k,nq,hk,rfl,rfl,HS⟩:=hrel;by_cases a1:k<n
  .obtain⟨x,hx⟩:∃ x,za[k]? = some x:=⟨_,List.getElem?_eq_getElem (by omega)⟩
   obtain⟨y,hy⟩:∃ y,zb[k]? = some y:=⟨_,List.getElem?_eq_getElem (by omega)⟩
   have g1:=h1 k a1;have g2:=h2 k a1;rw[hx]at g1;rw[hy]at g2;have e1:w.cell? ⟨g,k,none⟩=some (.int .i64 x):=g1;have e2:w.cell? ⟨g',k,none⟩=some (.int .i64 y):=g2;have a4:(k:Int)<(n:Int):=by omega
   have HX:Hid _:=hx;have HY:Hid _:=hy;have HA:Hid _:=ha;have HB:Hid _:=hb;clear h1 h2 g1 g2 hx hy ha hb;by_cases e:x=y
   .subst e
    have a2:Hid (Xp za zb (k+1)):=by
     intro j hj;by_cases e:j=k
     .subst e;rw[HX.out,HY.out]
     .exact HS.out j (by omega)
    go_wp2;go_quiet (fail)
    go_wp2;exact⟨⟨k+1,_,by omega,by go_num,rfl,a2⟩,by simp[intOf];omega⟩
   .have a3:(x != y)=true:=by simpa using e
    have HN:Hid (false=decide (za=zb)):=by
     refine (decide_eq_false fun h=>e ?_).symm;have:=HX.out;rw[h,HY.out]at this;exact (Option.some.inj this).symm
    clear e;go_wp2;go_quiet (fail)
    go_wp2;go_ret;exact⟨jj HN.out,_,World.drewN_drewN _ _ _⟩
  .have HN:Hid (true=decide (za=zb)):=by
    refine (decide_eq_true ?_).symm;apply List.ext_getElem?
    intro j;by_cases hj:j<k
    .exact HS.out j hj
    .rw[List.getElem?_eq_none (by omega),List.getElem?_eq_none (by omega)]
   have HA:Hid _:=ha;have HB:Hid _:=hb;clear h1 h2 ha hb;go_wp2;go_ret;exact⟨jj HN.out,_,rfl⟩
theorem Kz {w:World} {B B':Nat} {a b:Value} {za zb:List Int}(a1:za.length≤1048576) (a2:zb.length≤1048576) (ha:ab w B a za) (hb:ab w B' b zb) :
  Calls prog 104 #[a,b] w fun e w'=>e=.returned (.bool (decide (za=zb)))∧∃ n,w'=w.drewN n:=by
 by_cases h:za.length=zb.length
 .rcases ha.form with ⟨rfl,rfl⟩|⟨g,cap,rfl,h1,h2⟩
  .have e:zb=[]:=List.eq_nil_of_length_eq_zero (by simpa using h.symm)
   subst e;rcases hb.form with ⟨rfl,_⟩|⟨g',a0,rfl,_,_⟩
   .exact Bg w _ _ _ _
   .exact Bg w _ _ _ _
  .rcases hb.form with ⟨rfl,rfl⟩|⟨g',a0,rfl,_,_⟩
   .have e:za=[]:=List.eq_nil_of_length_eq_zero (by simpa using h)
    subst e;exact Bg w _ _ _ _
   .rw[<- h]
    exact a38 w g g' cap a0 za.length za zb rfl h.symm a1 (fun j hj=>ha.cell j hj) (fun j hj=>hb.cell j (by omega))
 .have e:decide (za=zb)=false:=decide_eq_false (fun e=>h (by rw[e]))
  rw[e];rcases ha.form with ⟨rfl,rfl⟩|⟨g,cap,rfl,h1,h2⟩
  .rcases hb.form with ⟨rfl,rfl⟩|⟨g',a0,rfl,_,_⟩
   .exact absurd rfl h
   .exact D6 w _ _ _ _ _ _ (by simpa using h)
  .rcases hb.form with ⟨rfl,rfl⟩|⟨g',a0,rfl,_,_⟩
   .exact D6 w _ _ _ _ _ _ (by simpa using h)
   .exact D6 w _ _ _ _ _ _ h
def vsl:List Int:=[32,95,45,44,59,58,33,63,46]
def mkl:List Int:=[824,807,808,803,817,768,769,770,771,772,774,775,776,778,780]
def d7 (l:List Int) (r:Int):Option Nat:=l.findIdx? (fun x=>x == r)
def gc (r:Int):List El :=
 if r<32∨r=127 then []
 else if 48≤r∧r≤57 then [⟨2000+100*(r-48),32,2,false⟩]
 else if 97≤r∧r≤122 then [⟨4000+200*(r-97),32,2,false⟩]
 else if 65≤r∧r≤90 then [⟨4000+200*(r-65),32,8,false⟩]
 else [⟨60000+r / 32768,32,2,false⟩,⟨32768+r % 32768,0,0,false⟩]
def base (r:Int):List El :=
 match d7 vsl r with
 | some i=>[⟨1+(i:Int),32,2,true⟩]
 | none=>match d7 mkl r with
  | some i=>[⟨0,40+(i:Int),2,false⟩]
  | none=>gc r
theorem M4 (r:Int):(base r).length≤2:=by
 unfold base gc;repeat' split
 all_goals simp
def o8 (l:List Int) (r:Int) (k:Nat):Prop:=∀ j x,j<k→l[j]? = some x→x≠r
theorem o8.succ {l:List Int} {r x:Int} {k:Nat}(h:o8 l r k) (hx:l[k]? = some x) (hn:x≠r):o8 l r (k+1):=by
 intro j y hj hy;by_cases e:j=k
 .subst e;rw[hx]at hy;cases hy;exact hn
 .exact h j y (by omega) hy
theorem Cu {l:List Int} {r:Int} {k:Nat}(h:o8 l r k) (hx:l[k]? = some r):d7 l r=some k:=by
 unfold d7;rw[List.findIdx?_eq_some_iff_getElem];obtain⟨hk,e⟩:=List.getElem?_eq_some_iff.1 hx;refine⟨hk,by simp[e],fun j hj=>?_⟩;have:=h j l[j] hj (List.getElem?_eq_getElem (by omega));simpa using this
theorem Az {l:List Int} {r:Int} {k:Nat}(h:o8 l r k) (hk:l.length≤k):d7 l r=none:=by
 unfold d7;rw[List.findIdx?_eq_none_iff];intro x hx;obtain⟨j,hj⟩:=List.mem_iff_getElem?.1 hx;have h1:=(List.getElem?_eq_some_iff.1 hj).1;simpa using h j x (by omega) hj
theorem ai8 (k:Nat) (hk:k<9) (w:World):(Instr.index 9 (.string ⟨#[32,95,45,44,59,58,33,63,46]⟩) (.int .i64 k)).run prog w=.ok (.int .u8 (vsl[k]?.getD 0)) w:=by
 iterate 9 (rcases k with _|k;· kernel_rfl)
 omega
theorem jy {w:World} {B g n:Nat} {cs:Array Value}(es:List El) (hn:es.length=n) (a0:cs=(kt es).toArray) (h:w.heap[g]? = some (.cells cs 111 (0,0))) (hB:B≤g) (hz:n≤maxLen):ah w B (.slice (some ⟨g,0,none⟩) n n) es:=by
 subst a0;subst hn;exact⟨ts es,.inr ⟨g,es.length,_,rfl,hB,h,bR,hz,by simp[ts],by simp[<- ts]⟩⟩
theorem Js (w:World) (es:List El) (n:Nat) (hn:es.length=n) (hz:n≤maxLen) (cs:Array Value) (a0:cs=(kt es).toArray):ah (w.alloc (.cells cs 111)) w.heap.size (.slice (some ⟨w.heap.size,0,none⟩) n n) es :=
 jy es hn a0 (heap_alloc_new w _) bR hz
theorem Iy (r lo hi:Int) (h:lo≤r∧r≤hi) (w:World):Calls prog 34 #[.int .i64 r,.int .i64 lo,.int .i64 hi] w fun e w'=>e=.returned (.bool true)∧w'=w:=by
 obtain⟨h1,h2⟩:=h;go_enter func34,ntmps34;go_wp2;go_ret;exact⟨jj (by simp;try omega),rfl⟩
theorem Nh (r lo hi:Int) (h:¬ (lo≤r∧r≤hi)) (w:World):Calls prog 34 #[.int .i64 r,.int .i64 lo,.int .i64 hi] w fun e w'=>e=.returned (.bool false)∧w'=w:=by
 by_cases h1:lo≤r
 .have h2:¬ r≤hi:=fun h2=>h ⟨h1,h2⟩
  clear h;go_enter func34,ntmps34;go_wp2;go_ret;exact⟨jj (by simp;try omega),rfl⟩
 .clear h
  go_enter func34,ntmps34;go_wp2;go_ret;exact⟨jj (by simp;try omega),rfl⟩
theorem Vt (w:World):Calls prog 135 #[] w fun e w'=>∃ g,e=.returned (.slice (some ⟨g,0,none⟩) 15 15)∧ab w' w.heap.size (.slice (some ⟨g,0,none⟩) 15 15) mkl∧Below w.heap.size w w':=by
 go_enter func135,ntmps135;go_wp2;go_ret;refine⟨_,rfl,?_,bY _⟩;exact⟨by simp[mkl],.inr ⟨w.heap.size,15,_,rfl,bR,heap_alloc_new w _,bR,by unfold maxLen;omega,rfl,rfl⟩⟩
theorem D8 (r:Int) (a6:0≤r) (a7:r≤1114111) (w:World):Calls prog 105 #[.int .i64 r] w fun e w'=>∃ v,e=.returned v∧ah w' w.heap.size v (base r)∧Below w.heap.size w w':=by
 have MK:=fun w=>Vt w
 go_enter func105,ntmps105;go_wp2;go_loop [3] (fun i=>∃ k:Nat,k≤9∧i=.int .i64 k∧Hid (o8 vsl r k)) (fun i=>9-(intOf i).toNat)
 case atStart=>exact⟨0,Nat.zero_le _,rfl,fun j x hj=>by omega⟩
 case round =>
  obtain⟨k,hk,rfl,HN⟩:=hrel;by_cases a0:k<9
  .have hi:=fun w=>ai8 k a0 w
   obtain⟨x,hx⟩:∃ x,vsl[k]? = some x:=⟨_,List.getElem?_eq_getElem (show k<vsl.length from a0)⟩
   have a3:0≤x∧x≤255:=(by decide:∀ y ∈ vsl,0≤y∧y≤255) x (List.mem_of_getElem? hx);rw[hx]at hi;simp only[Option.getD_some]at hi;have a2:(k:Int)<9:=by omega
   have HX:Hid _:=hx;obtain⟨a4,a5⟩:=a3;clear hx MK;by_cases e:x=r
   .subst e
    have HB:Hid (base x=[⟨1+(k:Int),32,2,true⟩]):=by
     show _=_
     unfold base;rw[Cu HN.out HX.out]
    clear HN HX;go_wp2;go_ret;rw[HB.out];exact⟨_,rfl,Js w _ 1 rfl (by unfold maxLen;omega) _ rfl,bY _⟩
   .have e':(x == r)=false:=by simpa using e
    have a1:Hid (o8 vsl r (k+1)):=HN.out.succ HX.out e;clear HN HX e;go_wp2;exact⟨⟨k+1,by omega,by go_num,a1⟩,by simp[intOf];omega⟩
  .have HV:Hid (d7 vsl r=none):=Az HN.out (by show 9≤k;omega)
   clear HN;go_wp2_with fail;refine (MK _).mono ?_;rintro e w1 ⟨g,rfl,hI,hb⟩;clear MK;go_wp2_with fail;go_loop [21] (fun i=>∃ k:Nat,k≤15∧i=.int .i64 k∧Hid (o8 mkl r k)) (fun i=>15-(intOf i).toNat)
   case atStart=>exact⟨0,Nat.zero_le _,rfl,fun j x hj=>by omega⟩
   case round =>
    obtain⟨k,hk,rfl,HN⟩:=hrel;by_cases a0:k<15
    .obtain⟨x,hx⟩:∃ x,mkl[k]? = some x:=⟨_,List.getElem?_eq_getElem (show k<mkl.length from a0)⟩
     have c0:w1.cell? ⟨g,k,none⟩=some (.int .i64 x):=by
      have h3:=World.ownsRow.cellAt (n:=15) hI k (by omega);rw[h3];simp[hx]
     have a2:(k:Int)<15:=by omega
     have HX:Hid _:=hx;clear hx hI;by_cases e:x=r
     .subst e
      have HB:Hid (base x=[⟨0,40+(k:Int),2,false⟩]):=by
       show _=_
       unfold base;rw[HV.out];simp only;rw[Cu HN.out HX.out]
      clear HN HX HV;go_wp2;go_ret;rw[HB.out];exact⟨_,rfl,jy _ rfl rfl (heap_alloc_new w1 _) hb.size (by unfold maxLen;simp),hb.alloc hb.size _⟩
     .have e':(x == r)=false:=by simpa using e
      have a1:Hid (o8 mkl r (k+1)):=HN.out.succ HX.out e;clear HN HX e;go_wp2;exact⟨⟨k+1,by omega,by go_num,a1⟩,by simp[intOf];omega⟩
    .have HB:Hid (base r=gc r):=by
      show _=_
      unfold base;rw[HV.out];simp only;rw[Az HN.out (by show 15≤k;omega)]
     clear HN HV hI;by_cases q0:r<32∨r=127
     .have HR:Hid (base r=[]):=by show _=_;rw[HB.out];unfold gc;rw[if_pos q0]
      clear HB;by_cases q1:r<32
      .clear q0
       go_wp2;go_ret;rw[HR.out];exact⟨_,rfl,⟨rfl,.inl ⟨rfl,rfl⟩⟩,hb⟩
      .have q2:r=127:=by omega
       subst q2;clear q0;go_wp2;go_ret;rw[HR.out];exact⟨_,rfl,⟨rfl,.inl ⟨rfl,rfl⟩⟩,hb⟩
     .have q1:¬ r<32:=fun h=>q0 (.inl h)
      have q2:(r == 127)=false:=by simp;omega
      by_cases d:48≤r∧r≤57
      .have D:=fun w=>Iy r 48 57 d w
       have HR:Hid (base r=[⟨2000+100*(r-48),32,2,false⟩]):=by show _=_;rw[HB.out];unfold gc;rw[if_neg q0,if_pos d]
       clear HB q0;go_wp2_with fail;refine (D _).mono ?_;rintro e w2 ⟨rfl,rfl⟩;clear D;go_wp2;go_ret;rw[HR.out];exact⟨_,rfl,jy _ rfl rfl (heap_alloc_new w2 _) hb.size (by unfold maxLen;simp),hb.alloc hb.size _⟩
      .have D:=fun w=>Nh r 48 57 d w
       by_cases l:97≤r∧r≤122
       .have L:=fun w=>Iy r 97 122 l w
        have HR:Hid (base r=[⟨4000+200*(r-97),32,2,false⟩]):=by show _=_;rw[HB.out];unfold gc;rw[if_neg q0,if_neg d,if_pos l]
        clear HB q0 d;go_wp2_with fail;refine (D _).mono ?_;rintro e w2 ⟨rfl,rfl⟩;go_wp2_with fail;refine (L _).mono ?_;rintro e w2 ⟨rfl,rfl⟩;clear D L;go_wp2;go_ret;rw[HR.out];exact⟨_,rfl,jy _ rfl rfl (heap_alloc_new w2 _) hb.size (by unfold maxLen;simp),hb.alloc hb.size _⟩
       .have L:=fun w=>Nh r 97 122 l w
        by_cases u:65≤r∧r≤90
        .have U:=fun w=>Iy r 65 90 u w
         have HR:Hid (base r=[⟨4000+200*(r-65),32,8,false⟩]):=by show _=_;rw[HB.out];unfold gc;rw[if_neg q0,if_neg d,if_neg l,if_pos u]
         clear HB q0 d l;go_wp2_with fail;refine (D _).mono ?_;rintro e w2 ⟨rfl,rfl⟩;go_wp2_with fail;refine (L _).mono ?_;rintro e w2 ⟨rfl,rfl⟩;go_wp2_with fail;refine (U _).mono ?_;rintro e w2 ⟨rfl,rfl⟩;clear D L U;go_wp2;go_ret;rw[HR.out];exact⟨_,rfl,jy _ rfl rfl (heap_alloc_new w2 _) hb.size (by unfold maxLen;simp),hb.alloc hb.size _⟩
        .have U:=fun w=>Nh r 65 90 u w
         have HR:Hid (base r=[⟨60000+r / 32768,32,2,false⟩,⟨32768+r % 32768,0,0,false⟩]):=by show _=_;rw[HB.out];unfold gc;rw[if_neg q0,if_neg d,if_neg l,if_neg u]
         clear HB q0 d l u;go_wp2_with fail;refine (D _).mono ?_;rintro e w2 ⟨rfl,rfl⟩;go_wp2_with fail;refine (L _).mono ?_;rintro e w2 ⟨rfl,rfl⟩;go_wp2_with fail;refine (U _).mono ?_;rintro e w2 ⟨rfl,rfl⟩;clear D L U;go_wp2;go_ret;rw[HR.out];exact⟨_,rfl,jy _ rfl rfl (heap_alloc_new w2 _) hb.size (by unfold maxLen;simp),hb.alloc hb.size _⟩
def a81:Array Value:=(yw.map (Value.int .i64)).toArray
def ad8:Array Value:=(xq.map (Value.int .i64)).toArray
def pv (t:List Int):Value:=.agg #[.int .i64 (at0 t 0),.int .i64 (at0 t 1),.int .i64 (at0 t 2)]
theorem Y9 (k:Nat) (hk:k<26) (w:World):(Instr.index 295 (.agg a81) (.int .i64 k)).run prog w=.ok (.agg #[.int .i64 (at0 (nz.getD k []) 0),.int .i64 (at0 (nz.getD k []) 1),.int .i64 (at0 (nz.getD k []) 2)]) w:=by
 iterate 26 (rcases k with _|k;· kernel_rfl)
 omega
theorem a10 (k:Nat) (hk:k<5) (w:World):(Instr.index 297 (.agg ad8) (.int .i64 k)).run prog w=.ok (.agg #[.int .i64 (at0 (xr.getD k []) 0),.int .i64 (at0 (xr.getD k []) 1),.int .i64 (at0 (xr.getD k []) 2)]) w:=by
 iterate 5 (rcases k with _|k;· kernel_rfl)
 omega
theorem ah8:∀ k ∈ List.range 26,o5[2*k]? = some [at0 (nz.getD k []) 0,at0 (nz.getD k []) 1,at0 (nz.getD k []) 2]∧o5[2*k+1]? = some [at0 (nz.getD k []) 0+32,at0 (nz.getD k []) 1+32,at0 (nz.getD k []) 2]:=by decide +kernel
theorem ai0:∀ k ∈ List.range 5,o5[52+k]? = some [at0 (xr.getD k []) 0,at0 (xr.getD k []) 1,at0 (xr.getD k []) 2]:=by decide +kernel
theorem Y8:∀ k ∈ List.range 26,(0≤at0 (nz.getD k []) 0∧at0 (nz.getD k []) 0≤300)∧0≤at0 (nz.getD k []) 1∧at0 (nz.getD k []) 1≤300:=by decide +kernel
theorem ah9:o5.length=57:=by decide +kernel
def y7 (p:List Int→Bool) (k:Nat):Prop:=∀ j t,j<k→o5[j]? = some t→p t=false
theorem y7.succ {p:List Int→Bool} {k:Nat} {t:List Int}(h:y7 p k) (ht:o5[k]? = some t) (hp:p t=false):y7 p (k+1):=by
 intro j u hj hu;by_cases e:j=k
 .subst e;rw[ht]at hu;cases hu;exact hp
 .exact h j u (by omega) hu
theorem Fo {p:List Int→Bool} {k:Nat} {t:List Int}(h:y7 p k) (ht:o5[k]? = some t) (hp:p t=true):o5.find? p=some t:=by
 rw[List.find?_eq_some_iff_getElem];obtain⟨hk,e⟩:=List.getElem?_eq_some_iff.1 ht;refine⟨hp,k,hk,e,fun j hj=>?_⟩;have:=h j o5[j] hj (List.getElem?_eq_getElem (by omega));simpa using this
theorem a98 {p:List Int→Bool} {k:Nat}(h:y7 p k) (hk:57≤k):o5.find? p=none:=by
 rw[List.find?_eq_none];intro t ht;obtain⟨j,hj⟩:=List.mem_iff_getElem?.1 ht;have h1:=(List.getElem?_eq_some_iff.1 hj).1;have h2:=ah9;simpa using h j t (by omega) hj
theorem a43 (w:World) (a b c:Int) (ha:0≤a∧a≤300) (hb:0≤b∧b≤300) :
  Calls prog 233 #[.agg #[.int .i64 a,.int .i64 b,.int .i64 c]] w fun e w'=>e=.returned (.agg #[.int .i64 (a+32),.int .i64 (b+32),.int .i64 c])∧Below w.heap.size w w':=by
 have a0:IntKind.i64.wrap (a+32)=a+32:=by rw[IntKind.wrap_i64];omega
 have a1:IntKind.i64.wrap (b+32)=b+32:=by rw[IntKind.wrap_i64];omega
 go_enter func233,ntmps233;go_wp2;refine bodyPost_ret (v:=.agg #[.int .i64 (a+32),.int .i64 (b+32),.int .i64 c]) ?_ rfl ⟨rfl,(bY _).alloc (by simp) _⟩;exact results_cell_row rfl _ _ (w.heap.size+1) 292 _ (0,0) _ rfl (heap_alloc2_new _ _ _) underlying292 rfl (by kernel_rfl)
def qq (o:Option (List Int)):Value:=.tuple #[pv (o.getD []),.bool o.isSome]
theorem Wp {o:Option (List Int)} {a b c:Int}(h:o=some [a,b,c]):Ending.returned (.tuple #[.agg #[.int .i64 a,.int .i64 b,.int .i64 c],.bool true])=.returned (qq o):=by rw[h];rfl
theorem aw1 {o:Option (List Int)}(h:o=none):Ending.returned (.tuple #[.agg #[.int .i64 0,.int .i64 0,.int .i64 0],.bool false])=.returned (qq o):=by rw[h];rfl
def wt (w wr:World):Prop:=wr.heap[w.heap.size]? = some (.cells #[.int .i64 0,.int .i64 0,.int .i64 0] 292)
theorem wt.facts {w wr:World}(h:wt w wr):w.heap.size<wr.heap.size∧wr.cell? ⟨w.heap.size,0,none⟩=some (.int .i64 0)∧wr.cell? ⟨w.heap.size,1,none⟩=some (.int .i64 0)∧wr.cell? ⟨w.heap.size,2,none⟩=some (.int .i64 0)∧∀ j,wr.frozen? ⟨w.heap.size,j,none⟩=false :=
 ⟨(Array.getElem?_eq_some_iff.1 h).1,by simp[World.cell?,show wr.heap[w.heap.size]? = _ from h],by simp[World.cell?,show wr.heap[w.heap.size]? = _ from h],by simp[World.cell?,show wr.heap[w.heap.size]? = _ from h],fun j=>by simp[World.frozen?,show wr.heap[w.heap.size]? = _ from h]⟩
theorem wt.alloc {w wr:World}(h:wt w wr) (o:Obj):wt w (wr.alloc o):=by
 unfold wt;rw[Below.heap_alloc _ _ _ h.facts.1];exact h
theorem wt.below {w wr w':World}(h:wt w wr){B:Nat}(hb:Below B wr w') (hB:wr.heap.size≤B):wt w w':=by
 unfold wt;rw[hb.block _ (Nat.lt_of_lt_of_le h.facts.1 hB)];exact h
theorem od {w wr:World}(h:Below w.heap.size w wr) (x y z:Value):Below w.heap.size w (((wr.setCell ⟨w.heap.size,0,none⟩ x).setCell ⟨w.heap.size,1,none⟩ y).setCell ⟨w.heap.size,2,none⟩ z) :=
 ((h.setCell bR _).setCell bR _).setCell bR _
def Tn (n:Nat) (w:World) (p:List Int→Bool) (m o:Nat) (i:Value) (wr:World):Prop :=
 ∃ k:Nat,k≤n∧i=.int .i64 k∧y7 p (o+m*k)∧Below w.heap.size w wr∧wt w wr
theorem Ne (r:Int) (w:World) (hc:db w 10 yw) (ho:db w 11 xq) :
  Calls prog 232 #[.int .i64 r] w fun e w'=>e=.returned (qq (o5.find? (fun t=>at0 t 0 == r)))∧Below w.heap.size w w':=by
 obtain⟨t,fr,a3⟩:=hc;have aa:=ho.lt;have HO:Hid (db w 11 xq):=ho;have hh:(w.alloc (.cells #[.int .i64 0,.int .i64 0,.int .i64 0] 292)).heap[10]? = some (.cells a81 t fr):=by
  rw[Below.heap_alloc _ _ _ ((Array.getElem?_eq_some_iff.1 a3).1)];exact a3
 clear a3 ho;go_enter func232,ntmps232;go_wp2_with (refine wpList_load_row rfl 295 (.global 10) rfl 10 rfl t a81 fr _ hh underlying295 rfl (by kernel_rfl) ?_)
 clear hh;go_loopw [10] (fun i wr=>Tn 26 w (fun t=>at0 t 0 == r) 2 0 i wr) (fun i _=>26-(intOf i).toNat)
 case atStart=>exact⟨0,Nat.zero_le _,rfl,fun j t hj=>by omega,bY _,heap_alloc_new w _⟩
 case round =>
  obtain⟨k,hk,rfl,a5,hb,a0⟩:=hrel;have HN:Hid (y7 (fun t=>at0 t 0 == r) (0+2*k)):=a5;clear a5;obtain⟨ab,c0,c1,c2,f0⟩:=a0.facts;by_cases a4:k<26
  .have hi:=fun w=>Y9 k a4 w
   have HT:=ah8 k (by simpa using a4);obtain⟨b1,b2⟩:=Y8 k (by simpa using a4);generalize at0 (nz.getD k []) 0=a at *;generalize at0 (nz.getD k []) 1=b at *;generalize at0 (nz.getD k []) 2=c at *;have ae:(k:Int)<26:=by omega
   by_cases e:a=r
   .subst e
    have HF:Hid (o5.find? (fun t=>at0 t 0 == a)=some [a,b,c]):=Fo HN.out (by rw[Nat.zero_add];exact HT.1) (by simp[at0]);clear HN HT a0;go_wp2;(try simp only[Exit.inBlock,Exit.then])
    refine bodyPost_ret (v:=.tuple #[.agg #[.int .i64 a,.int .i64 b,.int .i64 c],.bool true]) ?_ rfl ⟨Wp HF.out,(od hb _ _ _).alloc (od hb _ _ _).size _⟩;rw[results_cell_tmp rfl];go_simp
   .have e2:(a == r)=false:=by simpa using e
    have SM:=fun w=>a43 w a b c b1 b2
    have a2:=HN.out.succ (t:=[a,b,c]) (by rw[Nat.zero_add];exact HT.1) (by simpa [at0] using e);have a6:=HT.2;clear HN HT e c0 c1 c2 f0;go_wp2_with fail;refine (SM _).mono ?_;rintro e w1 ⟨rfl,a8⟩;have a1:=(a0.alloc (.cells #[.int .i64 a,.int .i64 b,.int .i64 c] 292)).below a8 bR;have a7:Below w.heap.size w w1:=(hb.alloc hb.size _).trans (a8.mono (hb.alloc hb.size _).size);obtain⟨af,c0,c1,c2,f0⟩:=a1.facts;clear SM a8 hb a0 ab;by_cases e:a+32=r
    .have HF:Hid (o5.find? (fun t=>at0 t 0 == r)=some [a+32,b+32,c]):=Fo a2 (by rw[Nat.zero_add];exact a6) (by simp[at0,e])
     clear a2 a6 a1;have e3:(a+32 == r)=true:=by simpa using e
     clear e;go_wp2;(try simp only[Exit.inBlock,Exit.then])
     refine bodyPost_ret (v:=.tuple #[.agg #[.int .i64 (a+32),.int .i64 (b+32),.int .i64 c],.bool true]) ?_ rfl ⟨Wp HF.out,(od a7 _ _ _).alloc (od a7 _ _ _).size _⟩;rw[results_cell_tmp rfl];go_simp
    .have e3:(a+32 == r)=false:=by simpa using e
     have ac:=a2.succ (t:=[a+32,b+32,c]) (by rw[Nat.zero_add];exact a6) (by simpa [at0] using e);have HP:Hid (Tn 26 w (fun t=>at0 t 0 == r) 2 0 (.int .i64 ((k:Int)+1)) (w1.alloc (.cells #[.int .i64 (a+32),.int .i64 (b+32),.int .i64 c] 292))) :=
      ⟨k+1,by omega,by go_num,by rw[show 0+2*(k+1)=0+2*k+1+1 by omega];exact ac,a7.alloc a7.size _,a1.alloc _⟩
     clear a2 a6 a1 ac e;go_wp2;exact⟨HP.out,by simp[intOf];omega⟩
  .have a9:k=26:=by omega
   subst a9;obtain⟨t2,ad,a3⟩:=HO.out.below hb aa;have hh:wr.heap[11]? = some (.cells ad8 t2 ad):=a3;clear a3 HO c0 c1 c2 f0;go_wp2_with (refine wpList_load_row rfl 297 (.global 11) rfl 11 rfl t2 ad8 ad _ hh underlying297 rfl (by kernel_rfl) ?_)
   clear hh;go_loopw [27] (fun i wr=>Tn 5 w (fun t=>at0 t 0 == r) 1 52 i wr) (fun i _=>5-(intOf i).toNat)
   case atStart=>exact⟨0,Nat.zero_le _,rfl,HN.out,hb,a0⟩
   case round =>
    clear hb a0 ab HN;obtain⟨k,hk,rfl,a5,hb,a0⟩:=hrel;have HN:Hid (y7 (fun t=>at0 t 0 == r) (52+1*k)):=a5;clear a5;obtain⟨ab,c0,c1,c2,f0⟩:=a0.facts;by_cases a4:k<5
    .have hi:=fun w=>a10 k a4 w
     have HT:=ai0 k (by simpa using a4);generalize at0 (xr.getD k []) 0=a at *;generalize at0 (xr.getD k []) 1=b at *;generalize at0 (xr.getD k []) 2=c at *;have ae:(k:Int)<5:=by omega
     by_cases e:a=r
     .subst e
      have HF:Hid (o5.find? (fun t=>at0 t 0 == a)=some [a,b,c]):=Fo HN.out (by rw[Nat.one_mul];exact HT) (by simp[at0]);clear HN HT a0;go_wp2;(try simp only[Exit.inBlock,Exit.then])
      refine bodyPost_ret (v:=.tuple #[.agg #[.int .i64 a,.int .i64 b,.int .i64 c],.bool true]) ?_ rfl ⟨Wp HF.out,(od hb _ _ _).alloc (od hb _ _ _).size _⟩;rw[results_cell_tmp rfl];go_simp
     .have e2:(a == r)=false:=by simpa using e
      have a2:=HN.out.succ (t:=[a,b,c]) (by rw[Nat.one_mul];exact HT) (by simpa [at0] using e);have HP:Hid (Tn 5 w (fun t=>at0 t 0 == r) 1 52 (.int .i64 ((k:Int)+1)) (wr.alloc (.cells #[.int .i64 a,.int .i64 b,.int .i64 c] 292))) :=
       ⟨k+1,by omega,by go_num,by rw[show 52+1*(k+1)=52+1*k+1 by omega];exact a2,hb.alloc hb.size _,a0.alloc _⟩
      clear HN HT e a2 a0;go_wp2;exact⟨HP.out,by simp[intOf];omega⟩
    .have HF:Hid (o5.find? (fun t=>at0 t 0 == r)=none):=a98 HN.out (by omega)
     clear HN a0;go_wp2;(try simp only[Exit.inBlock,Exit.then])
     refine bodyPost_ret (v:=.tuple #[.agg #[.int .i64 0,.int .i64 0,.int .i64 0],.bool false]) ?_ rfl ⟨aw1 HF.out,?_⟩
     .rw[results_cell_tmp rfl]
      go_simp
     .first|exact od hb _ _ _|exact hb
theorem mi {l:List Int} {r:Int}(h:r ∉ l):d7 l r=none:=by
 unfold d7;rw[List.findIdx?_eq_none_iff];intro x hx;simp only[beq_eq_false_iff_ne];intro e;exact h (e ▸ hx)
theorem ae5 {l:List Int} {r:Int}(h:r ∈ l):∃ i,d7 l r=some i∧i<l.length:=by
 cases e:d7 l r with
 | some i=>exact⟨i,rfl,by unfold d7 at e;exact (List.findIdx?_eq_some_iff_getElem.1 e).1⟩
 | none =>
  unfold d7 at e;have:=List.findIdx?_eq_none_iff.1 e r h;simp at this
def pi (r:Int):Int:=match d7 vsl r with
 | some i=>(i:Int)
 | none=>-1
theorem al6 {r:Int} {i:Nat}(h:d7 vsl r=some i):base r=[⟨1+(i:Int),32,2,true⟩]:=by unfold base;rw[h]
theorem al5 {r:Int} {i:Nat}(h0:d7 vsl r=none) (h:d7 mkl r=some i):base r=[⟨0,40+(i:Int),2,false⟩]:=by unfold base;rw[h0];simp only;rw[h]
theorem tr {r:Int}(h0:d7 vsl r=none) (h:d7 mkl r=none):base r=gc r:=by unfold base;rw[h0];simp only;rw[h]
theorem ru:∀ x ∈ vsl,32≤x∧x≤126∧¬ (48≤x∧x≤57)∧¬ (97≤x∧x≤122)∧¬ (65≤x∧x≤90):=by decide
theorem av2:∀ x ∈ mkl,128≤x:=by decide
theorem a60 {r:Int}(h:¬ (32≤r∧r≤126)):d7 vsl r=none:=mi fun c=>h ⟨(ru r c).1,(ru r c).2.1⟩
theorem Ht {r:Int}(h:r<128):d7 mkl r=none:=mi fun c=>by have:=av2 r c;omega
theorem a70 {r:Int}(_h0:0≤r) (h:r≤31∨r=127):base r=[]:=by
 rw[tr (a60 (by omega)) (Ht (by omega))];unfold gc;rw[if_pos (by omega)]
theorem Gt {r:Int}(h:48≤r∧r≤57):base r=[⟨2000+100*(r-48),32,2,false⟩]:=by
 rw[tr (mi fun c=>(ru r c).2.2.1 h) (Ht (by omega))];unfold gc;rw[if_neg (by omega),if_pos h]
theorem Gu {r:Int}(h:97≤r∧r≤122):base r=[⟨4000+200*(r-97),32,2,false⟩]:=by
 rw[tr (mi fun c=>(ru r c).2.2.2.1 h) (Ht (by omega))];unfold gc;rw[if_neg (by omega),if_neg (by omega),if_pos h]
theorem a69 {r:Int}(h:65≤r∧r≤90):base r=[⟨4000+200*(r-65),32,8,false⟩]:=by
 rw[tr (mi fun c=>(ru r c).2.2.2.2 h) (Ht (by omega))];unfold gc;rw[if_neg (by omega),if_neg (by omega),if_neg (by omega),if_pos h]
theorem a73 {r:Int}(h0:d7 vsl r=none) (h:d7 mkl r=none) (h1:¬ (r≤31∨r=127)) (h2:¬ (48≤r∧r≤57)) (h3:¬ (97≤r∧r≤122)) (h4:¬ (65≤r∧r≤90)):base r=[⟨60000+r / 32768,32,2,false⟩,⟨32768+r % 32768,0,0,false⟩]:=by
 rw[tr h0 h];unfold gc;rw[if_neg (by omega),if_neg h2,if_neg h3,if_neg h4]
end Go.Proofs.YtjbmgghehdemdaaGreatDoor
