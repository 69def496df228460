/- IAlike -/
import Derived.Test.YtjbmgghehdemdaaGreatDoorMT17
namespace Go.Proofs.YtjbmgghehdemdaaGreatDoor
set_option maxRecDepth 100000
set_option maxHeartbeats 16000000
open _root_.Go.Proofs.Tryz
open Go.RowKit
theorem T6 {x y:Int}(h:x=y):Ending.returned (.int .i64 x)=.returned (.int .i64 y):=by rw[h]
def ax3 (a b:List Int) (i:Value):Prop:=∃ k:Nat,k≤a.length∧k≤b.length∧i=.int .i64 k∧∀ j,j<k→a[j]? = b[j]?
theorem Xu (w:World) (g g' c c':Nat) (a b:List Int) (ha:a.length≤1048576) (hb:b.length≤1048576) (a5:∀ x ∈ a,1≤x∧x≤65535) (a6:∀ x ∈ b,1≤x∧x≤65535)
  (h1:∀ j x,a[j]? = some x→w.cell? ⟨g,j,none⟩=some (.int .i64 x)) (h2:∀ j x,b[j]? = some x→w.cell? ⟨g',j,none⟩=some (.int .i64 x)) :
  Calls prog 64 #[.slice (some ⟨g,0,none⟩) a.length c,.slice (some ⟨g',0,none⟩) b.length c'] w fun e w'=>e=.returned (.int .i64 (iz a b))∧∃ n,w'=w.drewN n:=by
 have a7:Hid (∀ x ∈ a,1≤x∧x≤65535):=a5;have a8:Hid (∀ x ∈ b,1≤x∧x≤65535):=a6;have H1:Hid _:=h1;have H2:Hid _:=h2;clear a5 a6 h1 h2;rcases Nat.lt_or_ge a.length b.length with hab|hab;all_goals
  have a3:(a.length:Int)<(b.length:Int)∨(b.length:Int)≤(a.length:Int):=by omega
  clear a3;go_enter func64,ntmps64;go_wp2;all_goals
   go_loopw [14] (fun i wr=>ax3 a b i∧∃ n,wr=w.drewN n) (fun i _=>a.length-(intOf i).toNat)
   case atStart=>exact⟨⟨0,Nat.zero_le _,Nat.zero_le _,rfl,fun j hj=>by omega⟩,0,rfl⟩
   case round =>
    obtain⟨⟨k,ag,ah,rfl,a0⟩,n0,rfl⟩:=hrel;have HS:Hid (∀ j,j<k→a[j]? = b[j]?):=a0;clear a0;by_cases ad:k<a.length∧k<b.length
    .obtain⟨hla,hlb⟩:=ad
     obtain⟨x,hx⟩:∃ x,a[k]? = some x:=⟨_,List.getElem?_eq_getElem hla⟩
     obtain⟨y,hy⟩:∃ y,b[k]? = some y:=⟨_,List.getElem?_eq_getElem hlb⟩
     have c0:=H1.out k x hx;have c1:=H2.out k y hy;have ae:=a7.out x (List.mem_of_getElem? hx);have af:=a8.out y (List.mem_of_getElem? hy);have ab:(k:Int)<(a.length:Int):=by omega
     have ac:(k:Int)<(b.length:Int):=by omega
     have a4:(FloatKind.f64.format.order (floatOfInt .f64 x) (floatOfInt .f64 y) != some .eq)=!decide (x=y):=congrArg (fun b=>!b) (ad1 ae af);have HX:Hid (a[k]? = some x∧b[k]? = some y):=⟨hx,hy⟩;clear hx hy;by_cases a1:x=y
     .rw[decide_eq_true a1,Bool.not_true]at a4
      have a9:Hid (∀ j,j<k+1→a[j]? = b[j]?):=fun j hj=>by
       by_cases c:j=k
       .subst c;rw[HX.out.1,HX.out.2,a1]
       .exact HS.out j (by omega)
      clear a1 HX HS;go_wp2_with fail;go_quiet (fail)
      go_wp2;exact⟨⟨⟨k+1,by omega,by omega,by go_num,a9.out⟩,n0+nq,rfl⟩,by simp[intOf];omega⟩
     .rw[decide_eq_false a1,Bool.not_false]at a4
      have HF:Hid (iz a b=k):=Lx a b k x y HS.out HX.out.1 HX.out.2 a1;clear a1 HX HS;go_wp2_with fail;go_quiet (fail)
      go_wp2;go_ret;rw[HF.out];exact⟨rfl,n0+nq,rfl⟩
    .have a2:iz a b=k:=by
      have:=Jc a b (fun j hj=>HS.out j (by omega));omega
     have HF:Hid (iz a b=k):=a2;clear a2 HS;have aa:(k=a.length∧a.length<b.length)∨(k=b.length∧b.length≤a.length):=by omega
     rcases aa with ⟨rfl,hq⟩|⟨rfl,hq⟩;all_goals
      first
       | (exfalso;omega)
       | (
         go_wp2;go_ret;rw[HF.out];exact⟨T6 (by omega),n0,rfl⟩)
theorem Gk (w:World) (a b:Option Addr) (c d:Nat) (l l':List Int) (h:l=[]∨l'=[]) :
  Calls prog 64 #[.slice a l.length c,.slice b l'.length d] w fun e w'=>e=.returned (.int .i64 (iz l l'))∧∃ n,w'=w.drewN n:=by
 have HA:Hid (iz l l'=0):=by
  show _=_
  rcases h with rfl|rfl
  .simp[iz]
  .cases l <;> simp[iz]
 rw[HA.out];have hn:(l.length=0∧(l.length:Int)≤(l'.length:Int))∨(l'.length=0∧(l'.length:Int)<(l.length:Int))∨(l'.length=0∧l.length=0):=by
  rcases h with rfl|rfl
  .left;simp
  .by_cases c:l.length=0
   .right;right;exact⟨rfl,c⟩
   .right;left;exact⟨rfl,by simp;omega⟩
 generalize l.length=n at *;generalize l'.length=m at *;clear h HA;go_enter func64,ntmps64;go_wp2;all_goals
  go_loop [14] (fun i=>i=.int .i64 0) (fun _=>0)
  case atStart=>rfl
  case round =>
   subst hrel;have h0:¬ (0:Int)<(n:Int)∨¬ (0:Int)<(m:Int):=by omega
   have hz:(n=0∨m=0):=by omega
   rcases hn with ⟨rfl,hq⟩|⟨rfl,hq⟩|⟨rfl,rfl⟩;all_goals
    first
     | (exfalso;omega)
     | (
       go_wp2;go_ret;exact⟨T6 (by omega),0,rfl⟩)
theorem Xt {w:World} {B B':Nat} {va vb:Value} {a b:List Int}(ha:a.length≤1048576) (hb:b.length≤1048576) (a0:∀ x ∈ a,1≤x∧x≤65535) (a1:∀ x ∈ b,1≤x∧x≤65535) (h1:ab w B va a) (h2:ab w B' vb b) :
  Calls prog 64 #[va,vb] w fun e w'=>e=.returned (.int .i64 (iz a b))∧∃ n,w'=w.drewN n:=by
 rcases h1.form with ⟨rfl,rfl⟩|⟨g,c,rfl,_,_⟩
 .obtain⟨b2,d2,rfl⟩:∃ b2 d2,vb=.slice b2 b.length d2:=by
   rcases h2.form with ⟨rfl,rfl⟩|⟨g,c,rfl,_,_⟩
   .exact⟨_,_,rfl⟩
   .exact⟨_,_,rfl⟩
  exact Gk w none b2 0 d2 [] b (.inl rfl)
 .rcases h2.form with ⟨rfl,rfl⟩|⟨g',c',rfl,_,_⟩
  .exact Gk w (some ⟨g,0,none⟩) none c 0 a [] (.inr rfl)
  .exact Xu w g g' c c' a b ha hb a0 a1 (fun j x hx=>by have:=h1.cell j (List.getElem?_eq_some_iff.1 hx).1;rw[hx]at this;exact this) (fun j x hx=>by have:=h2.cell j (List.getElem?_eq_some_iff.1 hx).1;rw[hx]at this;exact this)
theorem Bo {w:World} {B:Nat} {ve:Value} {es:List Ent} {sh:Bool} {lv:Int}(x:ByteArray) (hx:x.size≤1048576) (y:ByteArray) (hy:y.size≤1048576) (hE:ac w B ve es) (hr:∀ e ∈ es,e.runes.length≤1048576) (ht:dr w) :
  Calls prog 26 #[.agg #[ve,.bool sh,.int .i64 lv],.string x,.string y] w fun e w'=>e=.returned (.tuple #[.bool (ww es sh lv x y),.bool (okE es lv x && okE es lv y)])∧Below w.heap.size w w':=by
 obtain⟨va,vc,rfl⟩:=(show ∃ a c,ve=.slice a es.length c by
  rcases hE.form with ⟨rfl,rfl⟩|⟨_,_,rfl,_,_,_,_⟩
  .exact⟨_,_,rfl⟩
  .exact⟨_,_,rfl⟩)
 have a6:Below w.heap.size w (w.alloc (.cells #[.slice va es.length vc,.bool sh,.int .i64 lv] 56)):=bY _;have a5:mm (w.alloc (.cells #[.slice va es.length vc,.bool sh,.int .i64 lv] 56)) w.heap.size (.slice va es.length vc) sh lv:=heap_alloc_new w _;have a8:w.heap.size<(w.alloc (.cells #[.slice va es.length vc,.bool sh,.int .i64 lv] 56)).heap.size:=by simp
 have KX:=zu (sh:=sh) (lv:=lv) x hx (hE.below a6) hr (ht.below a6);have KY:=fun (u:World) (hu:Below w.heap.size w u)=>zu (sh:=sh) (lv:=lv) y hy (hE.below hu) hr (ht.below hu)
 have a3:Hid _:=a6;have a7:Hid (mm _ _ _ _ _):=a5;have af:=Jw es sh lv x;have ag:=Jw es sh lv y;have ad:=Jx es sh lv x;have ae:=Jx es sh lv y;unfold ww;generalize rf es sh lv x=fa at *;generalize rf es sh lv y=fb at *;generalize okE es lv x=oa at *;generalize okE es lv y=ob at *;clear hE hr a6 a5 ht
 cases oa
 .rw[Bool.false_and,if_neg (by simp)]
  all_goals
   go_enter func26,ntmps26;go_wp2_with fail;refine KX.mono ?_;rintro e w1 ⟨v1,rfl,i1,b1⟩;have a0:=a3.out.trans (b1.mono a3.out.size);have K2:=KY _ a0;obtain⟨c0,c1,c2⟩:=(a7.out.below b1 a8).cells;have H1:Hid (ab _ _ _ _):=i1;obtain⟨a1,k1,rfl⟩:=jq i1;clear KX KY b1 i1;go_wp2_with fail;refine K2.mono ?_;rintro e w2 ⟨v2,rfl,i2,b2⟩;have a4:=a0.trans (b2.mono a0.size);have j1:=H1.out.below b2;obtain⟨a2,k2,rfl⟩:=jq i2;clear K2 c0 c1 c2 b2 a0 H1;clear i2 j1;go_wp2;go_ret2;exact⟨rfl,a4⟩
 .cases ob
  .rw[Bool.and_false,if_neg (by simp)]
   go_enter func26,ntmps26;go_wp2_with fail;refine KX.mono ?_;rintro e w1 ⟨v1,rfl,i1,b1⟩;have a0:=a3.out.trans (b1.mono a3.out.size);have K2:=KY _ a0;obtain⟨c0,c1,c2⟩:=(a7.out.below b1 a8).cells;have H1:Hid (ab _ _ _ _):=i1;obtain⟨a1,k1,rfl⟩:=jq i1;clear KX KY b1 i1;go_wp2_with fail;refine K2.mono ?_;rintro e w2 ⟨v2,rfl,i2,b2⟩;have a4:=a0.trans (b2.mono a0.size);have j1:=H1.out.below b2;obtain⟨a2,k2,rfl⟩:=jq i2;clear K2 c0 c1 c2 b2 a0 H1;clear i2 j1;go_wp2;go_ret2;exact⟨rfl,a4⟩
  .rw[Bool.and_true,if_pos rfl]
   go_enter func26,ntmps26;go_wp2_with fail;refine KX.mono ?_;rintro e w1 ⟨v1,rfl,i1,b1⟩;have a0:=a3.out.trans (b1.mono a3.out.size);have K2:=KY _ a0;obtain⟨c0,c1,c2⟩:=(a7.out.below b1 a8).cells;have H1:Hid (ab _ _ _ _):=i1;obtain⟨a1,k1,rfl⟩:=jq i1;clear KX KY b1 i1;go_wp2_with fail;refine K2.mono ?_;rintro e w2 ⟨v2,rfl,i2,b2⟩;have a4:=a0.trans (b2.mono a0.size);have j1:=H1.out.below b2;obtain⟨a2,k2,rfl⟩:=jq i2;clear K2 c0 c1 c2 b2 a0 H1;have AL:=Xt (by omega) (by omega) ad ae j1 i2;clear i2 j1;go_wp2_with fail;refine AL.mono ?_;rintro e w3 ⟨rfl,n3,a9⟩;have aa:Below w.heap.size w w3:=by rw[a9];exact below_drewN a4 n3
   clear AL a9;have HD:Hid (((iz fa fb:Int) == (fb.length:Int))=decide (iz fa fb=fb.length)):=by
    show _=_
    by_cases h:iz fa fb=fb.length
    .rw[h];simp
    .rw[decide_eq_false h];simp;omega
   go_wp2;go_ret2;rw[Gv,<- HD.out];exact⟨rfl,aa⟩
theorem ao6 (a:ByteArray) (w:World):Calls prog 109 #[.string a] w fun e w'=>e=.returned (.bool false)∧w'=w:=by
 have h:(a.toList == a.toList)=true:=by simp
 go_enter func109,ntmps109;go_wp2;go_ret;exact⟨rfl,rfl⟩
theorem Qa (ka kb:ByteArray) (w:World):Calls prog 61 #[.string ka,.string kb] w fun e w'=>e=.returned (.int .i64 (mp ka kb))∧w'=w:=by
 have N:=fun a w=>ao6 a w
 cases hlt:Op.bytesLess ka.toList kb.toList
 .cases heq:(ka.toList == kb.toList)
  .have HV:Hid (mp ka kb=1):=by show _=_;simp[mp,ltS,gtS,eqS,hlt,heq]
   rw[HV.out];go_enter func61,ntmps61;go_wp2_with (go_at_call 109;refine (N _ _).mono ?_;rintro e w' ⟨rfl,rfl⟩)
   go_ret;exact⟨rfl,rfl⟩
  .have HV:Hid (mp ka kb=0):=by show _=_;simp[mp,ltS,gtS,eqS,hlt,heq]
   rw[HV.out];go_enter func61,ntmps61;go_wp2_with (go_at_call 109;refine (N _ _).mono ?_;rintro e w' ⟨rfl,rfl⟩)
   go_ret;exact⟨rfl,rfl⟩
 .have HV:Hid (mp ka kb=-1):=by show _=_;simp[mp,ltS,hlt]
  rw[HV.out];go_enter func61,ntmps61;go_wp2_with (go_at_call 109;refine (N _ _).mono ?_;rintro e w' ⟨rfl,rfl⟩)
  go_ret;exact⟨rfl,rfl⟩
theorem Ep {w:World} {B:Nat} {ve:Value} {es:List Ent} {sh:Bool} {lv:Int}(x:ByteArray) (hx:x.size≤1048576) (y:ByteArray) (hy:y.size≤1048576) (hE:ac w B ve es) (hr:∀ e ∈ es,e.runes.length≤1048576) (ht:dr w) :
  Calls prog 24 #[.agg #[ve,.bool sh,.int .i64 lv],.string x,.string y] w fun e w'=>e=.returned (.tuple #[.int .i64 (U4 es sh lv x y),.bool (okE es lv x && okE es lv y)])∧Below w.heap.size w w':=by
 obtain⟨va,vc,rfl⟩:=(show ∃ a c,ve=.slice a es.length c by
  rcases hE.form with ⟨rfl,rfl⟩|⟨_,_,rfl,_,_,_,_⟩
  .exact⟨_,_,rfl⟩
  .exact⟨_,_,rfl⟩)
 have a4:Below w.heap.size w (w.alloc (.cells #[.slice va es.length vc,.bool sh,.int .i64 lv] 56)):=bY _;have a3:mm (w.alloc (.cells #[.slice va es.length vc,.bool sh,.int .i64 lv] 56)) w.heap.size (.slice va es.length vc) sh lv:=heap_alloc_new w _;have a6:w.heap.size<(w.alloc (.cells #[.slice va es.length vc,.bool sh,.int .i64 lv] 56)).heap.size:=by simp
 have KX:=t7 (sh:=sh) (lv:=lv) x hx (hE.below a4) hr (ht.below a4);have KY:=fun (u:World) (hu:Below w.heap.size w u)=>t7 (sh:=sh) (lv:=lv) y hy (hE.below hu) hr (ht.below hu)
 have a1:Hid _:=a4;have a5:Hid (mm _ _ _ _ _):=a3;unfold U4;generalize qf es sh lv x=ka at *;generalize qf es sh lv y=kb at *;generalize okE es lv x=oa at *;generalize okE es lv y=ob at *;clear hE hr a4 a3 ht
 cases oa
 .rw[Bool.false_and,if_neg (by simp)]
  go_enter func24,ntmps24;go_wp2_with fail;refine KX.mono ?_;rintro e w1 ⟨rfl,b1⟩;have a0:=a1.out.trans (b1.mono a1.out.size);have K2:=KY _ a0;obtain⟨c0,c1,c2⟩:=(a5.out.below b1 a6).cells;clear KX KY b1;go_wp2_with fail;refine K2.mono ?_;rintro e w2 ⟨rfl,b2⟩;have a2:=a0.trans (b2.mono a0.size);clear K2 c0 c1 c2 b2 a0;go_wp2;go_ret2;exact⟨rfl,a2⟩
 .cases ob
  .rw[Bool.and_false,if_neg (by simp)]
   go_enter func24,ntmps24;go_wp2_with fail;refine KX.mono ?_;rintro e w1 ⟨rfl,b1⟩;have a0:=a1.out.trans (b1.mono a1.out.size);have K2:=KY _ a0;obtain⟨c0,c1,c2⟩:=(a5.out.below b1 a6).cells;clear KX KY b1;go_wp2_with fail;refine K2.mono ?_;rintro e w2 ⟨rfl,b2⟩;have a2:=a0.trans (b2.mono a0.size);clear K2 c0 c1 c2 b2 a0;go_wp2;go_ret2;exact⟨rfl,a2⟩
  .rw[Bool.and_true,if_pos rfl]
   go_enter func24,ntmps24;go_wp2_with fail;refine KX.mono ?_;rintro e w1 ⟨rfl,b1⟩;have a0:=a1.out.trans (b1.mono a1.out.size);have K2:=KY _ a0;obtain⟨c0,c1,c2⟩:=(a5.out.below b1 a6).cells;clear KX KY b1;go_wp2_with fail;refine K2.mono ?_;rintro e w2 ⟨rfl,b2⟩;have a2:=a0.trans (b2.mono a0.size);clear K2 c0 c1 c2 b2 a0;have CM:=Qa ka kb w2;go_wp2_with fail;refine CM.mono ?_;rintro e w3 ⟨rfl,a7⟩;obtain rfl:w2=w3:=a7.symm;clear CM;go_wp2;go_ret2;exact⟨rfl,a2⟩
end Go.Proofs.YtjbmgghehdemdaaGreatDoor
