/- SAll -/
import Derived.Test.YtjbmgghehdemdaaGreatDoorMT3
import Derived.Test.YtjbmgghehdemdaaGreatDoorMT4
import Derived.Test.YtjbmgghehdemdaaGreatDoorMT7
namespace Go.Proofs.YtjbmgghehdemdaaGreatDoor
set_option maxRecDepth 100000
set_option maxHeartbeats 16000000
open _root_.Go.Proofs.Tryz
open Go.RowKit
theorem wj (n:Nat) (r:Int):1≤(full n r).length:=by
 induction n generalizing r with
 | zero=>simp[full]
 | succ n ih =>
  by_cases h:apart r=[r]
  .rw[og h];simp
  .rw[wi h]
   have h1:=(tm r).1
   cases ha:apart r with
   | nil=>rw[ha]at h1;simp at h1
   | cons x l=>simp only[List.flatMap_cons,List.length_append];have:=ih x;omega
theorem Dc {f:Int→List Int} {zs:List Int} {k:Nat} {x:Int}(h:zs[k]? = some x):(zs.take (k+1)).flatMap f=(zs.take k).flatMap f++f x:=by
 rw[List.take_add_one,h];simp[List.flatMap_append]
theorem uw {f:Int→List Int} {n:Nat}(zs:List Int) (k:Nat) (h:∀ x,(f x).length≤n):((zs.take k).flatMap f).length≤zs.length*n:=by
 have h1:=pr f n (zs.take k) h;have h2:(zs.take k).length≤zs.length:=by simp;omega
 exact Nat.le_trans h1 (Nat.mul_le_mul_right _ h2)
theorem jr {w:World} {B:Nat} {v:Value} {zs:List Int}(h:ab w B v zs) (hz:1≤zs.length):∃ g cap,v=.slice (some ⟨g,0,none⟩) zs.length cap:=by
 rcases h.form with ⟨_,rfl⟩|⟨g,cap,rfl,_,_⟩
 .simp at hz
 .exact⟨g,cap,rfl⟩
theorem ji {w:World} {B g cap:Nat} {zs:List Int}(h:ab w B (.slice (some ⟨g,0,none⟩) zs.length cap) zs) (j:Nat) (x:Int) (hj:zs[j]? = some x):w.cell? ⟨g,j,none⟩=some (.int .i64 x):=by
 have h1:=(List.getElem?_eq_some_iff.1 hj).1;have:=h.cell j h1;rw[hj]at this;exact this
theorem J0 {w:World} {B g cap:Nat} {zs:List Int}(h:ab w B (.slice (some ⟨g,0,none⟩) zs.length cap) zs):∀ j u,(zs.map (Value.int .i64))[j]? = some u→w.cell? ((⟨g,0,none⟩:Addr).add j)=some u:=by
 intro j u hu;rw[List.getElem?_map,Option.map_eq_some_iff]at hu;obtain⟨y,hy,rfl⟩:=hu;rw[show (⟨g,0,none⟩:Addr).add j=⟨g,j,none⟩ by unfold Addr.add;split <;> simp_all];exact ji h j y hy
theorem R4 {w:World} {B g cap:Nat} {xs ys:List Int}(h:w.ownsRow B 3 1 (.slice (some ⟨g,0,none⟩) (xs.length+ys.length) cap) (xs.length+ys.length) (xs.map (Value.int .i64)++ys.map (Value.int .i64))) :
  ab w B (.slice (some ⟨g,0,none⟩) (xs.length+ys.length) cap) (xs++ys):=by
 unfold ab;rw[List.length_append,List.map_append];exact h
def Tl (w1:World) (f:Int→List Int) (ls:List Int) (out i:Value) (wr:World):Prop :=
 ∃ k:Nat,k≤ls.length∧i=.int .i64 k∧ab wr w1.heap.size out ((ls.take k).flatMap f)∧Below w1.heap.size w1 wr
theorem Cc {w1 w2 w3 wr:World} {f:Int→List Int} {ls:List Int} {k:Nat} {x:Int} {out:Value} {g cap n m:Nat}(hk:k<ls.length) (hx:ls[k]? = some x) (hn:((ls.take k).flatMap f).length=n) (hm:(f x).length=m)
  (hb:Below w1.heap.size w1 wr) (a1:Below wr.heap.size wr w2) (ho:ab w2 w1.heap.size out ((ls.take k).flatMap f)) (a2:w2.grownBy w3 out.ownBlock)
  (a0:w3.ownsRow w1.heap.size 3 1 (.slice (some ⟨g,0,none⟩) (n+m) cap) (n+m) (((ls.take k).flatMap f).map (Value.int .i64)++(f x).map (Value.int .i64))) :
  Tl w1 f ls (.slice (some ⟨g,0,none⟩) (n+m) cap) (.int .i64 ((k:Int)+1)) w3:=by
 subst hn;subst hm;refine⟨k+1,hk,by go_num,?_,Below.grown (hb.trans (a1.mono hb.size)) a2 (Nat.le_trans hb.size a1.size) (fun j hj=>(World.ownsRow.lt ho j hj).1)⟩;rw[Dc hx];exact R4 a0
theorem Ly (n:Nat) (r:Int) (w:World) (h:apart r=[r]):Calls prog 91 #[.int .i64 r] w fun e w'=>∃ v,e=.returned v∧ab w' w.heap.size v (full n r)∧Below w.heap.size w w':=by
 have A:=Jd w r;rw[og h];rw[h]at A;clear h;go_enter func91,ntmps91;go_wp2_with fail;refine A.mono ?_;rintro e w1 ⟨v,rfl,hI,hb⟩;obtain⟨g,cap,rfl⟩:=jr hI (by simp);have c0:=ji hI 0 r rfl;simp only[List.length_cons,List.length_nil]at hI;clear A;go_wp2;go_ret;exact⟨_,rfl,hI,hb⟩
theorem b03 (n:Nat) (aq:n≤2):∀ (r:Int) (w:World),qg n r=true→Calls prog 91 #[.int .i64 r] w fun e w'=>∃ v,e=.returned v∧ab w' w.heap.size v (full n r)∧Below w.heap.size w w':=by
 induction n with
 | zero=>exact fun r w h=>Ly 0 r w (Kh h)
 | succ n ih0 =>
  intro r w a5;have ih:=ih0 (by omega);by_cases hl:apart r=[r]
  .exact Ly _ r w hl
  .have ae:=(Kg a5).resolve_left hl
   have A:=Jd w r;have am:=tm r;have HF:Hid (full (n+1) r=(apart r).flatMap (full n)):=wi hl;have IH:Hid (∀ x ∈ apart r,∀ w,Calls prog 91 #[.int .i64 x] w fun e w'=>∃ v,e=.returned v∧ab w' w.heap.size v (full n x)∧Below w.heap.size w w'):=fun x hx w=>ih x w (ae x hx)
   clear ih ih0 a5 ae;generalize apart r=ls at *;obtain⟨i0,hi,ah,af,ag⟩:=info_parts dv;have HL:Hid (∀ x,(full n x).length≤9):=fun x=>Nat.le_trans (Fp n x) (Nat.le_trans (Nat.pow_le_pow_right (by omega) (show n≤2 by omega)) (by decide))
   have HB:Hid (∀ k,((ls.take k).flatMap (full n)).length≤27):=fun k=>Nat.le_trans (uw ls k HL.out) (by omega)
   obtain⟨an,ao⟩:=am;by_cases h1:ls.length=1
   .obtain⟨y,hy⟩:∃ y,ls[0]? = some y:=⟨_,List.getElem?_eq_getElem (by omega)⟩
    have ar:(y == r)=false:=by
     simp only[beq_eq_false_iff_ne,ne_eq];intro e;subst e;apply hl
     match ls,h1,hy with
     | [z],_,hy=>simp at hy;rw[hy]
    have ai:((ls.length:Int) == 1)=true:=by simp;omega
    have aj:(0:Int)<(ls.length:Int):=by omega
    clear hl;go_enter func91,ntmps91;go_wp2_with fail;refine A.mono ?_;rintro e w1 ⟨v,rfl,hI,hb⟩;obtain⟨g,cap,rfl⟩:=jr hI (by omega);have c0:=ji hI 0 y hy;clear A hy h1;go_wp2_with fail;go_loopw [4,22] (fun out i wr=>Tl w1 (full n) ls out i wr) (fun _ i _=>ls.length-(intOf i).toNat)
    case atStart=>exact⟨0,Nat.zero_le _,rfl,⟨rfl,.inl ⟨rfl,rfl⟩⟩,bX⟩
    case round =>
     obtain⟨k,hk,rfl,ho,hbr⟩:=hrel;by_cases a6:k<ls.length
     .obtain⟨x,hx⟩:∃ x,ls[k]? = some x:=⟨_,List.getElem?_eq_getElem a6⟩
      have c1:=ji (hI.below hbr) k x hx;have CA:=IH.out x (List.mem_of_getElem? hx) wr;obtain⟨N,hN⟩:∃ N,((ls.take k).flatMap (full n)).length=N:=⟨_,rfl⟩
      have al:N≤27:=by rw[<- hN];exact HB.out k
      have a7:Hid _:=hx;have HN:Hid _:=hN;clear hx hN;go_wp2_with fail;refine CA.mono ?_;rintro e w2 ⟨vx,rfl,a4,a0⟩;obtain⟨gx,a1,rfl⟩:=jr a4 (wj n x);have a2:=ho.below a0;unfold ab at a2;rw[HN.out]at a2;have news:=J0 a4;obtain⟨M,hM⟩:∃ M,(full n x).length=M:=⟨_,rfl⟩
      have ak:1≤M∧M≤9:=by rw[<- hM];exact⟨wj n x,HL.out x⟩
      rw[hM];have HM:Hid _:=hM;have ad:=Nat.le_trans hbr.size a0.size;clear CA c1 hM;go_wp2_with (at_builtin;refine wpList_append_lies _ rfl _ _ 39 rfl w1.heap.size 3 i0 (.int .i64 0) 1 8 underlying39 hi ah af ag rfl (by decide) _ N _ rfl a2 ⟨gx,0,none⟩ M a1 ((full n x).map (Value.int .i64)) rfl (by rw[List.length_map,HM.out,Nat.mul_one]) news (fun u hu=>by obtain⟨y,_,rfl⟩:=List.mem_map.1 hu;rfl) (by omega) (by unfold maxLen;omega) (by omega) ad w2.heap.size rfl ?_;intro g' a8 w3 a3 a9 ap ac)
      exact⟨Cc a6 a7.out HN.out HM.out hbr a0 (ho.below a0) a9 a3,by simp[intOf];omega⟩
     .have aa:k=ls.length:=by omega
      subst aa;rw[List.take_length]at ho;go_wp2;go_ret;rw[HF.out];exact⟨_,rfl,fe ho hb.size,hb.trans (hbr.mono hb.size)⟩
   .have ai:((ls.length:Int) == 1)=false:=by simp;omega
    clear hl h1;go_enter func91,ntmps91;go_wp2_with fail;refine A.mono ?_;rintro e w1 ⟨v,rfl,hI,hb⟩;obtain⟨g,cap,rfl⟩:=jr hI (by omega);clear A;go_wp2_with fail;go_loopw [4,22] (fun out i wr=>Tl w1 (full n) ls out i wr) (fun _ i _=>ls.length-(intOf i).toNat)
    case atStart=>exact⟨0,Nat.zero_le _,rfl,⟨rfl,.inl ⟨rfl,rfl⟩⟩,bX⟩
    case round =>
     obtain⟨k,hk,rfl,ho,hbr⟩:=hrel;by_cases a6:k<ls.length
     .obtain⟨x,hx⟩:∃ x,ls[k]? = some x:=⟨_,List.getElem?_eq_getElem a6⟩
      have c1:=ji (hI.below hbr) k x hx;have CA:=IH.out x (List.mem_of_getElem? hx) wr;obtain⟨N,hN⟩:∃ N,((ls.take k).flatMap (full n)).length=N:=⟨_,rfl⟩
      have al:N≤27:=by rw[<- hN];exact HB.out k
      have a7:Hid _:=hx;have HN:Hid _:=hN;clear hx hN;go_wp2_with fail;refine CA.mono ?_;rintro e w2 ⟨vx,rfl,a4,a0⟩;obtain⟨gx,a1,rfl⟩:=jr a4 (wj n x);have a2:=ho.below a0;unfold ab at a2;rw[HN.out]at a2;have news:=J0 a4;obtain⟨M,hM⟩:∃ M,(full n x).length=M:=⟨_,rfl⟩
      have ak:1≤M∧M≤9:=by rw[<- hM];exact⟨wj n x,HL.out x⟩
      rw[hM];have HM:Hid _:=hM;have ad:=Nat.le_trans hbr.size a0.size;clear CA c1 hM;go_wp2_with (at_builtin;refine wpList_append_lies _ rfl _ _ 39 rfl w1.heap.size 3 i0 (.int .i64 0) 1 8 underlying39 hi ah af ag rfl (by decide) _ N _ rfl a2 ⟨gx,0,none⟩ M a1 ((full n x).map (Value.int .i64)) rfl (by rw[List.length_map,HM.out,Nat.mul_one]) news (fun u hu=>by obtain⟨y,_,rfl⟩:=List.mem_map.1 hu;rfl) (by omega) (by unfold maxLen;omega) (by omega) ad w2.heap.size rfl ?_;intro g' a8 w3 a3 a9 ap ac)
      exact⟨Cc a6 a7.out HN.out HM.out hbr a0 (ho.below a0) a9 a3,by simp[intOf];omega⟩
     .have aa:k=ls.length:=by omega
      subst aa;rw[List.take_length]at ho;go_wp2;go_ret;rw[HF.out];exact⟨_,rfl,fe ho hb.size,hb.trans (hbr.mono hb.size)⟩
theorem al0 (r:Int) (w:World):Calls prog 91 #[.int .i64 r] w fun e w'=>∃ v,e=.returned v∧ab w' w.heap.size v (kw r)∧Below w.heap.size w w':=b03 2 bR r w (au9 r)
theorem as6 (w:World) (a:Option Addr) (c:Nat):Calls prog 41 #[.slice a 0 c] w fun e w'=>∃ v,e=.returned v∧ab w' w.heap.size v []∧Below w.heap.size w w':=by
 have R:Calls prog 92 #[.slice none 0 0] w fun e w'=>∃ v',e=.returned v'∧ab w' w.heap.size v' []∧Below w.heap.size w w':=Pd w
 go_enter func41,ntmps41;go_wp2;go_loop [3,8] (fun o i=>o=.slice none 0 0∧i=.int .i64 0) (fun _ _=>0)
 case atStart=>exact⟨rfl,rfl⟩
 case round =>
  obtain⟨rfl,rfl⟩:=hrel;go_wp2_with fail;refine R.mono ?_;rintro e w1 ⟨v,rfl,h1,h2⟩;clear R;go_wp2;go_ret;exact⟨_,rfl,h1,h2⟩
theorem b07 (w:World) (B g cap:Nat) (zs:List Int) (hz:zs.length≤200) (hI:ab w B (.slice (some ⟨g,0,none⟩) zs.length cap) zs) :
  Calls prog 41 #[.slice (some ⟨g,0,none⟩) zs.length cap] w fun e w'=>∃ v,e=.returned v∧ab w' w.heap.size v (nD zs)∧Below w.heap.size w w':=by
 obtain⟨i0,hi,af,ad,ae⟩:=info_parts dv;have HB:Hid (∀ k,((zs.take k).flatMap kw).length≤1800):=fun k=>Nat.le_trans (uw zs k wv) (by omega)
 go_enter func41,ntmps41;go_wp2;go_loopw [3,8] (fun out i wr=>Tl w kw zs out i wr) (fun _ i _=>zs.length-(intOf i).toNat)
 case atStart=>exact⟨0,Nat.zero_le _,rfl,⟨rfl,.inl ⟨rfl,rfl⟩⟩,bX⟩
 case round =>
  obtain⟨k,hk,rfl,ho,hbr⟩:=hrel;by_cases a5:k<zs.length
  .obtain⟨x,hx⟩:∃ x,zs[k]? = some x:=⟨_,List.getElem?_eq_getElem a5⟩
   have c1:=ji (hI.below hbr) k x hx;have CA:=al0 x wr;obtain⟨N,hN⟩:∃ N,((zs.take k).flatMap kw).length=N:=⟨_,rfl⟩
   have ah:N≤1800:=by rw[<- hN];exact HB.out k
   have a6:Hid _:=hx;have HN:Hid _:=hN;clear hx hN;go_wp2_with fail;refine CA.mono ?_;rintro e w2 ⟨vx,rfl,a4,a0⟩;obtain⟨gx,a1,rfl⟩:=jr a4 (wj 2 x);have a2:=ho.below a0;unfold ab at a2;rw[HN.out]at a2;have news:=J0 a4;obtain⟨M,hM⟩:∃ M,(kw x).length=M:=⟨_,rfl⟩
   have ag:1≤M∧M≤9:=by rw[<- hM];exact⟨wj 2 x,wv x⟩
   rw[hM];have HM:Hid _:=hM;have ac:=Nat.le_trans hbr.size a0.size;clear CA c1 hM;go_wp2_with (at_builtin;refine wpList_append_lies _ rfl _ _ 39 rfl w.heap.size 3 i0 (.int .i64 0) 1 8 underlying39 hi af ad ae rfl (by decide) _ N _ rfl a2 ⟨gx,0,none⟩ M a1 ((kw x).map (Value.int .i64)) rfl (by rw[List.length_map,HM.out,Nat.mul_one]) news (fun u hu=>by obtain⟨y,_,rfl⟩:=List.mem_map.1 hu;rfl) (by omega) (by unfold maxLen;omega) (by omega) ac w2.heap.size rfl ?_;intro g' a7 w3 a3 a8 ai aa)
   exact⟨Cc a5 a6.out HN.out HM.out hbr a0 (ho.below a0) a8 a3,by simp[intOf];omega⟩
  .have a9:k=zs.length:=by omega
   subst a9;rw[List.take_length]at ho;have R:=ah3 (zs:=zs.flatMap kw) (Nat.le_trans (pr kw 9 zs wv) (by omega)) ho;go_wp2_with fail;refine R.mono ?_;rintro e w2 ⟨v,rfl,h1,h2⟩;clear R;go_wp2;go_ret;exact⟨_,rfl,fe h1 hbr.size,hbr.trans (h2.mono hbr.size)⟩
theorem Dr {w:World} {B:Nat} {v:Value} {zs:List Int}(hz:zs.length≤200) (hI:ab w B v zs) :
  Calls prog 41 #[v] w fun e w'=>∃ v',e=.returned v'∧ab w' w.heap.size v' (nD zs)∧Below w.heap.size w w':=by
 rcases hI.form with ⟨rfl,rfl⟩|⟨g,cap,rfl,h1,h2⟩
 .exact as6 w _ _
 .exact b07 w B g cap zs hz hI
def okD (zs:List Int):Bool:=okR zs && decide ((apD zs).length≤200)
def Tr (zs:List Int):List Int:=if okD zs=true then nD zs else []
theorem av4 {zs:List Int}(h:okR zs=false):okD zs=false:=by simp[okD,h]
def bd (l:List Int):Bool:=decide (1≤l.length∧l.length≤4) && (okR l && decide (nD l=l))
theorem rn {w:World} {B:Nat} {v:Value} {l:List Int}(hz:l.length≤1048576) (hI:ab w B v l) :
  Calls prog 55 #[v] w fun e w'=>e=.returned (.bool (bd l))∧Below w.heap.size w w':=by
 have G:=aa4 hz hI;unfold bd;by_cases hl:1≤l.length∧l.length≤4
 .obtain⟨g,cap,rfl⟩:=jr hI hl.1
  have Y:=fun w=>oj (l.length:Int) 1 4 (by omega) w
  rw[show decide (1≤l.length∧l.length≤4)=true from decide_eq_true hl,Bool.true_and]
  cases hok:okR l
  .rw[hok]at G
   clear hI hok;go_enter func55,ntmps55;go_wp2_with fail;refine (Y _).mono ?_;rintro e w1 ⟨rfl,rfl⟩;go_wp2_with fail;refine G.mono ?_;rintro e w1 ⟨rfl,rfl⟩;clear G Y;go_wp2;go_ret;exact⟨rfl,bX⟩
  .rw[hok]at G
   have D:=Dr (qi hok).1 hI;have hb:(nD l).length≤1800:=by
    have h6:=(qi hok).1;have h7:=zj l;rw[zw];omega
   clear hok;generalize nD l=ds at *;go_enter func55,ntmps55;go_wp2_with fail;refine (Y _).mono ?_;rintro e w1 ⟨rfl,rfl⟩;go_wp2_with fail;refine G.mono ?_;rintro e w1 ⟨rfl,rfl⟩;go_wp2_with fail;refine D.mono ?_;rintro e w2 ⟨v2,rfl,h2,b2⟩;clear D G Y;go_wp2_with fail;refine (Kz (by omega) hz h2 (hI.below b2)).mono ?_;rintro e w3 ⟨rfl,n3,rfl⟩;go_wp2;go_ret;exact⟨rfl,below_drewN b2 n3⟩
 .rw[show decide (1≤l.length∧l.length≤4)=false from decide_eq_false hl,Bool.false_and]
  have N:=fun w=>jn (l.length:Int) 1 4 (by omega) w
  clear G;rcases hI.form with ⟨rfl,rfl⟩|⟨g,cap,rfl,_,_⟩
  .simp only[List.length_nil]at N
   clear hI hl;go_enter func55,ntmps55;go_wp2_with fail;refine (N _).mono ?_;rintro e w1 ⟨rfl,rfl⟩;go_wp2;go_ret;exact⟨rfl,bX⟩
  .clear hI hl
   go_enter func55,ntmps55;go_wp2_with fail;refine (N _).mono ?_;rintro e w1 ⟨rfl,rfl⟩;go_wp2;go_ret;exact⟨rfl,bX⟩
def atE (es:List Ent) (l:List Int):Int:=match es.findIdx? (fun e=>decide (e.runes=l)) with
 | some i=>(i:Int)
 | none=>-1
def mn (es:List Ent) (l:List Int) (k:Nat):Prop:=∀ j e,j<k→es[j]? = some e→e.runes≠l
theorem mn.succ {es:List Ent} {l:List Int} {e:Ent} {k:Nat}(h:mn es l k) (hx:es[k]? = some e) (hn:e.runes≠l):mn es l (k+1):=by
 intro j y hj hy;by_cases c:j=k
 .subst c;rw[hx]at hy;cases hy;exact hn
 .exact h j y (by omega) hy
theorem In {es:List Ent} {l:List Int} {e:Ent} {k:Nat}(h:mn es l k) (hx:es[k]? = some e) (hr:e.runes=l):atE es l=(k:Int):=by
 unfold atE;have:es.findIdx? (fun e=>decide (e.runes=l))=some k:=by
  rw[List.findIdx?_eq_some_iff_getElem];obtain⟨hk,he⟩:=List.getElem?_eq_some_iff.1 hx;refine⟨hk,by simp[he,hr],fun j hj=>?_⟩;have:=h j es[j] hj (List.getElem?_eq_getElem (by omega));simpa using this
 rw[this]
theorem M3 {es:List Ent} {l:List Int} {k:Nat}(h:mn es l k) (hk:es.length≤k):atE es l=-1:=by
 unfold atE;have:es.findIdx? (fun e=>decide (e.runes=l))=none:=by
  rw[List.findIdx?_eq_none_iff];intro x hx;obtain⟨j,hj⟩:=List.mem_iff_getElem?.1 hx;have h1:=(List.getElem?_eq_some_iff.1 hj).1;simpa using h j x (by omega) hj
 rw[this]
def ax2 (w:World) (es:List Ent) (l:List Int) (i:Value) (wr:World):Prop:=∃ k:Nat,k≤es.length∧i=.int .i64 k∧mn es l k∧Below w.heap.size w wr
theorem al4 (w:World) (B B' g cap:Nat) (es:List Ent) (sh:Bool) (lv:Int) (vl:Value) (l:List Int) (hE:ac w B (.slice (some ⟨g,0,none⟩) es.length cap) es) (hL:ab w B' vl l) (hn:es.length≤1048576) (hl:l.length≤1048576) (hr:∀ e ∈ es,e.runes.length≤1048576) :
  Calls prog 57 #[.agg #[.slice (some ⟨g,0,none⟩) es.length cap,.bool sh,.int .i64 lv],vl] w fun e w'=>e=.returned (.int .i64 (atE es l))∧Below w.heap.size w w':=by
 go_enter func57,ntmps57;go_wp2;go_loopw [10] (fun i wr=>ax2 w es l i wr) (fun i _=>es.length-(intOf i).toNat)
 case atStart=>exact⟨0,Nat.zero_le _,rfl,fun j e hj=>by omega,bY _⟩
 case round =>
  obtain⟨k,hk,rfl,a5,hb⟩:=hrel;have HN:Hid (mn es l k):=a5;clear a5;by_cases a8:k<es.length
  .obtain⟨e,he⟩:∃ e,es[k]? = some e:=⟨_,List.getElem?_eq_getElem a8⟩
   obtain⟨x,hI,a0,a1,a2,a3,a4⟩:=(hE.below hb).cells k e he;obtain⟨xa,xn,xc,rfl⟩:∃ xa xn xc,x=.slice xa xn xc:=by
    rcases hI.form with ⟨rfl,_⟩|⟨_,_,rfl,_,_⟩
    .exact⟨_,_,_,rfl⟩
    .exact⟨_,_,_,rfl⟩
   have aa:(k:Int)<(es.length:Int):=by omega
   have a9:=hr e (List.mem_of_getElem? he);have a6:=hb.alloc hb.size (.cells #[.slice xa xn xc,.int .i64 e.el.first,.int .i64 e.el.second,.int .i64 e.el.third,.bool e.el.varies] 117);have hbr:=(Below.refl wr.heap.size wr).alloc bR (.cells #[.slice xa xn xc,.int .i64 e.el.first,.int .i64 e.el.second,.int .i64 e.el.third,.bool e.el.varies] 117);have SM:=Kz a9 hl (hI.below hbr) ((hL.below hb).below hbr);have HE:Hid _:=he;clear he hI hE hL hr;go_wp2_with fail;refine SM.mono ?_;rintro e' w2 ⟨rfl,n2,rfl⟩;clear SM;by_cases c:e.runes=l
   .have HA:Hid (atE es l=(k:Int)):=In HN.out HE.out c
    have c':decide (e.runes=l)=true:=decide_eq_true c;clear HN HE c;go_wp2;go_ret;rw[HA.out];exact⟨rfl,below_drewN a6 n2⟩
   .have a7:Hid (mn es l (k+1)):=HN.out.succ HE.out c
    have c':decide (e.runes=l)=false:=decide_eq_false c;clear HN HE c;go_wp2;exact⟨⟨k+1,by omega,by go_num,a7.out,below_drewN a6 n2⟩,by simp[intOf];omega⟩
  .have HA:Hid (atE es l=-1):=M3 HN.out (by omega)
   clear HN hE hL hr;go_wp2;go_ret;rw[HA.out];exact⟨rfl,hb⟩
theorem al3 (w:World) (sh:Bool) (lv:Int) (vl:Value):Calls prog 57 #[.agg #[.slice none 0 0,.bool sh,.int .i64 lv],vl] w fun e w'=>e=.returned (.int .i64 (-1))∧Below w.heap.size w w':=by
 go_enter func57,ntmps57;go_wp2;go_loop [10] (fun i=>i=.int .i64 0) (fun _=>0)
 case atStart=>rfl
 case round =>
  subst hrel;go_wp2;go_ret;exact⟨rfl,bY _⟩
theorem ql {w:World} {B B':Nat} {v:Value} {es:List Ent} {sh:Bool} {lv:Int} {vl:Value} {l:List Int}(hE:ac w B v es) (hL:ab w B' vl l) (hn:es.length≤1048576) (hl:l.length≤1048576) (hr:∀ e ∈ es,e.runes.length≤1048576) :
  Calls prog 57 #[.agg #[v,.bool sh,.int .i64 lv],vl] w fun e w'=>e=.returned (.int .i64 (atE es l))∧Below w.heap.size w w':=by
 rcases hE.form with ⟨rfl,rfl⟩|⟨g,cap,rfl,_,_,_,_⟩
 .exact al3 w sh lv vl
 .exact al4 w B B' g cap es sh lv vl l hE hL hn hl hr
def mo (es:List Ent) (i:Nat) (e:Ent):Bool :=
 bd e.runes && (decide (atE es e.runes=(i:Int)) && (decide (1≤e.el.first∧e.el.first≤65535) && (decide (32≤e.el.second∧e.el.second≤999) && (decide (2≤e.el.third∧e.el.third≤99) && !e.el.varies))))
def ay (es:List Ent) (lv:Int):Bool:=decide (es.length≤40∧(1≤lv∧lv≤4)∧(es.zipIdx.all fun p=>mo es p.2 p.1)=true)
theorem vh (es:List Ent):(es.zipIdx.all fun p=>mo es p.2 p.1)=true↔∀ i e,es[i]? = some e→mo es i e=true:=by
 rw[List.all_eq_true];exact⟨fun h i e he=>h (e,i) (List.mem_zipIdx_iff_getElem?.2 he),fun h p hp=>h p.2 p.1 (List.mem_zipIdx_iff_getElem?.1 hp)⟩
theorem rl {es:List Ent} {lv:Int}(h:¬ (es.length≤40∧1≤lv∧lv≤4)):ay es lv=false:=decide_eq_false fun c=>h ⟨c.1,c.2.1⟩
theorem kc {es:List Ent} {lv:Int} {i:Nat} {e:Ent}(he:es[i]? = some e) (h:mo es i e=false):ay es lv=false:=decide_eq_false fun c=>by
 have:=(vh es).1 c.2.2 i e he;rw[h]at this;cases this
def pm (es:List Ent) (k:Nat):Prop:=∀ i e,i<k→es[i]? = some e→mo es i e=true
theorem pm.succ {es:List Ent} {k:Nat} {e:Ent}(h:pm es k) (he:es[k]? = some e) (ho:mo es k e=true):pm es (k+1):=by
 intro i x hi hx;by_cases c:i=k
 .subst c;rw[he]at hx;cases hx;exact ho
 .exact h i x (by omega) hx
theorem F8 {es:List Ent} {lv:Int} {k:Nat}(h:pm es k) (hk:es.length≤k) (h1:es.length≤40) (h2:1≤lv∧lv≤4):ay es lv=true:=decide_eq_true ⟨h1,h2,(vh es).2 fun i e he=>h i e (by have:=(List.getElem?_eq_some_iff.1 he).1;omega) he⟩
def GC (u:World) (b1 b4 b5:Nat) (v:Value) (sh:Bool) (lv:Int) (x:Value) (e:El):Prop :=
 (b1<u.heap.size∧b4<u.heap.size∧b5<u.heap.size)∧(u.cell? ⟨b1,0,none⟩=some v∧u.cell? ⟨b1,1,none⟩=some (.bool sh)∧u.cell? ⟨b1,2,none⟩=some (.int .i64 lv)) ∧
  u.cell? ⟨b4,0,none⟩=some x ∧
  (u.cell? ⟨b5,0,none⟩=some (.int .i64 e.first)∧u.cell? ⟨b5,1,none⟩=some (.int .i64 e.second)∧u.cell? ⟨b5,2,none⟩=some (.int .i64 e.third)∧u.cell? ⟨b5,3,none⟩=some (.bool e.varies))
theorem GC.below {u u':World} {b1 b4 b5:Nat} {v:Value} {sh:Bool} {lv:Int} {x:Value} {e:El}(h:GC u b1 b4 b5 v sh lv x e) (hb:Below u.heap.size u u'):GC u' b1 b4 b5 v sh lv x e:=by
 obtain⟨⟨h1,h4,h5⟩,⟨a0,a1,a2⟩,c0,d0,d1,d2,d3⟩:=h;exact⟨⟨Nat.lt_of_lt_of_le h1 hb.size,Nat.lt_of_lt_of_le h4 hb.size,Nat.lt_of_lt_of_le h5 hb.size⟩,⟨by rw[hb.cell h1];exact a0,by rw[hb.cell h1];exact a1,by rw[hb.cell h1];exact a2⟩,by rw[hb.cell h4];exact c0,by rw[hb.cell h5];exact d0,by rw[hb.cell h5];exact d1,by rw[hb.cell h5];exact d2,by rw[hb.cell h5];exact d3⟩
def ul (w wr:World) (v:Value) (sh:Bool) (lv:Int):Prop:=w.heap.size<wr.heap.size∧wr.cell? ⟨w.heap.size,0,none⟩=some v∧wr.cell? ⟨w.heap.size,1,none⟩=some (.bool sh)∧wr.cell? ⟨w.heap.size,2,none⟩=some (.int .i64 lv)
theorem ul.below {w wr w':World} {v:Value} {sh:Bool} {lv:Int}(h:ul w wr v sh lv) (hb:Below wr.heap.size wr w'):ul w w' v sh lv:=by
 obtain⟨h1,a0,a1,a2⟩:=h;exact⟨Nat.lt_of_lt_of_le h1 hb.size,by rw[hb.cell h1];exact a0,by rw[hb.cell h1];exact a1,by rw[hb.cell h1];exact a2⟩
theorem at8 {w wr:World} {v:Value} {sh:Bool} {lv:Int}(h:ul w wr v sh lv) (x:Value) (e:El) (ct:TypeId) (dt:TypeId) :
  GC ((wr.alloc (.cells #[x,.int .i64 e.first,.int .i64 e.second,.int .i64 e.third,.bool e.varies] ct)).alloc (.cells #[.int .i64 e.first,.int .i64 e.second,.int .i64 e.third,.bool e.varies] dt)) w.heap.size wr.heap.size (wr.heap.size+1) v sh lv x e:=by
 have hb:=((Below.refl wr.heap.size wr).alloc bR (.cells #[x,.int .i64 e.first,.int .i64 e.second,.int .i64 e.third,.bool e.varies] ct)).alloc (by simp) (.cells #[.int .i64 e.first,.int .i64 e.second,.int .i64 e.third,.bool e.varies] dt);obtain⟨h1,a0,a1,a2⟩:=h.below hb;have e4:((wr.alloc (.cells #[x,.int .i64 e.first,.int .i64 e.second,.int .i64 e.third,.bool e.varies] ct)).alloc (.cells #[.int .i64 e.first,.int .i64 e.second,.int .i64 e.third,.bool e.varies] dt)).heap[wr.heap.size]? = some (.cells #[x,.int .i64 e.first,.int .i64 e.second,.int .i64 e.third,.bool e.varies] ct):=by
  rw[Below.heap_alloc _ _ _ (by simp)];exact heap_alloc_new wr _
 have e5:=heap_alloc2_new wr (.cells #[x,.int .i64 e.first,.int .i64 e.second,.int .i64 e.third,.bool e.varies] ct) (.cells #[.int .i64 e.first,.int .i64 e.second,.int .i64 e.third,.bool e.varies] dt);exact⟨⟨h1,by simp;omega,by simp⟩,⟨a0,a1,a2⟩,cell_of_row _ _ 0 _ _ _ e4,cell_of_row _ _ 0 _ _ _ e5,cell_of_row _ _ 1 _ _ _ e5,cell_of_row _ _ 2 _ _ _ e5,cell_of_row _ _ 3 _ _ _ e5⟩
def ar4 (w:World) (v:Value) (sh:Bool) (lv:Int) (es:List Ent) (i:Value) (wr:World):Prop:=∃ k:Nat,k≤es.length∧i=.int .i64 k∧pm es k∧ul w wr v sh lv∧Below w.heap.size w wr
theorem V2 (w:World) (a:Option Addr) (n c:Nat) (sh:Bool) (lv:Int) (h:40<n):Calls prog 59 #[.agg #[.slice a n c,.bool sh,.int .i64 lv]] w fun e w'=>e=.returned (.bool false)∧Below w.heap.size w w':=by
 have h2:(40:Int)<(n:Int):=by omega
 go_enter func59,ntmps59;go_wp2;go_ret;exact⟨rfl,bY _⟩
theorem Za (w:World) (a:Option Addr) (n c:Nat) (sh:Bool) (lv:Int) (h:n≤40) (hl:¬ (1≤lv∧lv≤4)):Calls prog 59 #[.agg #[.slice a n c,.bool sh,.int .i64 lv]] w fun e w'=>e=.returned (.bool false)∧Below w.heap.size w w':=by
 have h2:¬ (40:Int)<(n:Int):=by omega
 have N:=fun w=>jn lv 1 4 hl w
 go_enter func59,ntmps59;go_wp2_with (go_at_call 34;refine (N _).mono ?_;rintro e w1 ⟨rfl,rfl⟩)
 go_ret;exact⟨rfl,bY _⟩
theorem Zc (w:World) (B g cap:Nat) (es:List Ent) (sh:Bool) (lv:Int) (hE:ac w B (.slice (some ⟨g,0,none⟩) es.length cap) es) (hn:es.length≤40) (hl:1≤lv∧lv≤4) (hr:∀ e ∈ es,e.runes.length≤1048576) :
  Calls prog 59 #[.agg #[.slice (some ⟨g,0,none⟩) es.length cap,.bool sh,.int .i64 lv]] w fun e w'=>e=.returned (.bool (ay es lv))∧Below w.heap.size w w':=by
 have Y:=fun w=>oj lv 1 4 hl w
 have al:¬ (40:Int)<(es.length:Int):=by omega
 go_enter func59,ntmps59;go_wp2_with (go_at_call 34;refine (Y _).mono ?_;rintro e w1 ⟨rfl,rfl⟩)
 go_loopw [19] (fun i wr=>ar4 w (.slice (some ⟨g,0,none⟩) es.length cap) sh lv es i wr) (fun i _=>es.length-(intOf i).toNat)
 case atStart=>exact⟨0,Nat.zero_le _,rfl,fun i e hi=>by omega,⟨by simp,by simp[World.cell?_alloc_new],by simp[World.cell?_alloc_new],by simp[World.cell?_alloc_new]⟩,bY _⟩
 case round =>
  obtain⟨k,hk,rfl,aa,a7,hb⟩:=hrel;have HN:Hid (pm es k):=aa;clear aa Y;by_cases ai:k<es.length
  .obtain⟨e,he⟩:∃ e,es[k]? = some e:=⟨_,List.getElem?_eq_getElem ai⟩
   obtain⟨x,hI,a0,a1,a2,a3,a4⟩:=(hE.below hb).cells k e he;obtain⟨xa,xn,xc,rfl⟩:∃ xa xn xc,x=.slice xa xn xc:=by
    rcases hI.form with ⟨rfl,_⟩|⟨_,_,rfl,_,_⟩
    .exact⟨_,_,_,rfl⟩
    .exact⟨_,_,_,rfl⟩
   have ak:(k:Int)<(es.length:Int):=by omega
   have ah:=hr e (List.mem_of_getElem? he);have ag:=at8 a7 (.slice xa xn xc) e.el 117 111;have af:=(hb.alloc hb.size (.cells #[.slice xa xn xc,.int .i64 e.el.first,.int .i64 e.el.second,.int .i64 e.el.third,.bool e.el.varies] 117)).alloc (hb.alloc hb.size _).size (.cells #[.int .i64 e.el.first,.int .i64 e.el.second,.int .i64 e.el.third,.bool e.el.varies] 111);have hbr:=((Below.refl wr.heap.size wr).alloc bR (.cells #[.slice xa xn xc,.int .i64 e.el.first,.int .i64 e.el.second,.int .i64 e.el.third,.bool e.el.varies] 117)).alloc (by simp) (.cells #[.int .i64 e.el.first,.int .i64 e.el.second,.int .i64 e.el.third,.bool e.el.varies] 111);have a5:=a7.below hbr;have a6:=hI.below hbr;have ae:=(hE.below hb).below hbr;have RN:=rn ah a6;have HE:Hid _:=he;have a9:Hid (ab _ _ _ _):=a6;have a8:Hid (ac _ _ _ _):=ae;have HB:Hid _:=af
   have HX:Hid (ul _ _ _ _ _):=a5;have HG:Hid (GC _ _ _ _ _ _ _ _ _):=ag;clear he hI a6 ae af hbr a5 ag a7 hb;go_wp2_with fail;refine RN.mono ?_;rintro e' w2 ⟨rfl,b2⟩;have c2:Hid _:=HB.out.trans (b2.mono HB.out.size);have g2:Hid (GC _ _ _ _ _ _ _ _ _):=HG.out.below b2;have x2:Hid (ul _ _ _ _ _):=HX.out.below b2;have i2:Hid (ab _ _ _ _):=a9.out.below b2;have ad:Hid (ac _ _ _ _):=a8.out.below b2;clear RN a0 a1 a2 a3 a4 HB HX HG a9 a8 b2
   cases r1:bd e.runes
   .have HF:Hid (ay es lv=false):=kc HE.out (by unfold mo;rw[r1,Bool.false_and])
    clear HN HE hE hr;go_wp2;go_ret;rw[HF.out];exact⟨rfl,c2.out⟩
   .obtain⟨_,⟨p0,p1,p2⟩,q0,d0,d1,d2,d3⟩:=g2.out
    have AT:=ql (sh:=sh) (lv:=lv) ad.out i2.out (by omega) ah hr;go_wp2_with fail;refine AT.mono ?_;rintro e' w3 ⟨rfl,b3⟩;have c3:Hid _:=c2.out.trans (b3.mono c2.out.size);have g3:=g2.out.below b3;have x3:Hid (ul _ _ _ _ _):=x2.out.below b3;clear AT p0 p1 p2 q0 d0 d1 d2 d3 c2 g2 x2 i2 ad b3;obtain⟨_,⟨p0,p1,p2⟩,q0,d0,d1,d2,d3⟩:=g3;by_cases r2:atE es e.runes=(k:Int)
    .have aj:(atE es e.runes != (k:Int))=false:=by simp[r2]
     by_cases r3:1≤e.el.first∧e.el.first≤65535
     .have F1:=fun w=>oj e.el.first 1 65535 r3 w
      by_cases r4:32≤e.el.second∧e.el.second≤999
      .have F2:=fun w=>oj e.el.second 32 999 r4 w
       by_cases r5:2≤e.el.third∧e.el.third≤99
       .have F3:=fun w=>oj e.el.third 2 99 r5 w
        cases r6:e.el.varies
        .have HO:Hid (pm es (k+1)):=HN.out.succ HE.out (by unfold mo;rw[r1,decide_eq_true r2,decide_eq_true r3,decide_eq_true r4,decide_eq_true r5,r6];rfl)
         rw[r6]at d3;clear HN HE hE hr r1 r2 r3 r4 r5 r6;go_wp2_with fail;refine (F1 _).mono ?_;rintro e' w4 ⟨rfl,rfl⟩;go_wp2_with fail;refine (F2 _).mono ?_;rintro e' w4 ⟨rfl,rfl⟩;go_wp2_with fail;refine (F3 _).mono ?_;rintro e' w4 ⟨rfl,rfl⟩;clear F1 F2 F3;go_wp2;exact⟨⟨k+1,by omega,by go_num,HO.out,x3.out,c3.out⟩,by simp[intOf];omega⟩
        .have HF:Hid (ay es lv=false):=kc HE.out (by unfold mo;rw[r6];simp)
         rw[r6]at d3;clear HN HE hE hr r1 r2 r3 r4 r5 r6;go_wp2_with fail;refine (F1 _).mono ?_;rintro e' w4 ⟨rfl,rfl⟩;go_wp2_with fail;refine (F2 _).mono ?_;rintro e' w4 ⟨rfl,rfl⟩;go_wp2_with fail;refine (F3 _).mono ?_;rintro e' w4 ⟨rfl,rfl⟩;clear F1 F2 F3;go_wp2;go_ret;rw[HF.out];exact⟨rfl,c3.out⟩
       .have F3:=fun w=>jn e.el.third 2 99 r5 w
        have HF:Hid (ay es lv=false):=kc HE.out (by unfold mo;rw[decide_eq_false r5];simp);clear HN HE hE hr r1 r2 r3 r4 r5;go_wp2_with fail;refine (F1 _).mono ?_;rintro e' w4 ⟨rfl,rfl⟩;go_wp2_with fail;refine (F2 _).mono ?_;rintro e' w4 ⟨rfl,rfl⟩;go_wp2_with fail;refine (F3 _).mono ?_;rintro e' w4 ⟨rfl,rfl⟩;clear F1 F2 F3;go_wp2;go_ret;rw[HF.out];exact⟨rfl,c3.out⟩
      .have F2:=fun w=>jn e.el.second 32 999 r4 w
       have HF:Hid (ay es lv=false):=kc HE.out (by unfold mo;rw[decide_eq_false r4];simp);clear HN HE hE hr r1 r2 r3 r4;go_wp2_with fail;refine (F1 _).mono ?_;rintro e' w4 ⟨rfl,rfl⟩;go_wp2_with fail;refine (F2 _).mono ?_;rintro e' w4 ⟨rfl,rfl⟩;clear F1 F2;go_wp2;go_ret;rw[HF.out];exact⟨rfl,c3.out⟩
     .have F1:=fun w=>jn e.el.first 1 65535 r3 w
      have HF:Hid (ay es lv=false):=kc HE.out (by unfold mo;rw[decide_eq_false r3];simp);clear HN HE hE hr r1 r2 r3;go_wp2_with fail;refine (F1 _).mono ?_;rintro e' w4 ⟨rfl,rfl⟩;clear F1;go_wp2;go_ret;rw[HF.out];exact⟨rfl,c3.out⟩
    .have aj:(atE es e.runes != (k:Int))=true:=by simpa using r2
     have HF:Hid (ay es lv=false):=kc HE.out (by unfold mo;rw[decide_eq_false r2];simp);clear HN HE hE hr r1 r2;go_wp2;go_ret;rw[HF.out];exact⟨rfl,c3.out⟩
  .have HA:Hid (ay es lv=true):=F8 HN.out (by omega) hn hl
   clear HN hE hr;go_wp2;go_ret;rw[HA.out];exact⟨rfl,hb⟩
theorem Zb (w:World) (sh:Bool) (lv:Int) (hl:1≤lv∧lv≤4):Calls prog 59 #[.agg #[.slice none 0 0,.bool sh,.int .i64 lv]] w fun e w'=>e=.returned (.bool true)∧Below w.heap.size w w':=by
 have Y:=fun w=>oj lv 1 4 hl w
 go_enter func59,ntmps59;go_wp2_with (go_at_call 34;refine (Y _).mono ?_;rintro e w1 ⟨rfl,rfl⟩)
 go_loop [19] (fun i=>i=.int .i64 0) (fun _=>0)
 case atStart=>rfl
 case round =>
  subst hrel;go_wp2;go_ret;exact⟨rfl,bY _⟩
theorem yd {w:World} {B:Nat} {v:Value} {es:List Ent} {sh:Bool} {lv:Int}(hE:ac w B v es) (hr:∀ e ∈ es,e.runes.length≤1048576) :
  Calls prog 59 #[.agg #[v,.bool sh,.int .i64 lv]] w fun e w'=>e=.returned (.bool (ay es lv))∧Below w.heap.size w w':=by
 obtain⟨a,c,rfl⟩:∃ a c,v=.slice a es.length c:=by
  rcases hE.form with ⟨rfl,rfl⟩|⟨g,cap,rfl,_,_,_,_⟩
  .exact⟨_,_,rfl⟩
  .exact⟨_,_,rfl⟩
 by_cases h1:es.length≤40
 .by_cases h2:1≤lv∧lv≤4
  .rcases hE.form with ⟨h,rfl⟩|⟨g,cap,h,_,_,_,_⟩
   .rw[h]
    have e0:ay [] lv=true:=decide_eq_true ⟨by simp,h2,rfl⟩;rw[e0];exact Zb w sh lv h2
   .rw[h]at hE ⊢
    exact Zc w B g cap es sh lv hE h1 h2 hr
  .rw[rl (fun h=>h2 h.2)]
   exact Za w a es.length c sh lv h1 h2
 .rw[rl (fun h=>h1 h.1)]
  exact V2 w a es.length c sh lv (by omega)
def mk:List El→Option El
 | [e]=>if e.first=0 then none else some e
 | _=>none
def fj (es:List Ent) (l:List Int):Option El :=
 if 0≤atE es l then (es[(atE es l).toNat]?).map (·.el)
 else match l with
  | [r]=>mk (base r)
  | _=>none
def ph (o:Option El):El:=o.getD ⟨0,0,0,false⟩
theorem tn (es:List Ent) (l:List Int):atE es l=-1∨∃ (i:Nat) (e:Ent),es[i]? = some e∧atE es l=(i:Int):=by
 unfold atE
 cases h:es.findIdx? (fun e=>decide (e.runes=l)) with
 | none=>exact .inl rfl
 | some i =>
  obtain⟨hi,_⟩:=List.findIdx?_eq_some_iff_getElem.1 h;exact .inr ⟨i,es[i],List.getElem?_eq_getElem hi,rfl⟩
theorem Yr {es:List Ent} {l:List Int} {i:Nat} {e:Ent}(he:es[i]? = some e) (h:atE es l=(i:Int)):fj es l=some e.el:=by
 unfold fj;rw[h,if_pos (by omega),Int.toNat_natCast,he];rfl
theorem H9 {es:List Ent} {r:Int}(h:atE es [r]=-1):fj es [r]=mk (base r):=by
 unfold fj;rw[h,if_neg (by omega)]
theorem Jr {es:List Ent} {l:List Int}(h:atE es l=-1) (hl:l.length≠1):fj es l=none:=by
 unfold fj;rw[h,if_neg (by omega)];match l,hl with
 | [],_=>rfl
 | [_],hl=>exact absurd rfl hl
 | _::_::_,_=>rfl
def fo (o:Option El):Value:=.tuple #[elV (ph o),.bool o.isSome]
theorem Dw {o:Option El} {e:El}(h:o=some e):Ending.returned (.tuple #[.agg #[.int .i64 e.first,.int .i64 e.second,.int .i64 e.third,.bool e.varies],.bool true])=.returned (fo o):=by rw[h];rfl
theorem mj {o:Option El}(h:o=none):Ending.returned (.tuple #[.agg #[.int .i64 0,.int .i64 0,.int .i64 0,.bool false],.bool false])=.returned (fo o):=by rw[h];rfl
def um (u:World) (b1 b2:Nat) (v:Value) (sh:Bool) (lv:Int):Prop:=u.heap[b1]? = some (.cells #[v,.bool sh,.int .i64 lv] 56)∧u.heap[b2]? = some (.cells #[.int .i64 0,.int .i64 0,.int .i64 0,.bool false] 111)
theorem um.facts {u:World} {b1 b2:Nat} {v:Value} {sh:Bool} {lv:Int}(h:um u b1 b2 v sh lv):(b1<u.heap.size∧b2<u.heap.size)∧(u.cell? ⟨b1,0,none⟩=some v∧u.cell? ⟨b1,1,none⟩=some (.bool sh)∧u.cell? ⟨b1,2,none⟩=some (.int .i64 lv))∧(u.cell? ⟨b2,0,none⟩=some (.int .i64 0)∧u.cell? ⟨b2,1,none⟩=some (.int .i64 0)∧u.cell? ⟨b2,2,none⟩=some (.int .i64 0)∧u.cell? ⟨b2,3,none⟩=some (.bool false))∧∀ j,u.frozen? ⟨b2,j,none⟩=false :=
 ⟨⟨(Array.getElem?_eq_some_iff.1 h.1).1,(Array.getElem?_eq_some_iff.1 h.2).1⟩,⟨cell_of_row _ _ 0 _ _ _ h.1,cell_of_row _ _ 1 _ _ _ h.1,cell_of_row _ _ 2 _ _ _ h.1⟩,⟨cell_of_row _ _ 0 _ _ _ h.2,cell_of_row _ _ 1 _ _ _ h.2,cell_of_row _ _ 2 _ _ _ h.2,cell_of_row _ _ 3 _ _ _ h.2⟩,fun j=>by simp[World.frozen?,h.2]⟩
theorem um.below {u u':World} {b1 b2:Nat} {v:Value} {sh:Bool} {lv:Int}(h:um u b1 b2 v sh lv) (hb:Below u.heap.size u u'):um u' b1 b2 v sh lv:=by
 have hf:=h.facts.1;exact⟨by rw[hb.block _ hf.1];exact h.1,by rw[hb.block _ hf.2];exact h.2⟩
theorem Me (w:World) (v:Value) (sh:Bool) (lv:Int):um ((w.alloc (.cells #[v,.bool sh,.int .i64 lv] 56)).alloc (.cells #[.int .i64 0,.int .i64 0,.int .i64 0,.bool false] 111)) w.heap.size (w.heap.size+1) v sh lv :=
 ⟨by rw[Below.heap_alloc _ _ _ (by simp)];exact heap_alloc_new w _,heap_alloc2_new w _ _⟩
theorem fg {w wr:World}(h:Below w.heap.size w wr) (x y z t:Value):Below w.heap.size w ((((wr.setCell ⟨w.heap.size+1,0,none⟩ x).setCell ⟨w.heap.size+1,1,none⟩ y).setCell ⟨w.heap.size+1,2,none⟩ z).setCell ⟨w.heap.size+1,3,none⟩ t) :=
 (((h.setCell (Nat.le_succ _) _).setCell (Nat.le_succ _) _).setCell (Nat.le_succ _) _).setCell (Nat.le_succ _) _
def dj (es:List Ent) (l:List Int):Option El:=if 0≤atE es l then (es[(atE es l).toNat]?).map (·.el) else none
theorem Jt {es:List Ent} {l:List Int} {e:Ent} {k:Nat}(h:mn es l k) (hx:es[k]? = some e) (hr:e.runes=l):dj es l=some e.el:=by
 unfold dj;rw[In h hx hr,if_pos (by omega),Int.toNat_natCast,hx];rfl
theorem Hb {es:List Ent} {l:List Int} {k:Nat}(h:mn es l k) (hk:es.length≤k):dj es l=none:=by
 unfold dj;rw[M3 h hk,if_neg (by omega)]
theorem Aj {es:List Ent} {l:List Int}:(dj es l).isSome=decide (0≤atE es l):=by
 rcases tn es l with h|⟨i,e,he,h⟩
 .unfold dj;rw[h];rfl
 .unfold dj;rw[h,if_pos (by omega),Int.toNat_natCast,he];simp
theorem a89 {es:List Ent} {l:List Int} {e:El}(h:dj es l=some e):fj es l=some e:=by
 unfold dj at h;unfold fj;split at h
 .rename_i c;rw[if_pos c];exact h
 .cases h
theorem yu {es:List Ent} {l:List Int}(h:dj es l=none):atE es l=-1:=by
 rcases tn es l with c|⟨i,e,he,c⟩
 .exact c
 .unfold dj at h
  rw[c,if_pos (by omega),Int.toNat_natCast,he]at h
  cases h
theorem Vw {es:List Ent} {l:List Int} {k:Nat}:dj (es.take k) l=none→mn es l k:=by
 intro h j e hj he hr;have h1:=yu h;unfold atE at h1;have:(es.take k).findIdx? (fun e=>decide (e.runes=l))=none:=by
  cases c:(es.take k).findIdx? (fun e=>decide (e.runes=l)) with
  | none=>rfl
  | some i=>rw[c]at h1;simp only at h1;omega
 rw[List.findIdx?_eq_none_iff]at this;have h2:=this e (List.mem_of_getElem? (i:=j) (by rw[List.getElem?_take_of_lt hj];exact he));simp[hr]at h2
theorem a68 {es:List Ent} {e:Ent} {k:Nat}(he:es[k]? = some e):(dj (es.take k) e.runes=none)↔atE es e.runes=(k:Int):=by
 constructor
 .intro h
  exact In (Vw h) he rfl
 .intro h
  cases c:dj (es.take k) e.runes with
  | none=>rfl
  | some x =>
   exfalso
   rcases tn (es.take k) e.runes with d|⟨i,y,hy,d⟩
   .unfold dj at c;rw[d,if_neg (by omega)]at c;cases c
   .have a0:i<k:=by
     have:=(List.getElem?_eq_some_iff.1 hy).1;rw[List.length_take]at this;omega
    rw[List.getElem?_take_of_lt a0]at hy;unfold atE at d h
    cases f:(es.take k).findIdx? (fun x=>decide (x.runes=e.runes)) with
    | none=>rw[f]at d;simp only at d;omega
    | some m =>
     rw[f]at d;have hm:m=i:=by simp only at d;omega
     subst hm;obtain⟨h1,h2,h3⟩:=List.findIdx?_eq_some_iff_getElem.1 f;have h4:es.findIdx? (fun x=>decide (x.runes=e.runes))=some m:=by
      have a1:m<es.length:=by rw[List.length_take]at h1;omega
      rw[List.findIdx?_eq_some_iff_getElem];refine⟨a1,?_,fun j hj=>?_⟩
      .simpa using h2
      .have:=h3 j hj
       simpa using this
     rw[h4]at h;simp only at h;omega
def qd (rest:List Int) (k:Nat) (c:Int):Bool:=(rest.take k).any fun x=>decide (c≤cls x)
def iu (es:List Ent) (run rest:List Int):List Int→Nat→Int
 | [],_=>-1
 | m::ms,k=>if cls m=0 then -1 else if qd rest k (cls m)=false∧0≤atE es (run++[m]) then (k:Int) else iu es run rest ms (k+1)
def kn (es:List Ent) (run rest:List Int):Int:=iu es run rest rest 0
theorem Nm {l:List Int} {k:Nat} {x:Int}(h:l[k]? = some x):l.drop k=x::l.drop (k+1):=by
 obtain⟨hk,rfl⟩:=List.getElem?_eq_some_iff.1 h;exact List.drop_eq_getElem_cons hk
theorem a75 {rest:List Int} {j:Nat} {c x:Int}(h:rest[j]? = some x):qd rest (j+1) c=(qd rest j c || decide (c≤cls x)):=by
 unfold qd;rw[List.take_add_one,h];simp
theorem Iz (es:List Ent) (run rest:List Int) (ms:List Int) (k:Nat):iu es run rest ms k=-1∨∃ j:Nat,k≤j∧j<k+ms.length∧iu es run rest ms k=(j:Int):=by
 induction ms generalizing k with
 | nil=>exact .inl rfl
 | cons m ms ih =>
  unfold iu;split
  .exact .inl rfl
  .split
   .exact .inr ⟨k,bR,by simp,rfl⟩
   .rcases ih (k+1) with h|⟨j,h1,h2,h3⟩
    .exact .inl h
    .exact .inr ⟨j,by omega,by simp;omega,h3⟩
theorem Aw (es:List Ent) (run rest:List Int):kn es run rest=-1∨∃ j:Nat,j<rest.length∧kn es run rest=(j:Int):=by
 rcases Iz es run rest rest 0 with h|⟨j,_,h2,h3⟩
 .exact .inl h
 .exact .inr ⟨j,by omega,h3⟩
def o4 (es:List Ent) (l:List Int) (k:Nat):Bool:=decide (k≤l.length) && decide (0≤atE es (l.take k))
def mw (es:List Ent) (l:List Int):Nat:=if o4 es l 4=true then 4 else if o4 es l 3=true then 3 else if o4 es l 2=true then 2 else 1
def ku (es:List Ent) (l:List Int):Nat→Nat
 | 0=>1
 | k+1=>if 2≤k∧o4 es l k=true then k else ku es l k
theorem ab6 {es:List Ent} {l:List Int} {k:Nat}(h:o4 es l k=true):k≤l.length:=by
 unfold o4 at h;simp at h;exact h.1
theorem Nc {es:List Ent} {l:List Int} {k:Nat}(h:l.length<k):o4 es l k=false:=by
 unfold o4;rw[decide_eq_false (by omega),Bool.false_and]
theorem Ka {es:List Ent} {l:List Int} {k:Nat}(h:k≤l.length):o4 es l k=decide (0≤atE es (l.take k)):=by
 unfold o4;rw[decide_eq_true h,Bool.true_and]
theorem Ky (es:List Ent) (l:List Int):ku es l 2=1:=by simp[ku]
theorem rm {es:List Ent} {l:List Int} {k:Nat}(hk:2≤k):ku es l (k+1)=if o4 es l k=true then k else ku es l k:=by
 rw[ku];simp[hk]
theorem Bf (es:List Ent) (l:List Int):ku es l 5=mw es l:=by
 rw[rm (by omega),rm (by omega),rm (by omega),Ky];rfl
theorem a33 {es:List Ent} {l:List Int} {k:Nat}(h2:2≤k) (h5:k≤5) (h:l.length<k):ku es l k=mw es l:=by
 rw[<- Bf];have step:∀ d,k+d≤5→ku es l (k+d)=ku es l k:=by
  intro d;induction d with
  | zero=>intro _;rfl
  | succ d ih =>
   intro hd;rw[show k+(d+1)=(k+d)+1 by omega,rm (by omega),Nc (by omega)];exact ih (by omega)
 have:=step (5-k) (by omega);rw[show k+(5-k)=5 by omega]at this;exact this.symm
theorem Ou {es:List Ent} {l:List Int} {k:Nat}(h:1≤l.length):1≤ku es l k∧ku es l k≤l.length∧ku es l k≤max 1 (k-1):=by
 induction k with
 | zero=>exact⟨bR,h,by simp[ku]⟩
 | succ k ih =>
  rw[ku];split
  .rename_i c
   have:=ab6 c.2;omega
  .omega
theorem J6 {es:List Ent} {l:List Int}(h:1≤l.length):1≤mw es l∧mw es l≤l.length∧mw es l≤4:=by
 have:=Ou (es:=es) (k:=5) h;rw[Bf]at this;omega
theorem ag3 {es:List Ent} {l:List Int} {k:Nat}(h2:2≤k) (h4:k≤4) (h:o4 es l k=true) (hn:∀ j,k<j→j≤4→o4 es l j=false):mw es l=k:=by
 unfold mw;obtain rfl|rfl|rfl:k=2∨k=3∨k=4:=by omega
 .rw[hn 4 (by omega) (by omega),hn 3 (by omega) (by omega),h];simp
 .rw[hn 4 (by omega) (by omega),h];simp
 .rw[h];simp
theorem ag4 {es:List Ent} {l:List Int}(hn:∀ j,1<j→j≤4→o4 es l j=false):mw es l=1:=by
 unfold mw;rw[hn 4 (by omega) (by omega),hn 3 (by omega) (by omega),hn 2 (by omega) (by omega)];simp
def rg (es:List Ent):Nat→List Int→List Int→List Int × List Int
 | 0,run,rest=>(run,rest)
 | f+1,run,rest=>if kn es run rest<0 then (run,rest) else rg es f (run++[at0 rest (kn es run rest).toNat]) (rest.eraseIdx (kn es run rest).toNat)
def mf (es:List Ent) (run rest:List Int):List Int × List Int:=rg es rest.length run rest
theorem K9 {es:List Ent} {run rest:List Int}(h:kn es run rest=-1):mf es run rest=(run,rest):=by
 unfold mf
 cases rest.length with
 | zero=>rfl
 | succ n=>rw[rg,if_pos (by omega)]
theorem Su {es:List Ent} {run rest:List Int} {k:Nat}(hk:k<rest.length) (h:kn es run rest=(k:Int)):mf es run rest=mf es (run++[at0 rest k]) (rest.eraseIdx k):=by
 unfold mf;rw[List.length_eraseIdx_of_lt hk];obtain⟨n,hn⟩:∃ n,rest.length=n+1:=⟨rest.length-1,by omega⟩
 rw[hn,rg,if_neg (by omega),h,Int.toNat_natCast];rfl
theorem V9 (es:List Ent) (f:Nat) (run rest:List Int) (h1:1≤run.length) :
  (rg es f run rest).1.length+(rg es f run rest).2.length=run.length+rest.length∧1≤(rg es f run rest).1.length∧at0 (rg es f run rest).1 0=at0 run 0 ∧
  (∀ x ∈ (rg es f run rest).1,x ∈ run∨x ∈ rest)∧(∀ x ∈ (rg es f run rest).2,x ∈ rest):=by
 induction f generalizing run rest with
 | zero=>exact⟨rfl,h1,rfl,fun x hx=>.inl hx,fun x hx=>hx⟩
 | succ f ih =>
  unfold rg;split
  .exact⟨rfl,h1,rfl,fun x hx=>.inl hx,fun x hx=>hx⟩
  .rename_i c
   rcases Aw es run rest with h|⟨j,hj,h⟩
   .omega
   .rw[h,Int.toNat_natCast]
    obtain⟨a,b,d,e,g⟩:=ih (run++[at0 rest j]) (rest.eraseIdx j) (by simp);refine⟨?_,b,?_,?_,?_⟩
    .rw[a,List.length_append,List.length_eraseIdx_of_lt hj]
     simp
     omega
    .rw[d]
     unfold at0;rw[List.getElem?_append_left (by omega)]
    .intro x hx
     rcases e x hx with h1|h1
     .rcases List.mem_append.1 h1 with h2|h2
      .exact .inl h2
      .right
       simp only[List.mem_singleton]at h2;subst h2;unfold at0;rw[List.getElem?_eq_getElem hj];exact List.getElem_mem hj
     .exact .inr (List.mem_of_mem_eraseIdx h1)
    .intro x hx
     exact List.mem_of_mem_eraseIdx (g x hx)
theorem Zf (es:List Ent) (run rest:List Int) (h1:1≤run.length) :
  (mf es run rest).1.length+(mf es run rest).2.length=run.length+rest.length∧1≤(mf es run rest).1.length∧at0 (mf es run rest).1 0=at0 run 0 ∧
  (∀ x ∈ (mf es run rest).1,x ∈ run∨x ∈ rest)∧(∀ x ∈ (mf es run rest).2,x ∈ rest):=V9 es rest.length run rest h1
def ju (es:List Ent) (run:List Int):List El:=match dj es run with
 | some e=>[e]
 | none=>base (at0 run 0)
theorem C8 (es:List Ent) (run:List Int):(ju es run).length≤2:=by
 unfold ju;split
 .simp
 .exact M4 _
def fk (es:List Ent) (l:List Int):List Int × List Int:=mf es (l.take (mw es l)) (l.drop (mw es l))
theorem pe {es:List Ent} {l:List Int}(h:1≤l.length) :
  (fk es l).1.length+(fk es l).2.length=l.length∧1≤(fk es l).1.length∧at0 (fk es l).1 0=at0 l 0∧(∀ x ∈ (fk es l).1,x ∈ l)∧(∀ x ∈ (fk es l).2,x ∈ l):=by
 obtain⟨b1,b2,b3⟩:=J6 (es:=es) h;obtain⟨a,b,c,d,e⟩:=Zf es (l.take (mw es l)) (l.drop (mw es l)) (by rw[List.length_take];omega);refine⟨?_,b,?_,?_,?_⟩
 .show (mf es _ _).1.length+(mf es _ _).2.length=_
  rw[a,List.length_take,List.length_drop];omega
 .show at0 (mf es _ _).1 0=_
  rw[c];unfold at0;rw[List.getElem?_take_of_lt (by omega)]
 .intro x hx
  rcases d x hx with h|h
  .exact List.mem_of_mem_take h
  .exact List.mem_of_mem_drop h
 .intro x hx
  exact List.mem_of_mem_drop (e x hx)
def kj (es:List Ent):Nat→List Int→List El
 | 0,_=>[]
 | f+1,l=>if l.length=0 then [] else ju es (fk es l).1++kj es f (fk es l).2
def eb (es:List Ent) (l:List Int):List El:=kj es l.length l
theorem Qf (es:List Ent) (f g:Nat) (l:List Int) (h1:l.length≤f) (h2:l.length≤g):kj es f l=kj es g l:=by
 induction f generalizing g l with
 | zero =>
  have:l.length=0:=by omega
  cases g with
  | zero=>rfl
  | succ g=>rw[kj,kj,if_pos this]
 | succ f ih =>
  by_cases c:l.length=0
  .cases g with
   | zero=>rw[kj,kj,if_pos c]
   | succ g=>rw[kj,kj,if_pos c,if_pos c]
  .cases g with
   | zero=>omega
   | succ g =>
    have:=pe (es:=es) (l:=l) (by omega);rw[kj,kj,if_neg c,if_neg c,ih g (fk es l).2 (by omega) (by omega)]
theorem Ha (es:List Ent):eb es []=[]:=rfl
theorem Ef {es:List Ent} {l:List Int}(h:1≤l.length):eb es l=ju es (fk es l).1++eb es (fk es l).2:=by
 unfold eb;obtain⟨n,hn⟩:∃ n,l.length=n+1:=⟨l.length-1,by omega⟩
 have:=pe (es:=es) h;rw[hn,kj,if_neg (by omega),Qf es n (fk es l).2.length (fk es l).2 (by omega) bR]
theorem Ua (es:List Ent) (f:Nat) (l:List Int):(kj es f l).length≤2*l.length:=by
 induction f generalizing l with
 | zero=>exact Nat.zero_le _
 | succ f ih =>
  rw[kj];split
  .exact Nat.zero_le _
  .have:=pe (es:=es) (l:=l) (by omega)
   have h2:=ih (fk es l).2;have h3:=C8 es (fk es l).1;rw[List.length_append];omega
theorem Ai (es:List Ent) (l:List Int):(eb es l).length≤2*l.length:=Ua es l.length l
theorem U9 {P:El→Prop} {es:List Ent}(a0:∀ e ∈ es,P e.el) (f:Nat) (l:List Int) (hl:∀ x ∈ l,∀ e ∈ base x,P e):∀ e ∈ kj es f l,P e:=by
 induction f generalizing l with
 | zero=>intro e he;cases he
 | succ f ih =>
  intro e he;rw[kj]at he;split at he
  .cases he
  .rename_i c
   have hk:=pe (es:=es) (l:=l) (by omega);rcases List.mem_append.1 he with h|h
   .unfold ju at h
    split at h
    .rename_i x hx
     simp only[List.mem_singleton]at h;subst h;unfold dj at hx;split at hx
     .obtain⟨y,hy,rfl⟩:=Option.map_eq_some_iff.1 hx
      exact a0 y (List.mem_of_getElem? hy)
     .cases hx
    .refine hl (at0 (fk es l).1 0) ?_ e h
     rw[hk.2.2.1];unfold at0;rw[List.getElem?_eq_getElem (show 0<l.length by omega)];exact List.getElem_mem _
   .exact ih _ (fun x hx=>hl x (hk.2.2.2.2 x hx)) e h
theorem U8 {P:El→Prop} {es:List Ent}(a0:∀ e ∈ es,P e.el) (l:List Int) (hl:∀ x ∈ l,∀ e ∈ base x,P e):∀ e ∈ eb es l,P e:=U9 a0 l.length l hl
def isD (zs:List Int):Bool:=okR zs && decide (nD zs=zs)
theorem Ia (s:ByteArray) (w:World) (hs:s.size≤1073741824) :
  Calls prog 102 #[.string s] w fun e w'=>∃ v,e=.returned (.tuple #[v,.bool (ok4 s)])∧(s.size≤200→ab w' w.heap.size v (rn4 s))∧Below w.heap.size w w':=by
 by_cases hl:200<s.size
 .have h2:(200:Int)<(s.size:Int):=by omega
  have HK:Hid (ok4 s=false):=decide_eq_false fun c=>by omega
  go_enter func102,ntmps102;go_wp2;go_ret2;rw[HK.out];exact⟨_,rfl,fun h=>absurd h (by omega),bX⟩
 .have h2:¬ (200:Int)<(s.size:Int):=by omega
  have HK:Hid (ok4 s=decide (((rn4 s).length:Int)≤200)):=by
   show _=_
   unfold ok4;rw[decide_eq_decide];omega
  have a1:=fun w=>Cg s w hs
  have a2:=(Dec.decT_len s.size s bR).1;have a3:(rn4 s).length≤1800:=by unfold rn4;rw[zw];have:=zj (Dec.decT s.size s).1;omega
  have D:=fun (u:World) (B:Nat) (v:Value) (h:ab u B v (Dec.decT s.size s).1)=>Dr (by omega) h
  change ∀ (u:World) (B:Nat) (v:Value),ab u B v (Dec.decT s.size s).1→Calls prog 41 #[v] u fun e w'=>∃ v',e=.returned v'∧ab w' u.heap.size v' (rn4 s)∧Below u.heap.size u w' at D
  rw[HK.out];clear HK a2;generalize rn4 s=l at *;generalize (Dec.decT s.size s).1=l0 at *;generalize (Dec.decT s.size s).2=n0 at *;go_enter func102,ntmps102;go_wp2_with fail;refine (a1 _).mono ?_;rintro e w1 ⟨v1,rfl,i1,b1⟩;clear a1;go_wp2_with fail;refine (D _ _ _ i1).mono ?_;rintro e w2 ⟨v2,rfl,i2,b2⟩;clear D i1;have a0:=fe i2 b1.size;have HB:Hid _:=b1.trans (b2.mono b1.size);obtain⟨a,c,rfl⟩:∃ a c,v2=.slice a l.length c:=by
   rcases a0.form with ⟨rfl,rfl⟩|⟨g,cap,rfl,_,_⟩
   .exact⟨_,_,rfl⟩
   .exact⟨_,_,rfl⟩
  have HI:Hid (ab _ _ _ _):=a0;clear i2 a0 b1 b2;go_wp2;go_ret2;exact⟨_,rfl,fun _=>HI.out,HB.out⟩
end Go.Proofs.YtjbmgghehdemdaaGreatDoor
