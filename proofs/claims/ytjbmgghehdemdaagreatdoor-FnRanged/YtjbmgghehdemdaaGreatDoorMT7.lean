/- IClass -/
import Derived.Test.YtjbmgghehdemdaaGreatDoorMT2
import Derived.Deep.WholeRow
import Derived.Lib.AppendZeros
import Derived.Test.YtjbmgghehdemdaaGreatDoorMT6
import Derived.Lib.OthersKept
namespace Go.Proofs.YtjbmgghehdemdaaGreatDoor
set_option maxRecDepth 100000
set_option maxHeartbeats 16000000
open _root_.Go.Proofs.Tryz
open Go.RowKit
def Cn:Array Value:=(ij.map (Value.int .i64)).toArray
theorem Eu (k:Nat) (hk:k<15) (w:World):(Instr.index 278 (.agg Cn) (.int .i64 k)).run prog w=.ok (.agg #[.int .i64 (at0 (ik.getD k []) 0),.int .i64 (at0 (ik.getD k []) 1)]) w:=by
 iterate 15 (rcases k with _|k;· kernel_rfl)
 omega
theorem Zz:∀ t ∈ ik,cls (at0 t 0)=at0 t 1:=by decide
theorem Vv {r:Int}(h:∀ t ∈ ik,at0 t 0≠r):cls r=0:=by
 simp[ik,at0]at h
 unfold cls;repeat' split
 all_goals omega
def Lw (r:Int) (k:Nat):Prop:=∀ j,j<k→at0 (ik.getD j []) 0≠r
theorem nj (r:Int) (w:World) (hm:db w 7 ij):Calls prog 213 #[.int .i64 r] w fun e w'=>e=.returned (.int .i64 (cls r))∧Below w.heap.size w w':=by
 obtain⟨t,fr,a0⟩:=hm;have hh:w.heap[7]? = some (.cells Cn t fr):=a0;clear a0;go_enter func213,ntmps213;go_wp2_with (refine wpList_load_row rfl 278 (.global 7) rfl 7 rfl t Cn fr _ hh underlying278 rfl (by kernel_rfl) ?_)
 clear hh;go_loopw [6] (fun i wr=>∃ k:Nat,k≤15∧i=.int .i64 k∧Hid (Lw r k)∧Below w.heap.size w wr) (fun i _=>15-(intOf i).toNat)
 case atStart=>exact⟨0,Nat.zero_le _,rfl,fun j hj=>by omega,bX⟩
 case round =>
  obtain⟨k,hk,rfl,HN,hb⟩:=hrel;by_cases a1:k<15
  .have hi:=fun w=>Eu k a1 w
   have ht:ik.getD k [] ∈ ik:=by
    rw[List.getD_eq_getElem?_getD,List.getElem?_eq_getElem (show k<ik.length from a1)];exact List.getElem_mem _
   have HH:Hid (cls (at0 (ik.getD k []) 0)=at0 (ik.getD k []) 1):=Zz _ ht;have HK:Hid (at0 (ik.getD k []) 0≠r→Lw r (k+1)):=fun h j hj=>by
    by_cases e:j=k
    .subst e;exact h
    .exact HN.out j (by omega)
   clear HN ht;generalize at0 (ik.getD k []) 0=a at *;generalize at0 (ik.getD k []) 1=b at *;have a3:(k:Int)<15:=by omega
   by_cases e:a=r
   .subst e
    go_wp2;go_ret;exact⟨Wo HH.out.symm,hb.alloc hb.size _⟩
   .have e2:(a == r)=false:=by simpa using e
    have a2:Hid (Lw r (k+1)):=HK.out e;clear e HK;go_wp2;exact⟨⟨k+1,by omega,by go_num,a2,hb.alloc hb.size _⟩,by simp[intOf];omega⟩
  .have HC:Hid (cls r=0):=Vv fun t ht=>by
    obtain⟨j,hj⟩:=List.mem_iff_getElem?.1 ht;have h1:=(List.getElem?_eq_some_iff.1 hj).1;have h2:ik.length=15:=rfl;have:=HN.out j (by omega);rw[List.getD_eq_getElem?_getD,hj]at this;exact this
   clear HN;go_wp2;go_ret;exact⟨Wo HC.out.symm,hb⟩
def Dh (a b:List Int) (k:Nat):Prop:=∀ j,j<k→a[j]? = b[j]?
theorem re (w:World) (a b:Option Addr) (c d:Nat):Calls prog 190 #[.slice a 0 c,.slice b 0 d] w fun e w'=>e=.returned (.bool true)∧∃ n,w'=w.drewN n:=by
 go_enter func190,ntmps190;go_wp2;go_loopw [13] (fun i wr=>i=.int .i64 0∧wr=w) (fun _ _=>0)
 case atStart=>exact⟨rfl,rfl⟩
 case round =>
  obtain⟨rfl,rfl⟩:=hrel;go_wp2;go_ret;exact⟨rfl,0,rfl⟩
theorem tw (w:World) (a b:Option Addr) (n m c d:Nat) (h:n≠m):Calls prog 190 #[.slice a n c,.slice b m d] w fun e w'=>e=.returned (.bool false)∧∃ n,w'=w.drewN n:=by
 have h2:((n:Int) != (m:Int))=true:=by simp;omega
 go_enter func190,ntmps190;go_wp2;go_ret;exact⟨rfl,0,rfl⟩
theorem Yz (w:World) (g g' cap a0 n:Nat) (za zb:List Int) (ha:za.length=n) (hb:zb.length=n) (hz:n≤1048576)
  (h1:∀ j,j<n→w.cell? ⟨g,j,none⟩=some (.int .i64 (za[j]?.getD 0)))
  (h2:∀ j,j<n→w.cell? ⟨g',j,none⟩=some (.int .i64 (zb[j]?.getD 0))) :
  Calls prog 190 #[.slice (some ⟨g,0,none⟩) n cap,.slice (some ⟨g',0,none⟩) n a0] w fun e w'=>e=.returned (.bool (decide (za=zb)))∧∃ n,w'=w.drewN n:=by
 go_enter func190,ntmps190;go_wp2;go_loopw [13] (fun i wr=>∃ k nq:Nat,k≤n∧i=.int .i64 k∧wr=w.drewN nq∧Hid (Dh za zb k)) (fun i _=>n-(intOf i).toNat)
 case atStart=>exact⟨0,0,Nat.zero_le _,rfl,rfl,fun j hj=>by omega⟩
 case round =>
  obtain⟨k,nq,hk,rfl,rfl,HS⟩:=hrel;by_cases a1:k<n
  .obtain⟨x,hx⟩:∃ x,za[k]? = some x:=⟨_,List.getElem?_eq_getElem (by omega)⟩
   obtain⟨y,hy⟩:∃ y,zb[k]? = some y:=⟨_,List.getElem?_eq_getElem (by omega)⟩
   have g1:=h1 k a1;have g2:=h2 k a1;rw[hx]at g1;rw[hy]at g2;have e1:w.cell? ⟨g,k,none⟩=some (.int .i64 x):=g1;have e2:w.cell? ⟨g',k,none⟩=some (.int .i64 y):=g2;have a4:(k:Int)<(n:Int):=by omega
   have HX:Hid _:=hx;have HY:Hid _:=hy;have HA:Hid _:=ha;have HB:Hid _:=hb;clear h1 h2 g1 g2 hx hy ha hb;by_cases e:x=y
   .subst e
    have a2:Hid (Dh za zb (k+1)):=by
     intro j hj;by_cases e:j=k
     .subst e;rw[HX.out,HY.out]
     .exact HS.out j (by omega)
    go_wp2;go_quiet (fail)
    go_wp2;exact⟨⟨k+1,_,by omega,by go_num,rfl,a2⟩,by simp[intOf];omega⟩
   .have a3:(x != y)=true:=by simpa using e
    have HN:Hid (false=decide (za=zb)):=by
     refine (decide_eq_false fun h=>e ?_).symm;have:=HX.out;rw[h,HY.out]at this;exact (Option.some.inj this).symm
    clear e;go_wp2;go_quiet (fail)
    go_wp2;go_ret;exact⟨jj HN.out,_,World.drewN_drewN _ _ _⟩
  .have HN:Hid (true=decide (za=zb)):=by
    refine (decide_eq_true ?_).symm;apply List.ext_getElem?
    intro j;by_cases hj:j<k
    .exact HS.out j hj
    .rw[List.getElem?_eq_none (by omega),List.getElem?_eq_none (by omega)]
   have HA:Hid _:=ha;have HB:Hid _:=hb;clear h1 h2 ha hb;go_wp2;go_ret;exact⟨jj HN.out,_,rfl⟩
theorem Jv {w:World} {B B':Nat} {a b:Value} {za zb:List Int}(a1:za.length≤1048576) (a2:zb.length≤1048576) (ha:ab w B a za) (hb:ab w B' b zb) :
  Calls prog 190 #[a,b] w fun e w'=>e=.returned (.bool (decide (za=zb)))∧∃ n,w'=w.drewN n:=by
 by_cases h:za.length=zb.length
 .rcases ha.form with ⟨rfl,rfl⟩|⟨g,cap,rfl,h1,h2⟩
  .have e:zb=[]:=List.eq_nil_of_length_eq_zero (by simpa using h.symm)
   subst e;rcases hb.form with ⟨rfl,_⟩|⟨g',a0,rfl,_,_⟩
   .exact re w _ _ _ _
   .exact re w _ _ _ _
  .rcases hb.form with ⟨rfl,rfl⟩|⟨g',a0,rfl,_,_⟩
   .have e:za=[]:=List.eq_nil_of_length_eq_zero (by simpa using h)
    subst e;exact re w _ _ _ _
   .rw[<- h]
    exact Yz w g g' cap a0 za.length za zb rfl h.symm a1 (fun j hj=>ha.cell j hj) (fun j hj=>hb.cell j (by omega))
 .have e:decide (za=zb)=false:=decide_eq_false (fun e=>h (by rw[e]))
  rw[e];rcases ha.form with ⟨rfl,rfl⟩|⟨g,cap,rfl,h1,h2⟩
  .rcases hb.form with ⟨rfl,rfl⟩|⟨g',a0,rfl,_,_⟩
   .exact absurd rfl h
   .exact tw w _ _ _ _ _ _ (by simpa using h)
  .rcases hb.form with ⟨rfl,rfl⟩|⟨g',a0,rfl,_,_⟩
   .exact tw w _ _ _ _ _ _ (by simpa using h)
   .exact tw w _ _ _ _ _ _ h
theorem av {fn:Func} {p:Tmp} {ty:TypeId}(h:fn.results=#[.cell p ty]) (tmps:Array Value) (P:Program) (w:World) :
  (results fn tmps).run P w=((asAddr (tmps.getD p undef)).run P w).andThen fun a w₁=>(loadVar ty a).run P w₁:=by
 simp only[results,h];simp[Sem.run_bind,Result.andThen]
theorem jx {fn:Func} {p u:Tmp} {ty:TypeId}(h:fn.results=#[.tmp u,.cell p ty]) (tmps:Array Value) (P:Program) (w:World) :
  (results fn tmps).run P w=((asAddr (tmps.getD p undef)).run P w).andThen fun a w₁=>((loadVar ty a).run P w₁).andThen fun v w₂=>.ok (.tuple #[tmps.getD u undef,v]) w₂:=by
 simp only[results,h];simp[Sem.run_bind,Result.andThen]
def elZ:El:=⟨0,0,0,false⟩
def ja (sh beh:Bool) (e:El):Int × El × Bool :=
 if sh=false then (65535,e,beh)
 else if e.varies=true then (e.first,elZ,true)
 else if e.first=0∧beh=true then (0,elZ,beh)
 else ((if e.first=0∧e.second=0∧e.third=0 then 0 else 65535),e,if e.first=0 then beh else false)
def fw (sh:Bool) (es:List El):Nat→List Int × List El × Bool
 | 0=>([],[],false)
 | k+1 =>
  match es[k]? with
  | none=>fw sh es k
  | some e=>((fw sh es k).1++[(ja sh (fw sh es k).2.2 e).1],(fw sh es k).2.1++[(ja sh (fw sh es k).2.2 e).2.1],(ja sh (fw sh es k).2.2 e).2.2)
def dc (sh:Bool) (es:List El):List Int:=(fw sh es es.length).1
def ck (sh:Bool) (es:List El):List El:=(fw sh es es.length).2.1
theorem Al {sh:Bool} {es:List El} {k:Nat} {e:El} {fs:List Int} {xs:List El} {b:Bool}(he:es[k]? = some e) (h:fw sh es k=(fs,xs,b)) :
  fw sh es (k+1)=(fs++[(ja sh b e).1],xs++[(ja sh b e).2.1],(ja sh b e).2.2):=by
 rw[fw,he,h]
theorem Cb (sh:Bool) (es:List El) (k:Nat):(fw sh es k).1.length≤k∧(fw sh es k).2.1.length≤k:=by
 induction k with
 | zero=>exact⟨bR,bR⟩
 | succ k ih =>
  unfold fw;split
  .omega
  .simp;omega
theorem ye:(prog.info? 111).map (fun i=>(i.zero,i.size,i.bytes))=some (some (.agg #[.int .i64 0,.int .i64 0,.int .i64 0,.bool false]),4,32):=by kernel_rfl
theorem U7 (es:List El) (e:El):kt (es++[e])=kt es++elC e:=by simp[kt]
theorem ah.snoc {w:World} {B:Nat} {v:Value} {es:List El} {e:El}(h:w.ownsRow B 111 4 v (es.length+1) (kt es++elC e)):ah w B v (es++[e]):=by
 unfold ah;rw[U7,List.length_append];exact h
theorem mh (w:World) (n:Nat) (e:El) (t:TypeId) (hn:n=w.heap.size):∀ j u,(elC e)[j]? = some u→(w.alloc (.cells #[.int .i64 e.first,.int .i64 e.second,.int .i64 e.third,.bool e.varies] t)).cell? ((⟨n,0,none⟩:Addr).add j)=some u:=by
 subst hn;intro j u hj;match j,hj with
 | 0,hj=>simp[elC]at hj;subst hj;simp[Addr.add]
 | 1,hj=>simp[elC]at hj;subst hj;simp[Addr.add]
 | 2,hj=>simp[elC]at hj;subst hj;simp[Addr.add]
 | 3,hj=>simp[elC]at hj;subst hj;simp[Addr.add]
 | j+4,hj=>simp[elC]at hj
theorem ic (w:World) (n:Nat) (x:Value) (t:TypeId) (hn:n=w.heap.size):∀ j u,[x][j]? = some u→(w.alloc (.cells #[x] t)).cell? ((⟨n,0,none⟩:Addr).add j)=some u:=by
 subst hn;intro j u hj;match j,hj with
 | 0,hj=>simp at hj;subst hj;simp[Addr.add]
theorem Em {b:Bool} {e:El}:ja false b e=(65535,e,b):=by simp[ja]
theorem Z4 {b:Bool} {e:El}(h:e.varies=true):ja true b e=(e.first,elZ,true):=by simp[ja,h]
theorem Ul {e:El}(h:e.varies=false) (h0:e.first=0):ja true true e=(0,elZ,true):=by simp[ja,h,h0]
theorem Qp {b:Bool} {e:El}(h:e.varies=false) (h0:e.first≠0):ja true b e=(65535,e,false):=by simp[ja,h,h0]
theorem Um {e:El}(h:e.varies=false) (h0:e.first=0) (h1:e.second=0) (h2:e.third=0):ja true false e=(0,e,false):=by simp[ja,h,h0,h1,h2]
theorem He {e:El}(h:e.varies=false) (h0:e.first=0) (h1:¬ (e.second=0∧e.third=0)):ja true false e=(65535,e,false):=by simp[ja,h,h0,h1]
theorem I9 {P:Program}(w:World) (t ty e:TypeId) (i:TypeInfo) (ht:P.underlying t=some (.slice e)) (hi:P.info? e=some i) (b:Option Addr) (n c:Nat) (a0:n≤c) :
  (Builtin.append_ #[t,t] ty #[.slice b n c,.slice none 0 0]).run P w=.ok (.slice b n c) w:=by
 cases b <;> simp[Builtin.append_,run_underlying ht,sizeOf,typeInfo,hi,a0,storeCells,Builtin.lenOf,Builtin.firstCells]
theorem Yo (es fs:List El):kt (es++fs)=kt es++kt fs:=by simp[kt]
theorem Yp (es:List El):∀ u ∈ kt es,u.oneCell'=true:=by
 intro u hu;unfold kt at hu;obtain⟨e,_,he⟩:=List.mem_flatMap.1 hu;simp[elC]at he
 rcases he with rfl|rfl|rfl|rfl <;> rfl
theorem A8 {w:World} {a2:Array Oper} {rest:List Oper} {o:Oper} {a:Act} {Q:Exit→Act→World→Prop}(a1:o.guard=none) (s x:Operand)
  (ho:o.op=.call { callee:=.builtin .append,args:=#[s,x],argTypes:=#[166,166] }) (B B':Nat) (v vx:Value) (es fs:List El) (hs:a.eval s=v) (hx:a.eval x=vx) (hE:ah w B v es) (hF:ah w B' vx fs)
  (a7:es.length+fs.length≤1048576) (a0:B≤w.heap.size) (h:∀ v' w',ah w' B v' (es++fs)→w.grownBy w' v.ownBlock→wpList prog a2 Q rest (a.put o.dst v') w'):wpList prog a2 Q (o::rest) a w:=by
 obtain⟨i1,hi1,a6,a4,a5⟩:=info_parts ye;rcases hF.form with ⟨rfl,rfl⟩|⟨g,cap,rfl,_,_⟩
 .obtain⟨b,n,c,rfl,hnc⟩:∃ b n c,v=.slice b n c∧n≤c:=by
   rcases hE.form with ⟨rfl,rfl⟩|⟨g,cap,rfl,h1,_⟩
   .exact⟨_,_,_,rfl,bR⟩
   .exact⟨_,_,_,rfl,h1⟩
  refine Go.Lib.wpList_append_run w a1 s x 166 166 ho _ _ hs hx _ _ (I9 w _ _ _ i1 underlying166 hi1 b n c hnc) ?_;refine h _ _ ?_ ⟨rfl,rfl,rfl,bR,fun _ _ _=>rfl⟩;rw[List.append_nil];exact hE
 .refine wpList_append_own w a1 s x 166 ho B 111 i1 _ 4 32 underlying166 hi1 a6 a4 a5 rfl (by decide) v es.length (kt es) hs hE ⟨g,0,none⟩ fs.length cap (kt fs) hx (ts fs) (fun j u hj=>?_) (Yp fs) (by unfold maxLen;omega) (by omega) a0 (fun v' w' h1 h2 _=>h v' w' ?_ h2)
  .have a3:j<fs.length*4:=by
    have:=(List.getElem?_eq_some_iff.1 hj).1;rw[ts]at this;exact this
   have:=World.ownsRow.cellAt hF j a3;rw[hj]at this;show w.cell? ((⟨g,0,none⟩:Addr).add j)=some u
   rw[<- this];unfold Addr.add;split
   .rename_i h0;subst h0;rfl
   .simp
  .unfold ah
   rw[Yo,List.length_append];exact h1
theorem dg {u:World} {B B' e e' size a0 n n':Nat} {v v':Value} {xs a4:List Value}(h:u.ownsRow B e size v n xs) (h':u.ownsRow B' e' a0 v' n' a4) (he:e≠e'):v.ownBlock=none∨v.ownBlock≠v'.ownBlock:=by
 rcases h.2 with ⟨rfl,_⟩|⟨g,cap,cur,rfl,_,hg,_⟩
 .exact .inl rfl
 .refine .inr fun c=>?_
  rcases h'.2 with ⟨rfl,_⟩|⟨g',a2,a3,rfl,_,a1,_⟩
  .cases c
  .have:g=g':=Option.some.inj c
   subst this;rw[hg]at a1;injection a1 with e1;injection e1 with _ e2 _;exact he e2
def D9:Value→Nat
 | .string t=>t.size
 | _=>0
def ar1 (s:ByteArray) (w:World) (sv v b:Value) (wr:World):Prop :=
 ∃ (t:ByteArray) (f bad:Nat) (acc:List Int),sv=.string t∧b=.int .i64 bad∧ab wr w.heap.size v acc∧Below w.heap.size w wr ∧
  acc++(Dec.decT f t).1=(Dec.decT s.size s).1∧bad+(Dec.decT f t).2=(Dec.decT s.size s).2∧t.size≤f∧acc.length+t.size≤s.size∧bad+t.size≤s.size
theorem Jp {t:ByteArray} {r:Int} {n:Nat} {ok:Bool}(h0:0<t.size) (ho:Dec.one t=(r,n,ok)) (f:Nat) :
  Dec.decT (f+1) t=(r::(Dec.decT f (t.extract n t.size)).1,(Dec.decT f (t.extract n t.size)).2+(if ok then 0 else 1)):=by
 simp only[Dec.decT,if_pos h0,ho]
theorem ak1 {v:Value} {a a':Int}(h:a=a'):Ending.returned (.tuple #[v,.int .i64 a])=.returned (.tuple #[v,.int .i64 a']):=by rw[h]
theorem Cg (s:ByteArray) (w:World) (hs:s.size≤1073741824) :
  Calls prog 39 #[.string s] w fun e w'=>∃ v,e=.returned (.tuple #[v,.int .i64 ((Dec.decT s.size s).2:Int)])∧ab w' w.heap.size v (Dec.decT s.size s).1∧Below w.heap.size w w':=by
 obtain⟨i0,hi,ag,ah,ai⟩:=info_parts dv;go_enter func39,ntmps39;go_wp2;go_loopw [0,4,5] (fun sv v b wr=>ar1 s w sv v b wr) (fun sv _ _ _=>D9 sv)
 case atStart=>exact⟨s,s.size,0,[],rfl,rfl,World.ownsRow_nil _ _ _ _,bX,by simp,by simp,bR,by simp,by simp⟩
 case round =>
  obtain⟨t,f,bad,acc,rfl,rfl,a1,a8,hA,hB,hf,aj,ak⟩:=hrel;have HA:Hid _:=hA;have HB:Hid _:=hB;clear hA hB;unfold ab at a1;by_cases hp:0<t.size
  .obtain⟨r,n,ok,HO⟩:∃ r n ok,Hid (Dec.one t=(r,n,ok)):=⟨_,_,_,rfl⟩
   have hn:=Dec.one_le t hp;rw[HO.out]at hn;have am:1≤n:=hn.1;have an:n≤t.size:=hn.2;clear hn;have O:=fun w=>ap1 t hp (by unfold maxLen;omega) w
   rw[HO.out]at O;obtain⟨f',rfl⟩:∃ f',f=f'+1:=⟨f-1,by omega⟩
   have ae:=Jp hp HO.out f';have a6:Hid _:=HA.out;have a7:Hid _:=HB.out;unfold Hid at a6 a7;rw[ae]at a6 a7;have a3:Hid _:=a6;have a4:Hid _:=a7;clear a6 a7 ae HA HB;have ao:=a8.size;have al:=Dec.size_extract t n
   cases ok
   all_goals
    go_wp2_with (first
     | (go_at_call 90;refine (O _).mono ?_;rintro e w' ⟨rfl,rfl⟩)
     | (at_builtin;refine wpList_append_own _ rfl _ _ 39 rfl w.heap.size 3 i0 (.int .i64 0) 1 8 underlying39 hi ag ah ai rfl (by decide) _ _ _ rfl (a1.alloc _) ⟨_,0,none⟩ 1 1 [.int .i64 r] rfl rfl (cell_one_new _ _ _) (fun x hx=>by simp at hx;subst hx;rfl) (by unfold maxLen;omega) (by omega) (by simp;omega) ?_;intro v' w3 a2 a0 _))
   .have aa:=Below.grown (a8.alloc (by omega) _) a0 (by simp;omega) (fun j hj=>(a1.lt _ hj).1)
    have a5:=a3.out;have a9:bad+((Dec.decT f' (t.extract n t.size)).2+1)=_:=a4.out;exact⟨⟨t.extract n t.size,f',bad+1,acc++[r],rfl,by go_num,ab.snoc a2,aa,by simpa using a5,by omega,by omega,by simp;omega,by omega⟩,by simp only[D9];omega⟩
   .have aa:=Below.grown (a8.alloc (by omega) _) a0 (by simp;omega) (fun j hj=>(a1.lt _ hj).1)
    have a5:=a3.out;have a9:bad+((Dec.decT f' (t.extract n t.size)).2+0)=_:=a4.out;exact⟨⟨t.extract n t.size,f',bad,acc++[r],rfl,by go_num,ab.snoc a2,aa,by simpa using a5,by omega,by omega,by simp;omega,by omega⟩,by simp only[D9];omega⟩
  .have af:t.size=0:=by omega
   have a3:=HA.out;have a4:=HB.out;rw[Dec.decT_end _ _ af]at a3 a4;have a5:Hid _:=a3;have a9:Hid _:=a4;clear a3 a4 HA HB;go_wp2;go_ret2;have ac:=a5.out;have ad:=a9.out;simp only[List.append_nil,Nat.add_zero]at ac ad;refine⟨_,ak1 (by rw[ad]),?_,a8⟩;rw[<- ac];exact a1
def rn4 (s:ByteArray):List Int:=nD (Dec.decT s.size s).1
def ok4 (s:ByteArray):Bool:=decide (s.size≤200∧(rn4 s).length≤200)
theorem ap4 {w:World} {B B' e size n:Nat} {v:Value} {xs:List Value}(h:w.ownsRow B' e size v n xs) (hB:B≤B'):w.ownsRow B e size v n xs:=by
 obtain⟨h1,h2⟩:=h;refine⟨h1,?_⟩;rcases h2 with h2|⟨g,cap,cur,a,b,c⟩
 .exact .inl h2
 .exact .inr ⟨g,cap,cur,a,by omega,c⟩
def ak5 (s:ByteArray) (w:World) (v b nx:Value) (wr:World):Prop :=
 ∃ (p q f bad:Nat) (acc:List Int),b=.int .i64 bad∧nx=.int .i64 q∧wr.heap[w.heap.size]? = some (.stringIter s p)∧ab wr (w.heap.size+1) v acc∧Below w.heap.size w wr ∧
  p≤q∧q≤s.size∧(∀ j,p≤j→j<q→128≤Dec.bt s j∧Dec.bt s j≤191) ∧
  acc++(Dec.decT f (s.extract q s.size)).1=(Dec.decT s.size s).1∧bad+(Dec.decT f (s.extract q s.size)).2=(Dec.decT s.size s).2∧s.size≤q+f∧acc.length≤q∧bad≤q
theorem z7 (s:ByteArray):s.extract 0 s.size=s:=by simp
theorem Ol (s:ByteArray) (w:World) (hs:s.size≤1073741824) :
  Calls prog 196 #[.string s] w fun e w'=>∃ v,e=.returned (.tuple #[v,.int .i64 ((Dec.decT s.size s).2:Int)])∧ab w' w.heap.size v (Dec.decT s.size s).1∧Below w.heap.size w w':=by
 obtain⟨i0,hi,aE,aF,aG⟩:=info_parts dv;go_enter func196,ntmps196;go_wp2;go_loopw [4,5,6] (fun v b nx wr=>ak5 s w v b nx wr) (fun _ _ _ wr=>s.size-wr.iterPos w.heap.size)
 case atStart=>exact⟨0,0,s.size,0,[],rfl,rfl,World.iter_heap w s 0,World.ownsRow_nil _ _ _ _,bY _,bR,Nat.zero_le _,fun j _ h=>by omega,by rw[z7];simp,by rw[z7];simp,by omega,by simp,bR⟩
 case round =>
  obtain⟨p,q,f,bad,acc,rfl,rfl,ac,a7,ak,aJ,aD,ap,hA,hB,hf,ay,az⟩:=hrel;have HA:Hid _:=hA;have HB:Hid _:=hB;have HC:Hid _:=ap;clear hA hB ap;have a4:=iterPos_of ac;unfold ab at a7;by_cases hp:p<s.size
  .have av:∀ ty,(Instr.next (.pointer (some ⟨w.heap.size,0,none⟩)) true ty).run prog wr=_:=fun ty=>Lib.run_next_any_at wr w.heap.size s p ty ac hp
   have af:=decode_le s p;have a3:=Lib.iterAt_heap wr w.heap.size s p (p+(Utf8.decode s p).2) ac;have a5:=Lib.below_iterAt ak (k:=w.heap.size) bR s (p+(Utf8.decode s p).2);have a0:=ownsRow_iterAt a7 (k:=w.heap.size) (by omega) s (p+(Utf8.decode s p).2);obtain⟨W1,ao⟩:∃ W1,W1=wr.iterAt w.heap.size s (p+(Utf8.decode s p).2):=⟨_,rfl⟩
   rw[<- ao]at av a3 a5 a0;have aj:=lt_of_block a3;clear ao ac a7 ak;by_cases ar:p<q
   .have ax:=Dec.decode_cont s p hp (HC.out p bR ar).1 (HC.out p bR ar).2
    have HW:Hid _:=ax;clear ax;go_wp2;go_roundw
    case rel=>exact⟨p+(Utf8.decode s p).2,q,f,bad,acc,rfl,rfl,a3,a0,a5,by rw[HW.out];omega,aD,fun j j1 j2=>HC.out j (by rw[HW.out]at j1;omega) j2,HA.out,HB.out,hf,ay,az⟩
    case measure=>rw[iterPos_of a3,a4,HW.out];omega
   .have aC:q=p:=by omega
    subst aC;have aq:=Dec.size_extract s q;have hd:=Dec.decode_one s q hp;obtain⟨r,n,ok,HO⟩:∃ r n ok,Hid (Dec.one (s.extract q s.size)=(r,n,ok)):=⟨_,_,_,rfl⟩
    have hn:=Dec.one_le (s.extract q s.size) (by omega);have a1:=Dec.one_cont (s.extract q s.size);rw[HO.out]at hn hd a1;have HD:Hid _:=hd;have HT:Hid _:=a1;clear hd a1;have aI:1≤n:=hn.1;have aB:n≤(s.extract q s.size).size:=hn.2;clear hn;have O:=fun w=>Z5 (s.extract q s.size) (by omega) (by unfold maxLen;omega) w
    rw[HO.out]at O;obtain⟨f',rfl⟩:∃ f',f=f'+1:=⟨f-1,by omega⟩
    have al:=Jp (by omega) HO.out f';rw[Dec.extract_extract]at al;have ag:=HA.out;have ah:=HB.out;rw[al]at ag ah;have a9:Hid _:=ag;have a8:Hid _:=ah;have aH:Hid _:=aq;have au:q+n≤s.size:=by omega
    clear ag ah al HA HB aq aB;have aK:=a5.size
    cases ok
    all_goals
     go_wp2_with (first
      | (go_at_call 209;refine (O _).mono ?_;rintro e w' ⟨rfl,rfl⟩)
      | (at_builtin;refine wpList_append_own _ rfl _ _ 39 rfl (w.heap.size+1) 3 i0 (.int .i64 0) 1 8 underlying39 hi aE aF aG rfl (by decide) _ _ _ rfl (a0.alloc _) ⟨_,0,none⟩ 1 1 [.int .i64 ((Utf8.decode s q).1:Int)] rfl rfl (cell_one_new _ _ _) (fun x hx=>by simp at hx;subst hx;rfl) (by unfold maxLen;omega) (by omega) (by simp;omega) ?_;intro v' w3 ad a2 _))
     have a6:w3.heap[w.heap.size]? = some (.stringIter s (q+(Utf8.decode s q).2)):=by
      rw[a2.block w.heap.size (by simp;omega) (fun h=>by have:=(a0.lt _ h.symm).1;omega),Below.heap_alloc _ _ _ aj];exact a3
     have aa:Below w.heap.size w w3:=Below.grown (a5.alloc (by omega) _) a2 (by simp;omega) (fun j hj=>by have:=(a0.lt _ hj).1;omega);have hI:=ab.snoc ad;have ae:=a9.out
    .have af:((Utf8.decode s q).1:Int)=r:=HD.out.1
     have aA:(Utf8.decode s q).2=1:=HD.out.2;rw[af]at hI;have ai:bad+((Dec.decT f' (s.extract (q+n) s.size)).2+1)=_:=a8.out;refine⟨⟨q+(Utf8.decode s q).2,q+n,f',bad+1,acc++[r],by go_num,by go_num,a6,hI,aa,by omega,au,?_,by simpa using ae,by omega,by omega,by simp;omega,by omega⟩,by rw[iterPos_of a6,a4];omega⟩;intro j j1 j2;have:=HT.out trivial (j-q) (by omega) (by show j-q<n;omega);rw[Dec.bt_extract s q (j-q) (by omega),show q+(j-q)=j by omega]at this;exact this
    .have af:((Utf8.decode s q).1:Int)=r:=HD.out.1
     have aA:(Utf8.decode s q).2=n:=HD.out.2;rw[af]at hI;have ai:bad+((Dec.decT f' (s.extract (q+n) s.size)).2+0)=_:=a8.out;exact⟨⟨q+(Utf8.decode s q).2,q+n,f',bad,acc++[r],by go_num,by go_num,a6,hI,aa,by omega,au,fun j j1 j2=>by omega,by simpa using ae,by omega,by omega,by simp;omega,by omega⟩,by rw[iterPos_of a6,a4];omega⟩
  .have av:∀ ty,(Instr.next (.pointer (some ⟨w.heap.size,0,none⟩)) true ty).run prog wr=_:=fun ty=>Lib.run_next_end_at wr w.heap.size s p ty ac hp
   have aw:(s.extract q s.size).size=0:=by rw[Dec.size_extract];omega
   have a9:=HA.out;have a8:=HB.out;rw[Dec.decT_end _ _ aw]at a9 a8;have ae:Hid _:=a9;have ai:Hid _:=a8;clear a9 a8 HA HB aw;go_wp2;go_ret2;have am:=ae.out;have an:=ai.out;simp only[List.append_nil,Nat.add_zero]at am an;refine⟨_,ak1 (by rw[an]),?_,ak⟩;rw[<- am];exact ap4 a7 (by omega)
theorem Qc (s:ByteArray) (p:Nat):(Utf8.decode s p).1≤1114111∧((Utf8.decode s p).1<55296∨57343<(Utf8.decode s p).1):=by
 have hb:∀ k,(s.get! (p+k)).toNat<256:=fun k=>(s.get! (p+k)).toNat_lt
 have h0:=hb 0;have h1:=hb 1;have h2:=hb 2;have h3:=hb 3;simp only[Utf8.decode];repeat' split
 all_goals simp_all [Utf8.runeError,Utf8.valid]
 all_goals omega
theorem ad6 (t:ByteArray) (h:0<t.size):bp (Dec.one t).1=true:=by
 have hd:=(Dec.decode_one t 0 h).1;rw[z7]at hd;have hg:=Qc t 0;rw[<- hd];exact decide_eq_true (by omega)
theorem Fj:∀ (f:Nat) (t:ByteArray),∀ x ∈ (Dec.decT f t).1,bp x=true:=by
 intro f;induction f with
 | zero=>intro t x hx;simp[Dec.decT]at hx
 | succ f ih =>
  intro t x hx;simp only[Dec.decT]at hx;split at hx
  .rename_i h0
   simp only[List.mem_cons]at hx;rcases hx with rfl|hx
   .exact ad6 t h0
   .exact ih _ x hx
  .simp at hx
def ay0 (w:World) (sh:Bool) (es:List El) (v6 v7 bv iv:Value) (wr:World):Prop :=
 ∃ (k:Nat) (fs:List Int) (xs:List El) (b:Bool),k≤es.length∧iv=.int .i64 k∧bv=.bool b∧fw sh es k=(fs,xs,b)∧ab wr w.heap.size v6 fs∧ah wr w.heap.size v7 xs∧Below w.heap.size w wr
theorem Uo (w:World) (B g cap:Nat) (es:List El) (sh:Bool) (hz:es.length≤1048576) (hL:ah w B (.slice (some ⟨g,0,none⟩) es.length cap) es) :
  Calls prog 133 #[.slice (some ⟨g,0,none⟩) es.length cap,.bool sh] w fun e w'=>∃ v v',e=.returned (.tuple #[v,v'])∧ab w' w.heap.size v (dc sh es)∧ah w' w.heap.size v' (ck sh es)∧Below w.heap.size w w':=by
 obtain⟨i0,hi0,aD,az,aB⟩:=info_parts dv;obtain⟨i1,hi1,aE,aA,aC⟩:=info_parts ye;go_enter func133,ntmps133;go_wp2;go_loopw [6,7,8,14] (fun v6 v7 bv iv wr=>ay0 w sh es v6 v7 bv iv wr) (fun _ _ _ iv _=>es.length-(intOf iv).toNat)
 case atStart=>exact⟨0,[],[],false,Nat.zero_le _,rfl,rfl,rfl,World.ownsRow_nil _ _ _ _,World.ownsRow_nil _ _ _ _,bX⟩
 case round =>
  obtain⟨k,fs,xs,b,hk,rfl,rfl,hf,hI,hE,a4⟩:=hrel;have aF:=Cb sh es k;rw[hf]at aF;have aH:fs.length≤k:=aF.1;have aI:xs.length≤k:=aF.2;have HF:Hid (fw sh es k=(fs,xs,b)):=hf;clear hf aF;by_cases ay:k<es.length
  .obtain⟨e,he⟩:∃ e,es[k]? = some e:=⟨_,List.getElem?_eq_getElem ay⟩
   have ai:=Al he HF.out;obtain⟨a0,a1,a2,a3⟩:=(hL.below a4).cells k e he;have aN:(k:Int)<(es.length:Int):=by omega
   have aO:=a4.size;unfold ab at hI;unfold ah at hE;clear he HF hL
   cases sh
   .rw[Em]at ai
    have ap:Hid _:=ai;clear ai;have aa:(wr.alloc (.cells #[.int .i64 e.first,.int .i64 e.second,.int .i64 e.third,.bool e.varies] 111)).heap[wr.heap.size]? = some (.cells #[.int .i64 e.first,.int .i64 e.second,.int .i64 e.third,.bool e.varies] 111):=heap_alloc_new wr _;have a7:Hid _:=aa;clear aa;go_wp2_with (at_builtin;refine wpList_append_own _ rfl _ _ 39 rfl w.heap.size 3 i0 (.int .i64 0) 1 8 underlying39 hi0 aD az aB rfl (by decide) _ _ _ rfl ((hI.alloc _).alloc _) ⟨wr.heap.size+1,0,none⟩ 1 1 [.int .i64 65535] rfl rfl (ic _ _ _ _ (by simp)) (fun u hu=>by simp at hu;subst hu;rfl) (by unfold maxLen;omega) (by omega) (by simp;omega) ?_)
    intro ao w2 am ae _;have ak:ab w2 w.heap.size ao (fs++[65535]):=ab.snoc am;have a8:ah w2 w.heap.size u7 xs:=World.ownsRow.kept ((hE.alloc _).alloc _) ae (dg hE hI (by decide));have ad:=fun j hj=>(World.ownsRow.lt hI j hj).2
    have a9:w2.heap[wr.heap.size]? = some (.cells #[.int .i64 e.first,.int .i64 e.second,.int .i64 e.third,.bool e.varies] 111):=by
     rw[ae.block wr.heap.size (by simp;omega) (fun c=>by have:=ad wr.heap.size c.symm;omega),Below.heap_alloc _ _ _ (by simp)];exact a7.out
    have a5:Below w.heap.size w w2:=Below.grown ((a4.alloc a4.size _).alloc (a4.alloc a4.size _).size _) ae ((a4.alloc a4.size _).alloc (a4.alloc a4.size _).size _).size (fun j hj=>(World.ownsRow.lt hI j hj).1);have d0:=cell_of_row _ _ 0 _ _ _ a9;have d1:=cell_of_row _ _ 1 _ _ _ a9;have d2:=cell_of_row _ _ 2 _ _ _ a9;have d3:=cell_of_row _ _ 3 _ _ _ a9;have av:=a5.size;have af:Hid (ab _ _ _ _):=ak;have a6:Hid _:=a5;clear am ae a9 a7 ad hI hE ak a5 a0 a1 a2 a3;unfold ah at a8;go_wp2_with (at_builtin;refine wpList_append_own _ rfl _ _ 166 rfl w.heap.size 111 i1 _ 4 32 underlying166 hi1 aE aA aC rfl (by decide) _ _ _ rfl (a8.alloc _) ⟨w2.heap.size,0,none⟩ 1 1 (elC e) rfl rfl (mh _ _ e _ (by simp)) ?hone (by unfold maxLen;omega) (by omega) (by simp;omega) ?_)
    case hone =>
     intro u hu;simp[elC]at hu
     rcases hu with rfl|rfl|rfl|rfl <;> rfl
    intro aw w3 an ag _;have aj:ah w3 w.heap.size aw (xs++[e]):=ah.snoc an;have al:ab w3 w.heap.size ao (fs++[65535]):=World.ownsRow.kept (World.ownsRow.alloc af.out _) ag (dg af.out a8 (by decide));have ac:Below w.heap.size w w3:=Below.grown (a6.out.alloc a6.out.size _) ag (a6.out.alloc a6.out.size _).size (fun j hj=>(World.ownsRow.lt a8 j hj).1);have ar:Hid (ah _ _ _ _):=aj;have au:Hid (ab _ _ _ _):=al;have aq:Hid _:=ac;clear an ag aj al ac af a6 d0 d1 d2 d3 a8;go_wp2;exact⟨⟨k+1,_,_,b,ay,by go_num,rfl,ap.out,au.out,ar.out,aq.out⟩,by simp[intOf];omega⟩
   .cases hv:e.varies
    .rw[hv]at a3
     by_cases h0:e.first=0
     .rw[h0]at a0
      cases b
      .by_cases h1:e.second=0
       .rw[h1]at a1
        by_cases h2:e.third=0
        .rw[h2]at a2
         rw[Um hv h0 h1 h2]at ai;have ap:Hid _:=ai;clear ai;have ax:e=⟨0,0,0,false⟩:=by cases e;simp_all
         rw[ax]at ap;have aa:(wr.alloc (.cells #[.int .i64 0,.int .i64 0,.int .i64 0,.bool false] 111)).heap[wr.heap.size]? = some (.cells #[.int .i64 0,.int .i64 0,.int .i64 0,.bool false] 111):=heap_alloc_new wr _;have a7:Hid _:=aa;clear aa;go_wp2_with (at_builtin;refine wpList_append_own _ rfl _ _ 39 rfl w.heap.size 3 i0 (.int .i64 0) 1 8 underlying39 hi0 aD az aB rfl (by decide) _ _ _ rfl ((hI.alloc _).alloc _) ⟨wr.heap.size+1,0,none⟩ 1 1 [.int .i64 0] rfl rfl (ic _ _ _ _ (by simp)) (fun u hu=>by simp at hu;subst hu;rfl) (by unfold maxLen;omega) (by omega) (by simp;omega) ?_)
         intro ao w2 am ae _;have ak:ab w2 w.heap.size ao (fs++[0]):=ab.snoc am;have a8:ah w2 w.heap.size u7 xs:=World.ownsRow.kept ((hE.alloc _).alloc _) ae (dg hE hI (by decide));have ad:=fun j hj=>(World.ownsRow.lt hI j hj).2
         have a9:w2.heap[wr.heap.size]? = some (.cells #[.int .i64 0,.int .i64 0,.int .i64 0,.bool false] 111):=by
          rw[ae.block wr.heap.size (by simp;omega) (fun c=>by have:=ad wr.heap.size c.symm;omega),Below.heap_alloc _ _ _ (by simp)];exact a7.out
         have a5:Below w.heap.size w w2:=Below.grown ((a4.alloc a4.size _).alloc (a4.alloc a4.size _).size _) ae ((a4.alloc a4.size _).alloc (a4.alloc a4.size _).size _).size (fun j hj=>(World.ownsRow.lt hI j hj).1);have d0:=cell_of_row _ _ 0 _ _ _ a9;have d1:=cell_of_row _ _ 1 _ _ _ a9;have d2:=cell_of_row _ _ 2 _ _ _ a9;have d3:=cell_of_row _ _ 3 _ _ _ a9;have av:=a5.size;have af:Hid (ab _ _ _ _):=ak;have a6:Hid _:=a5;clear am ae a9 a7 ad hI hE ak a5 a0 a1 a2 a3;unfold ah at a8;go_wp2_with (at_builtin;refine wpList_append_own _ rfl _ _ 166 rfl w.heap.size 111 i1 _ 4 32 underlying166 hi1 aE aA aC rfl (by decide) _ _ _ rfl (a8.alloc _) ⟨w2.heap.size,0,none⟩ 1 1 (elC (⟨0,0,0,false⟩:El)) rfl rfl (mh _ _ (⟨0,0,0,false⟩:El) _ (by simp)) ?hone (by unfold maxLen;omega) (by omega) (by simp;omega) ?_)
         case hone =>
          intro u hu;simp[elC]at hu
          rcases hu with rfl|rfl|rfl|rfl <;> rfl
         intro aw w3 an ag _;have aj:ah w3 w.heap.size aw (xs++[(⟨0,0,0,false⟩:El)]):=ah.snoc an;have al:ab w3 w.heap.size ao (fs++[0]):=World.ownsRow.kept (World.ownsRow.alloc af.out _) ag (dg af.out a8 (by decide));have ac:Below w.heap.size w w3:=Below.grown (a6.out.alloc a6.out.size _) ag (a6.out.alloc a6.out.size _).size (fun j hj=>(World.ownsRow.lt a8 j hj).1);have ar:Hid (ah _ _ _ _):=aj;have au:Hid (ab _ _ _ _):=al;have aq:Hid _:=ac;clear an ag aj al ac af a6 d0 d1 d2 d3 a8;go_wp2;exact⟨⟨k+1,_,_,false,ay,by go_num,rfl,ap.out,au.out,ar.out,aq.out⟩,by simp[intOf];omega⟩
        .rw[He hv h0 (fun c=>h2 c.2)]at ai
         have ap:Hid _:=ai;have aM:(e.third == 0)=false:=by simpa using h2
         clear ai;have ax:e=⟨0,0,e.third,false⟩:=by cases e;simp_all
         rw[ax]at ap;clear ax;have aa:(wr.alloc (.cells #[.int .i64 0,.int .i64 0,.int .i64 e.third,.bool false] 111)).heap[wr.heap.size]? = some (.cells #[.int .i64 0,.int .i64 0,.int .i64 e.third,.bool false] 111):=heap_alloc_new wr _;have a7:Hid _:=aa;clear aa;go_wp2_with (at_builtin;refine wpList_append_own _ rfl _ _ 39 rfl w.heap.size 3 i0 (.int .i64 0) 1 8 underlying39 hi0 aD az aB rfl (by decide) _ _ _ rfl ((hI.alloc _).alloc _) ⟨wr.heap.size+1,0,none⟩ 1 1 [.int .i64 65535] rfl rfl (ic _ _ _ _ (by simp)) (fun u hu=>by simp at hu;subst hu;rfl) (by unfold maxLen;omega) (by omega) (by simp;omega) ?_)
         intro ao w2 am ae _;have ak:ab w2 w.heap.size ao (fs++[65535]):=ab.snoc am;have a8:ah w2 w.heap.size u7 xs:=World.ownsRow.kept ((hE.alloc _).alloc _) ae (dg hE hI (by decide));have ad:=fun j hj=>(World.ownsRow.lt hI j hj).2
         have a9:w2.heap[wr.heap.size]? = some (.cells #[.int .i64 0,.int .i64 0,.int .i64 e.third,.bool false] 111):=by
          rw[ae.block wr.heap.size (by simp;omega) (fun c=>by have:=ad wr.heap.size c.symm;omega),Below.heap_alloc _ _ _ (by simp)];exact a7.out
         have a5:Below w.heap.size w w2:=Below.grown ((a4.alloc a4.size _).alloc (a4.alloc a4.size _).size _) ae ((a4.alloc a4.size _).alloc (a4.alloc a4.size _).size _).size (fun j hj=>(World.ownsRow.lt hI j hj).1);have d0:=cell_of_row _ _ 0 _ _ _ a9;have d1:=cell_of_row _ _ 1 _ _ _ a9;have d2:=cell_of_row _ _ 2 _ _ _ a9;have d3:=cell_of_row _ _ 3 _ _ _ a9;have av:=a5.size;have af:Hid (ab _ _ _ _):=ak;have a6:Hid _:=a5;clear am ae a9 a7 ad hI hE ak a5 a0 a1 a2 a3;unfold ah at a8;go_wp2_with (at_builtin;refine wpList_append_own _ rfl _ _ 166 rfl w.heap.size 111 i1 _ 4 32 underlying166 hi1 aE aA aC rfl (by decide) _ _ _ rfl (a8.alloc _) ⟨w2.heap.size,0,none⟩ 1 1 (elC (⟨0,0,e.third,false⟩:El)) rfl rfl (mh _ _ (⟨0,0,e.third,false⟩:El) _ (by simp)) ?hone (by unfold maxLen;omega) (by omega) (by simp;omega) ?_)
         case hone =>
          intro u hu;simp[elC]at hu
          rcases hu with rfl|rfl|rfl|rfl <;> rfl
         intro aw w3 an ag _;have aj:ah w3 w.heap.size aw (xs++[(⟨0,0,e.third,false⟩:El)]):=ah.snoc an;have al:ab w3 w.heap.size ao (fs++[65535]):=World.ownsRow.kept (World.ownsRow.alloc af.out _) ag (dg af.out a8 (by decide));have ac:Below w.heap.size w w3:=Below.grown (a6.out.alloc a6.out.size _) ag (a6.out.alloc a6.out.size _).size (fun j hj=>(World.ownsRow.lt a8 j hj).1);have ar:Hid (ah _ _ _ _):=aj;have au:Hid (ab _ _ _ _):=al;have aq:Hid _:=ac;clear an ag aj al ac af a6 d0 d1 d2 d3 a8;go_wp2;exact⟨⟨k+1,_,_,false,ay,by go_num,rfl,ap.out,au.out,ar.out,aq.out⟩,by simp[intOf];omega⟩
       .rw[He hv h0 (fun c=>h1 c.1)]at ai
        have ap:Hid _:=ai;have aL:(e.second == 0)=false:=by simpa using h1
        clear ai;have ax:e=⟨0,e.second,e.third,false⟩:=by cases e;simp_all
        rw[ax]at ap;clear ax;have aa:(wr.alloc (.cells #[.int .i64 0,.int .i64 e.second,.int .i64 e.third,.bool false] 111)).heap[wr.heap.size]? = some (.cells #[.int .i64 0,.int .i64 e.second,.int .i64 e.third,.bool false] 111):=heap_alloc_new wr _;have a7:Hid _:=aa;clear aa;go_wp2_with (at_builtin;refine wpList_append_own _ rfl _ _ 39 rfl w.heap.size 3 i0 (.int .i64 0) 1 8 underlying39 hi0 aD az aB rfl (by decide) _ _ _ rfl ((hI.alloc _).alloc _) ⟨wr.heap.size+1,0,none⟩ 1 1 [.int .i64 65535] rfl rfl (ic _ _ _ _ (by simp)) (fun u hu=>by simp at hu;subst hu;rfl) (by unfold maxLen;omega) (by omega) (by simp;omega) ?_)
        intro ao w2 am ae _;have ak:ab w2 w.heap.size ao (fs++[65535]):=ab.snoc am;have a8:ah w2 w.heap.size u7 xs:=World.ownsRow.kept ((hE.alloc _).alloc _) ae (dg hE hI (by decide));have ad:=fun j hj=>(World.ownsRow.lt hI j hj).2
        have a9:w2.heap[wr.heap.size]? = some (.cells #[.int .i64 0,.int .i64 e.second,.int .i64 e.third,.bool false] 111):=by
         rw[ae.block wr.heap.size (by simp;omega) (fun c=>by have:=ad wr.heap.size c.symm;omega),Below.heap_alloc _ _ _ (by simp)];exact a7.out
        have a5:Below w.heap.size w w2:=Below.grown ((a4.alloc a4.size _).alloc (a4.alloc a4.size _).size _) ae ((a4.alloc a4.size _).alloc (a4.alloc a4.size _).size _).size (fun j hj=>(World.ownsRow.lt hI j hj).1);have d0:=cell_of_row _ _ 0 _ _ _ a9;have d1:=cell_of_row _ _ 1 _ _ _ a9;have d2:=cell_of_row _ _ 2 _ _ _ a9;have d3:=cell_of_row _ _ 3 _ _ _ a9;have av:=a5.size;have af:Hid (ab _ _ _ _):=ak;have a6:Hid _:=a5;clear am ae a9 a7 ad hI hE ak a5 a0 a1 a2 a3;unfold ah at a8;go_wp2_with (at_builtin;refine wpList_append_own _ rfl _ _ 166 rfl w.heap.size 111 i1 _ 4 32 underlying166 hi1 aE aA aC rfl (by decide) _ _ _ rfl (a8.alloc _) ⟨w2.heap.size,0,none⟩ 1 1 (elC (⟨0,e.second,e.third,false⟩:El)) rfl rfl (mh _ _ (⟨0,e.second,e.third,false⟩:El) _ (by simp)) ?hone (by unfold maxLen;omega) (by omega) (by simp;omega) ?_)
        case hone =>
         intro u hu;simp[elC]at hu
         rcases hu with rfl|rfl|rfl|rfl <;> rfl
        intro aw w3 an ag _;have aj:ah w3 w.heap.size aw (xs++[(⟨0,e.second,e.third,false⟩:El)]):=ah.snoc an;have al:ab w3 w.heap.size ao (fs++[65535]):=World.ownsRow.kept (World.ownsRow.alloc af.out _) ag (dg af.out a8 (by decide));have ac:Below w.heap.size w w3:=Below.grown (a6.out.alloc a6.out.size _) ag (a6.out.alloc a6.out.size _).size (fun j hj=>(World.ownsRow.lt a8 j hj).1);have ar:Hid (ah _ _ _ _):=aj;have au:Hid (ab _ _ _ _):=al;have aq:Hid _:=ac;clear an ag aj al ac af a6 d0 d1 d2 d3 a8;go_wp2;exact⟨⟨k+1,_,_,false,ay,by go_num,rfl,ap.out,au.out,ar.out,aq.out⟩,by simp[intOf];omega⟩
      .rw[Ul hv h0]at ai
       have ap:Hid _:=ai;clear ai;have aa:(wr.alloc (.cells #[.int .i64 0,.int .i64 0,.int .i64 0,.bool false] 111)).heap[wr.heap.size]? = some (.cells #[.int .i64 0,.int .i64 0,.int .i64 0,.bool false] 111):=heap_alloc_new wr _;have a7:Hid _:=aa;clear aa;go_wp2_with (at_builtin;refine wpList_append_own _ rfl _ _ 39 rfl w.heap.size 3 i0 (.int .i64 0) 1 8 underlying39 hi0 aD az aB rfl (by decide) _ _ _ rfl ((hI.alloc _).alloc _) ⟨wr.heap.size+1,0,none⟩ 1 1 [.int .i64 0] rfl rfl (ic _ _ _ _ (by simp)) (fun u hu=>by simp at hu;subst hu;rfl) (by unfold maxLen;omega) (by omega) (by simp;omega) ?_)
       intro ao w2 am ae _;have ak:ab w2 w.heap.size ao (fs++[0]):=ab.snoc am;have a8:ah w2 w.heap.size u7 xs:=World.ownsRow.kept ((hE.alloc _).alloc _) ae (dg hE hI (by decide));have ad:=fun j hj=>(World.ownsRow.lt hI j hj).2
       have a9:w2.heap[wr.heap.size]? = some (.cells #[.int .i64 0,.int .i64 0,.int .i64 0,.bool false] 111):=by
        rw[ae.block wr.heap.size (by simp;omega) (fun c=>by have:=ad wr.heap.size c.symm;omega),Below.heap_alloc _ _ _ (by simp)];exact a7.out
       have a5:Below w.heap.size w w2:=Below.grown ((a4.alloc a4.size _).alloc (a4.alloc a4.size _).size _) ae ((a4.alloc a4.size _).alloc (a4.alloc a4.size _).size _).size (fun j hj=>(World.ownsRow.lt hI j hj).1);have d0:=cell_of_row _ _ 0 _ _ _ a9;have d1:=cell_of_row _ _ 1 _ _ _ a9;have d2:=cell_of_row _ _ 2 _ _ _ a9;have d3:=cell_of_row _ _ 3 _ _ _ a9;have av:=a5.size;have af:Hid (ab _ _ _ _):=ak;have a6:Hid _:=a5;clear am ae a9 a7 ad hI hE ak a5 a0 a1 a2 a3;unfold ah at a8;go_wp2_with (at_builtin;refine wpList_append_own _ rfl _ _ 166 rfl w.heap.size 111 i1 _ 4 32 underlying166 hi1 aE aA aC rfl (by decide) _ _ _ rfl (a8.alloc _) ⟨w2.heap.size,0,none⟩ 1 1 (elC elZ) rfl rfl (mh _ _ elZ _ (by simp)) ?hone (by unfold maxLen;omega) (by omega) (by simp;omega) ?_)
       case hone =>
        intro u hu;simp[elC]at hu
        rcases hu with rfl|rfl|rfl|rfl <;> rfl
       intro aw w3 an ag _;have aj:ah w3 w.heap.size aw (xs++[elZ]):=ah.snoc an;have al:ab w3 w.heap.size ao (fs++[0]):=World.ownsRow.kept (World.ownsRow.alloc af.out _) ag (dg af.out a8 (by decide));have ac:Below w.heap.size w w3:=Below.grown (a6.out.alloc a6.out.size _) ag (a6.out.alloc a6.out.size _).size (fun j hj=>(World.ownsRow.lt a8 j hj).1);have ar:Hid (ah _ _ _ _):=aj;have au:Hid (ab _ _ _ _):=al;have aq:Hid _:=ac;clear an ag aj al ac af a6 d0 d1 d2 d3 a8;go_wp2;exact⟨⟨k+1,_,_,true,ay,by go_num,rfl,ap.out,au.out,ar.out,aq.out⟩,by simp[intOf];omega⟩
     .rw[Qp hv h0]at ai
      have ap:Hid _:=ai;have aK:(e.first == 0)=false:=by simpa using h0
      clear ai;have ax:e=⟨e.first,e.second,e.third,false⟩:=by cases e;simp_all
      rw[ax]at ap;clear ax;have aa:(wr.alloc (.cells #[.int .i64 e.first,.int .i64 e.second,.int .i64 e.third,.bool false] 111)).heap[wr.heap.size]? = some (.cells #[.int .i64 e.first,.int .i64 e.second,.int .i64 e.third,.bool false] 111):=heap_alloc_new wr _;have a7:Hid _:=aa;clear aa;go_wp2_with (at_builtin;refine wpList_append_own _ rfl _ _ 39 rfl w.heap.size 3 i0 (.int .i64 0) 1 8 underlying39 hi0 aD az aB rfl (by decide) _ _ _ rfl ((hI.alloc _).alloc _) ⟨wr.heap.size+1,0,none⟩ 1 1 [.int .i64 65535] rfl rfl (ic _ _ _ _ (by simp)) (fun u hu=>by simp at hu;subst hu;rfl) (by unfold maxLen;omega) (by omega) (by simp;omega) ?_)
      intro ao w2 am ae _;have ak:ab w2 w.heap.size ao (fs++[65535]):=ab.snoc am;have a8:ah w2 w.heap.size u7 xs:=World.ownsRow.kept ((hE.alloc _).alloc _) ae (dg hE hI (by decide));have ad:=fun j hj=>(World.ownsRow.lt hI j hj).2
      have a9:w2.heap[wr.heap.size]? = some (.cells #[.int .i64 e.first,.int .i64 e.second,.int .i64 e.third,.bool false] 111):=by
       rw[ae.block wr.heap.size (by simp;omega) (fun c=>by have:=ad wr.heap.size c.symm;omega),Below.heap_alloc _ _ _ (by simp)];exact a7.out
      have a5:Below w.heap.size w w2:=Below.grown ((a4.alloc a4.size _).alloc (a4.alloc a4.size _).size _) ae ((a4.alloc a4.size _).alloc (a4.alloc a4.size _).size _).size (fun j hj=>(World.ownsRow.lt hI j hj).1);have d0:=cell_of_row _ _ 0 _ _ _ a9;have d1:=cell_of_row _ _ 1 _ _ _ a9;have d2:=cell_of_row _ _ 2 _ _ _ a9;have d3:=cell_of_row _ _ 3 _ _ _ a9;have av:=a5.size;have af:Hid (ab _ _ _ _):=ak;have a6:Hid _:=a5;clear am ae a9 a7 ad hI hE ak a5 a0 a1 a2 a3;unfold ah at a8
      go_wp2_with (at_builtin;refine wpList_append_own _ rfl _ _ 166 rfl w.heap.size 111 i1 _ 4 32 underlying166 hi1 aE aA aC rfl (by decide) _ _ _ rfl (a8.alloc _) ⟨w2.heap.size,0,none⟩ 1 1 (elC (⟨e.first,e.second,e.third,false⟩:El)) rfl rfl (mh _ _ (⟨e.first,e.second,e.third,false⟩:El) _ (by simp)) ?hone (by unfold maxLen;omega) (by omega) (by simp;omega) ?_)
      case hone =>
       intro u hu;simp[elC]at hu
       rcases hu with rfl|rfl|rfl|rfl <;> rfl
      intro aw w3 an ag _;have aj:ah w3 w.heap.size aw (xs++[(⟨e.first,e.second,e.third,false⟩:El)]):=ah.snoc an;have al:ab w3 w.heap.size ao (fs++[65535]):=World.ownsRow.kept (World.ownsRow.alloc af.out _) ag (dg af.out a8 (by decide));have ac:Below w.heap.size w w3:=Below.grown (a6.out.alloc a6.out.size _) ag (a6.out.alloc a6.out.size _).size (fun j hj=>(World.ownsRow.lt a8 j hj).1);have ar:Hid (ah _ _ _ _):=aj;have au:Hid (ab _ _ _ _):=al;have aq:Hid _:=ac;clear an ag aj al ac af a6 d0 d1 d2 d3 a8;go_wp2;exact⟨⟨k+1,_,_,false,ay,by go_num,rfl,ap.out,au.out,ar.out,aq.out⟩,by simp[intOf];omega⟩
    .rw[hv]at a3
     rw[Z4 hv]at ai;have ap:Hid _:=ai;clear ai;have aa:(wr.alloc (.cells #[.int .i64 0,.int .i64 0,.int .i64 0,.bool false] 111)).heap[wr.heap.size]? = some (.cells #[.int .i64 0,.int .i64 0,.int .i64 0,.bool false] 111):=heap_alloc_new wr _;have a7:Hid _:=aa;clear aa;go_wp2_with (at_builtin;refine wpList_append_own _ rfl _ _ 39 rfl w.heap.size 3 i0 (.int .i64 0) 1 8 underlying39 hi0 aD az aB rfl (by decide) _ _ _ rfl ((hI.alloc _).alloc _) ⟨wr.heap.size+1,0,none⟩ 1 1 [.int .i64 e.first] rfl rfl (ic _ _ _ _ (by simp)) (fun u hu=>by simp at hu;subst hu;rfl) (by unfold maxLen;omega) (by omega) (by simp;omega) ?_)
     intro ao w2 am ae _;have ak:ab w2 w.heap.size ao (fs++[e.first]):=ab.snoc am;have a8:ah w2 w.heap.size u7 xs:=World.ownsRow.kept ((hE.alloc _).alloc _) ae (dg hE hI (by decide));have ad:=fun j hj=>(World.ownsRow.lt hI j hj).2
     have a9:w2.heap[wr.heap.size]? = some (.cells #[.int .i64 0,.int .i64 0,.int .i64 0,.bool false] 111):=by
      rw[ae.block wr.heap.size (by simp;omega) (fun c=>by have:=ad wr.heap.size c.symm;omega),Below.heap_alloc _ _ _ (by simp)];exact a7.out
     have a5:Below w.heap.size w w2:=Below.grown ((a4.alloc a4.size _).alloc (a4.alloc a4.size _).size _) ae ((a4.alloc a4.size _).alloc (a4.alloc a4.size _).size _).size (fun j hj=>(World.ownsRow.lt hI j hj).1);have d0:=cell_of_row _ _ 0 _ _ _ a9;have d1:=cell_of_row _ _ 1 _ _ _ a9;have d2:=cell_of_row _ _ 2 _ _ _ a9;have d3:=cell_of_row _ _ 3 _ _ _ a9;have av:=a5.size;have af:Hid (ab _ _ _ _):=ak;have a6:Hid _:=a5;clear am ae a9 a7 ad hI hE ak a5 a0 a1 a2 a3;unfold ah at a8;go_wp2_with (at_builtin;refine wpList_append_own _ rfl _ _ 166 rfl w.heap.size 111 i1 _ 4 32 underlying166 hi1 aE aA aC rfl (by decide) _ _ _ rfl (a8.alloc _) ⟨w2.heap.size,0,none⟩ 1 1 (elC elZ) rfl rfl (mh _ _ elZ _ (by simp)) ?hone (by unfold maxLen;omega) (by omega) (by simp;omega) ?_)
     case hone =>
      intro u hu;simp[elC]at hu
      rcases hu with rfl|rfl|rfl|rfl <;> rfl
     intro aw w3 an ag _;have aj:ah w3 w.heap.size aw (xs++[elZ]):=ah.snoc an;have al:ab w3 w.heap.size ao (fs++[e.first]):=World.ownsRow.kept (World.ownsRow.alloc af.out _) ag (dg af.out a8 (by decide));have ac:Below w.heap.size w w3:=Below.grown (a6.out.alloc a6.out.size _) ag (a6.out.alloc a6.out.size _).size (fun j hj=>(World.ownsRow.lt a8 j hj).1);have ar:Hid (ah _ _ _ _):=aj;have au:Hid (ab _ _ _ _):=al;have aq:Hid _:=ac;clear an ag aj al ac af a6 d0 d1 d2 d3 a8;go_wp2;exact⟨⟨k+1,_,_,true,ay,by go_num,rfl,ap.out,au.out,ar.out,aq.out⟩,by simp[intOf];omega⟩
  .have aJ:k=es.length:=by omega
   subst aJ;have aG:Hid (dc sh es=fs∧ck sh es=xs):=by
    show _∧_
    unfold dc ck;rw[HF.out];exact⟨rfl,rfl⟩
   clear HF hL;go_wp2;go_ret2;rw[aG.out.1,aG.out.2];exact⟨_,_,rfl,hI,hE,a4⟩
theorem Qr (w:World) (a:Option Addr) (c:Nat) (sh:Bool) :
  Calls prog 133 #[.slice a 0 c,.bool sh] w fun e w'=>∃ v v',e=.returned (.tuple #[v,v'])∧ab w' w.heap.size v []∧ah w' w.heap.size v' []∧Below w.heap.size w w':=by
 go_enter func133,ntmps133;go_wp2;go_loop [6,7,8,14] (fun v6 v7 bv iv=>v6=.slice none 0 0∧v7=.slice none 0 0∧bv=.bool false∧iv=.int .i64 0) (fun _ _ _ _=>0)
 case atStart=>exact⟨rfl,rfl,rfl,rfl⟩
 case round =>
  obtain⟨rfl,rfl,rfl,rfl⟩:=hrel;go_wp2;go_ret2;exact⟨_,_,rfl,World.ownsRow_nil _ _ _ _,World.ownsRow_nil _ _ _ _,bX⟩
theorem Un {w:World} {B:Nat} {v:Value} {es:List El}(sh:Bool) (hz:es.length≤1048576) (hL:ah w B v es) :
  Calls prog 133 #[v,.bool sh] w fun e w'=>∃ v v',e=.returned (.tuple #[v,v'])∧ab w' w.heap.size v (dc sh es)∧ah w' w.heap.size v' (ck sh es)∧Below w.heap.size w w':=by
 rcases hL.form with ⟨rfl,rfl⟩|⟨g,cap,rfl,_,_⟩
 .exact Qr w _ _ sh
 .exact Uo w B g cap es sh hz hL
theorem ai1:∀ t ∈ tab,(kw (at0 t 0)).length≤3∧(at0 t 0<2048→(kw (at0 t 0)).length≤2)∧128≤at0 t 0:=by decide +kernel
theorem ab9 {r:Int}(h:apart r=[r]):kw r=[r]:=og h
theorem ak9 (r:Int):(kw r).length≤3∧(r<2048→(kw r).length≤2)∧(r<128∨r=65533→(kw r).length≤1):=by
 by_cases h1:r=8491
 .subst h1
  exact⟨by decide +kernel,fun h=>by omega,fun h=>by omega⟩
 by_cases h2:44032≤r∧r≤55203
 .refine⟨?_,fun h=>by omega,fun h=>by omega⟩
  have hp:=Db h2.1 h2.2;have hs:=Da h2.1 h2.2;have a0:apart r≠[r]:=fun e=>by
   have:=hp r (by rw[e];simp);omega
  have e:kw r=apart r:=by
   show full 2 r=_
   rw[wi a0];have hl:∀ x ∈ apart r,full 1 x=[x]:=fun x hx=>og (Ke (hp x hx).1 (hp x hx).2)
   generalize apart r=l at hl;induction l with
   | nil=>rfl
   | cons a l ih =>
    rw[List.flatMap_cons,hl a (by simp),ih (fun x hx=>hl x (by simp[hx]))];rfl
  rw[e];exact (tm r).2
 .cases hf:tab.find? (fun t=>at0 t 0 == r) with
  | none =>
   have ha:apart r=[r]:=by unfold apart;rw[if_neg h1,if_neg h2,hf]
   rw[ab9 ha];simp
  | some t =>
   have hr:at0 t 0=r:=by
    have:=List.find?_some hf;simpa using this
   have hl:=ai1 t (List.mem_of_find?_eq_some hf);rw[hr]at hl;refine⟨hl.1,hl.2.1,fun h=>?_⟩;rcases h with h|h
   .omega
   .subst h
    exfalso
    have:tab.find? (fun t=>at0 t 0 == 65533)=none:=by decide +kernel
    rw[this]at hf
    cases hf
theorem zt (t:ByteArray) (m f k lo hi r:Nat):Dec.goes t m (f+1) k lo hi r=if k<t.size∧lo≤Dec.bt t k∧Dec.bt t k≤hi then Dec.goes t m f (k+1) 128 191 (r*64+Dec.bt t k % 64) else (65533,k,false):=rfl
theorem av5 (t:ByteArray):((Dec.one t).2.1=1→(Dec.one t).1<128∨(Dec.one t).1=65533)∧((Dec.one t).2.1=2→(Dec.one t).1<2048∨(Dec.one t).1=65533):=by
 unfold Dec.one;split
 .exact⟨fun _=>.inr rfl,fun h=>by cases h⟩
 .rename_i hm
  have hb:Dec.bt t 0<256:=Dec.bt_lt t 0;rcases Dec.more_cases (Dec.bt t 0) with h|h|h|h|h
  .omega
  .rw[h]
   have:Dec.bt t 0<128:=by
    unfold Dec.more at h;split at h
    .assumption
    .exfalso;revert h;repeat' split
     all_goals omega
   refine⟨fun _=>.inl ?_,fun h=>by cases h⟩;show ((Dec.bt t 0:Nat):Int)<128
   omega
  .rw[h,show (1:Int).toNat=1 from rfl,zt]
   by_cases hc:1<t.size∧Dec.lo1 (Dec.bt t 0)≤Dec.bt t 1∧Dec.bt t 1≤Dec.hi1 (Dec.bt t 0)
   .rw[if_pos hc]
    refine⟨fun h=>absurd (show (2:Nat)=1 from h) (by decide),fun _=>.inl ?_⟩;have e1:Dec.bt t 0 % 32<32:=Nat.mod_lt _ (by omega);have e2:Dec.bt t 1 % 64<64:=Nat.mod_lt _ (by omega);show (((Dec.bt t 0 % 32)*64+Dec.bt t 1 % 64:Nat):Int)<2048
    omega
   .rw[if_neg hc]
    exact⟨fun _=>.inr rfl,fun h=>by cases h⟩
  .rw[h,show (2:Int).toNat=2 from rfl,zt]
   by_cases hc:1<t.size∧Dec.lo1 (Dec.bt t 0)≤Dec.bt t 1∧Dec.bt t 1≤Dec.hi1 (Dec.bt t 0)
   .rw[if_pos hc,zt]
    by_cases a0:1+1<t.size∧128≤Dec.bt t (1+1)∧Dec.bt t (1+1)≤191
    .rw[if_pos a0]
     exact⟨fun h=>absurd (show (3:Nat)=1 from h) (by decide),fun h=>absurd (show (3:Nat)=2 from h) (by decide)⟩
    .rw[if_neg a0]
     exact⟨fun h=>absurd (show (2:Nat)=1 from h) (by decide),fun _=>.inr rfl⟩
   .rw[if_neg hc]
    exact⟨fun _=>.inr rfl,fun h=>by cases h⟩
  .rw[h,show (3:Int).toNat=3 from rfl,zt]
   by_cases hc:1<t.size∧Dec.lo1 (Dec.bt t 0)≤Dec.bt t 1∧Dec.bt t 1≤Dec.hi1 (Dec.bt t 0)
   .rw[if_pos hc,zt]
    by_cases a0:1+1<t.size∧128≤Dec.bt t (1+1)∧Dec.bt t (1+1)≤191
    .rw[if_pos a0,zt]
     by_cases a1:1+1+1<t.size∧128≤Dec.bt t (1+1+1)∧Dec.bt t (1+1+1)≤191
     .rw[if_pos a1]
      exact⟨fun h=>absurd (show (4:Nat)=1 from h) (by decide),fun h=>absurd (show (4:Nat)=2 from h) (by decide)⟩
     .rw[if_neg a1]
      exact⟨fun h=>absurd (show (3:Nat)=1 from h) (by decide),fun h=>absurd (show (3:Nat)=2 from h) (by decide)⟩
    .rw[if_neg a0]
     exact⟨fun h=>absurd (show (2:Nat)=1 from h) (by decide),fun _=>.inr rfl⟩
   .rw[if_neg hc]
    exact⟨fun _=>.inr rfl,fun h=>by cases h⟩
theorem ap3 (t:ByteArray) (h:0<t.size):(kw (Dec.one t).1).length≤(Dec.one t).2.1:=by
 have h1:=(Dec.one_le t h).1;have hb:=av5 t;have ha:=ak9 (Dec.one t).1;by_cases e1:(Dec.one t).2.1=1
 .have:=ha.2.2 (hb.1 e1)
  omega
 .by_cases e2:(Dec.one t).2.1=2
  .rcases hb.2 e2 with h|h
   .have:=ha.2.1 h
    omega
   .have:=ha.2.2 (.inr h)
    omega
  .have:=ha.1
   omega
theorem Sp:∀ (f:Nat) (t:ByteArray),(apD (Dec.decT f t).1).length≤t.size
 | 0,t=>by simp[Dec.decT,apD]
 | f+1,t=>by
  unfold Dec.decT;split
  .rename_i h
   have h1:=ap3 t h;have h2:=Sp f (t.extract (Dec.one t).2.1 t.size);have h3:=Dec.size_extract t (Dec.one t).2.1;have h4:=(Dec.one_le t h).2;show (apD ((Dec.one t).1::_)).length≤_
   unfold apD;rw[List.flatMap_cons,List.length_append];unfold apD at h2;omega
  .simp[apD]
theorem af9 (s:ByteArray):(rn4 s).length≤s.size:=by
 unfold rn4;rw[zw];exact Sp _ _
theorem Km {s:ByteArray}(h:s.size≤200):ok4 s=true:=by
 have:=af9 s;exact decide_eq_true ⟨h,by omega⟩
end Go.Proofs.YtjbmgghehdemdaaGreatDoor
