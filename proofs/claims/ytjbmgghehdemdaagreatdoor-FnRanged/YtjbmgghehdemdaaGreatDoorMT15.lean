/- PKey2 -/
import Derived.Test.YtjbmgghehdemdaaGreatDoorMT8
import Derived.Test.YtjbmgghehdemdaaGreatDoorMT11
import Derived.Laws.BytesString
import Derived.Test.YtjbmgghehdemdaaGreatDoorMT12
namespace Go.Proofs.YtjbmgghehdemdaaGreatDoor
set_option maxRecDepth 100000
set_option maxHeartbeats 16000000
open _root_.Go.Proofs.Tryz
def lc (e:El):Prop:=(0≤e.first∧e.first≤65535)∧(0≤e.second∧e.second≤65535)∧(0≤e.third∧e.third≤65535)
theorem Og {l:List Int} {r:Int} {i:Nat}(h:d7 l r=some i):i<l.length:=by
 unfold d7 at h;obtain⟨hi,_⟩:=List.findIdx?_eq_some_iff_getElem.1 h;exact hi
theorem a72 {r:Int}(h0:0≤r) (h1:r≤1114111):∀ e ∈ base r,lc e:=by
 intro e he;unfold base at he;split at he
 .rename_i i hi
  have:=Og hi;simp[vsl]at this
  simp only[List.mem_singleton]at he;subst he;unfold lc;simp only;omega
 .split at he
  .rename_i i hi
   have:=Og hi;simp[mkl]at this
   simp only[List.mem_singleton]at he;subst he;unfold lc;simp only;omega
  .unfold gc at he
   unfold lc;split at he
   .cases he
   .split at he
    .simp only[List.mem_singleton]at he
     subst he;simp only;omega
    .split at he
     .simp only[List.mem_singleton]at he
      subst he;simp only;omega
     .split at he
      .simp only[List.mem_singleton]at he
       subst he;simp only;omega
      .simp only[List.mem_cons,List.not_mem_nil,or_false]at he
       rcases he with rfl|rfl <;> simp only <;> omega
theorem a96 {es:List Ent} {lv:Int}(h:ay es lv=true):∀ e ∈ es,lc e.el:=by
 intro e he;obtain⟨i,hi⟩:=List.getElem?_of_mem he;have h1:=(vh es).1 (of_decide_eq_true h).2.2 i e hi;unfold mo at h1;simp only[Bool.and_eq_true,decide_eq_true_eq]at h1;unfold lc;omega
theorem rd {es:List Ent} {lv:Int}(h:ay es lv=true){l:List Int}(hl:∀ x ∈ l,0≤x∧x≤1114111):∀ e ∈ eb es l,lc e :=
 U8 (a96 h) l fun x hx=>a72 (hl x hx).1 (hl x hx).2
theorem Z3 {sh b:Bool} {e:El}(h:lc e):(0≤(ja sh b e).1∧(ja sh b e).1≤65535)∧lc (ja sh b e).2.1:=by
 have hz:lc elZ:=by unfold lc elZ;simp
 unfold ja;split
 .exact⟨by simp,h⟩
 .split
  .exact⟨h.1,hz⟩
  .split
   .exact⟨by simp,hz⟩
   .refine⟨?_,h⟩
    simp only;split <;> omega
theorem my {sh:Bool} {es:List El}(h:∀ e ∈ es,lc e) (k:Nat):(∀ f ∈ (fw sh es k).1,0≤f∧f≤65535)∧∀ e ∈ (fw sh es k).2.1,lc e:=by
 induction k with
 | zero=>exact⟨fun f hf=>by simp[fw]at hf,fun f hf=>by simp[fw]at hf⟩
 | succ k ih =>
  unfold fw;split
  .exact ih
  .rename_i e he
   have:=Z3 (sh:=sh) (b:=(fw sh es k).2.2) (h e (List.mem_of_getElem? he));refine⟨fun f hf=>?_,fun x hx=>?_⟩
   .rcases List.mem_append.1 hf with h1|h1
    .exact ih.1 f h1
    .simp only[List.mem_singleton]at h1
     subst h1;exact this.1
   .rcases List.mem_append.1 hx with h1|h1
    .exact ih.2 x h1
    .simp only[List.mem_singleton]at h1
     subst h1;exact this.2
theorem Hf {sh:Bool} {es:List El} {k:Nat}(hk:k≤es.length):(fw sh es k).1.length=k∧(fw sh es k).2.1.length=k:=by
 induction k with
 | zero=>exact⟨rfl,rfl⟩
 | succ k ih =>
  have a0:k<es.length:=by omega
  have:=ih (by omega);unfold fw;rw[List.getElem?_eq_getElem a0];simp
  exact this
theorem z8 (sh:Bool) (es:List El):(dc sh es).length=es.length:=(Hf bR).1
theorem sw (sh:Bool) (es:List El):(ck sh es).length=es.length:=(Hf bR).2
def wtL (lv:Nat) (e:El) (f:Int):Int:=if lv=1 then e.first else if lv=2 then e.second else if lv=3 then e.third else f
def n8 (xs:List El) (k:Nat):El:=(xs[k]?).getD elZ
def Aq (n:Int):List Int:=if n=0 then [] else [n]
theorem Hm {n:Int}(h:n=0):Aq n=[]:=by unfold Aq;rw[if_pos h]
theorem Hl {n:Int}(h:n≠0):Aq n=[n]:=by unfold Aq;rw[if_neg h]
def er (lv:Nat) (xs:List El) (fs:List Int):Nat→List Int
 | 0=>[]
 | k+1=>er lv xs fs k++Aq (wtL lv (n8 xs k) (at0 fs k))
def wts (lv:Nat) (xs:List El) (fs:List Int):List Int:=er lv xs fs xs.length
theorem Tj {lv:Nat} {e:El} {f:Int}(he:lc e) (hf:0≤f∧f≤65535):0≤wtL lv e f∧wtL lv e f≤65535:=by
 unfold lc at he;unfold wtL;split
 .exact he.1
 .split
  .exact he.2.1
  .split
   .exact he.2.2
   .exact hf
theorem Mr {xs:List El}(h:∀ e ∈ xs,lc e) (k:Nat):lc (n8 xs k):=by
 unfold n8
 cases hx:xs[k]? with
 | none=>unfold lc elZ;simp
 | some e=>exact h e (List.mem_of_getElem? hx)
theorem Sd {fs:List Int}(h:∀ f ∈ fs,0≤f∧f≤65535) (k:Nat):0≤at0 fs k∧at0 fs k≤65535:=by
 unfold at0
 cases hx:fs[k]? with
 | none=>simp
 | some e=>exact h e (List.mem_of_getElem? hx)
theorem Gf {lv:Nat} {xs:List El} {fs:List Int}(hx:∀ e ∈ xs,lc e) (hf:∀ f ∈ fs,0≤f∧f≤65535) (k:Nat):∀ n ∈ er lv xs fs k,1≤n∧n≤65535:=by
 induction k with
 | zero=>intro n hn;cases hn
 | succ k ih =>
  intro n hn;rcases List.mem_append.1 hn with h|h
  .exact ih n h
  .unfold Aq at h
   split at h
   .cases h
   .rename_i h0
    simp only[List.mem_singleton]at h;subst h;have:=Tj (lv:=lv) (Mr hx k) (Sd hf k);omega
theorem ox (lv:Nat) (xs:List El) (fs:List Int) (k:Nat):(er lv xs fs k).length≤k:=by
 induction k with
 | zero=>exact bR
 | succ k ih =>
  rw[er,List.length_append];unfold Aq;split <;> simp <;> omega
def by2 (n:Int):List Int:=[n / 256,n % 256]
def j9 (ws:List Int):List Int:=ws.flatMap by2
theorem Jj:j9 []=[]:=rfl
theorem Ji (a b:List Int):j9 (a++b)=j9 a++j9 b:=by unfold j9;rw[List.flatMap_append]
theorem Jk (n:Int):j9 [n]=[n / 256,n % 256]:=by simp[j9,by2]
theorem C4 (ws:List Int):(j9 ws).length=2*ws.length:=by
 induction ws with
 | nil=>rfl
 | cons x xs ih =>
  unfold j9 at ih ⊢;rw[List.flatMap_cons,List.length_append,ih];simp[by2]
  omega
def ml (lv:Nat):List Int:=if 1<lv then [0,0] else []
def km (xs:List El) (fs:List Int):Nat→List Int
 | 0=>[]
 | n+1=>km xs fs n++(ml (n+1)++j9 (wts (n+1) xs fs))
theorem Nq (xs:List El) (fs:List Int) (n:Nat):(km xs fs n).length≤n*(2+2*xs.length):=by
 induction n with
 | zero=>simp[km]
 | succ n ih =>
  have h1:=ox (n+1) xs fs xs.length;have h2:(ml (n+1)).length≤2:=by unfold ml;split <;> simp
  have h3:(n+1)*(2+2*xs.length)=n*(2+2*xs.length)+(2+2*xs.length):=Nat.succ_mul _ _;rw[km,List.length_append,List.length_append,C4,h3];unfold wts;omega
def ix (bs:List Int):ByteArray:=⟨(bs.map fun x=>x.toNat.toUInt8).toArray⟩
def Np (es:List Ent) (sh:Bool) (lv:Int) (l:List Int):List Int:=km (ck sh (eb es l)) (dc sh (eb es l)) lv.toNat
def Ds (es:List Ent) (sh:Bool) (l:List Int):List Int:=wts 1 (ck sh (eb es l)) (dc sh (eb es l))
theorem Qo {es:List Ent} {sh:Bool} {lv:Int}(h:ay es lv=true){l:List Int}(hl:∀ x ∈ l,0≤x∧x≤1114111):∀ n ∈ Ds es sh l,1≤n∧n≤65535 :=
 Gf (my (rd h hl) _).2 (my (rd h hl) _).1 _
theorem Qn (es:List Ent) (sh:Bool) (l:List Int):(Ds es sh l).length≤2*l.length:=by
 have h1:=ox 1 (ck sh (eb es l)) (dc sh (eb es l)) (ck sh (eb es l)).length;have h2:=sw sh (eb es l);have h3:=Ai es l;unfold Ds wts;omega
def okE (es:List Ent) (lv:Int) (x:ByteArray):Bool:=ok4 x && ay es lv
def f9 (es:List Ent) (lv:Int) (x:ByteArray):List El:=if okE es lv x=true then eb es (rn4 x) else []
def qf (es:List Ent) (sh:Bool) (lv:Int) (x:ByteArray):ByteArray:=if okE es lv x=true then ix (Np es sh lv (rn4 x)) else ⟨#[]⟩
def rf (es:List Ent) (sh:Bool) (lv:Int) (x:ByteArray):List Int:=if okE es lv x=true then Ds es sh (rn4 x) else []
theorem af8 (x:ByteArray):∀ y ∈ rn4 x,bp y=true:=fun y hy=>M0 (Fj x.size x) y (Kk.1 hy)
theorem Dy (x:ByteArray):∀ y ∈ rn4 x,0≤y∧y≤1114111:=fun y hy=>by have:=l7 (af8 x y hy);omega
theorem yg {x:ByteArray}(h:ok4 x=true):x.size≤200∧(rn4 x).length≤200:=of_decide_eq_true h
theorem ui {es:List Ent} {lv:Int} {x:ByteArray}(h:okE es lv x=true):x.size≤200∧(rn4 x).length≤200∧ay es lv=true:=by
 unfold okE at h;rw[Bool.and_eq_true]at h;exact⟨(yg h.1).1,(yg h.1).2,h.2⟩
theorem nn {es:List Ent} {lv:Int}(h:ay es lv=true):es.length≤40∧1≤lv∧lv≤4:=⟨(of_decide_eq_true h).1,(of_decide_eq_true h).2.1.1,(of_decide_eq_true h).2.1.2⟩
theorem Jx (es:List Ent) (sh:Bool) (lv:Int) (x:ByteArray):∀ n ∈ rf es sh lv x,1≤n∧n≤65535:=by
 unfold rf;split
 .rename_i h
  exact Qo (ui h).2.2 (Dy x)
 .intro n hn;cases hn
theorem Jw (es:List Ent) (sh:Bool) (lv:Int) (x:ByteArray):(rf es sh lv x).length≤400:=by
 unfold rf;split
 .rename_i h
  have:=Qn es sh (rn4 x);have:=(ui h).2.1;omega
 .simp
theorem Fl (es:List Ent) (lv:Int) (x:ByteArray):(f9 es lv x).length≤400:=by
 unfold f9;split
 .rename_i h
  have:=Ai es (rn4 x);have:=(ui h).2.1;omega
 .simp
open Go.RowKit
theorem Sw:(prog.info? 5).map (fun i=>(i.zero,i.size,i.bytes))=some (some (.int .u8 0),1,1):=by kernel_rfl
def Bys (w:World) (base:Nat) (v:Value) (bs:List Int):Prop:=w.ownsRow base 5 1 v bs.length (bs.map (Value.int .u8))
theorem Bys.form {w:World} {B:Nat} {v:Value} {bs:List Int}(h:Bys w B v bs):(v=.slice none 0 0∧bs=[])∨∃ g cap,v=.slice (some ⟨g,0,none⟩) bs.length cap:=by
 rcases h.2 with ⟨a,b⟩|⟨g,cap,cur,a,_⟩
 .exact .inl ⟨a,by simpa using b⟩
 .exact .inr ⟨g,cap,a⟩
theorem Bys.below {w w':World} {B:Nat} {v:Value} {bs:List Int}(h:Bys w B v bs) (hb:Below w.heap.size w w'):Bys w' B v bs :=
 World.ownsRow.kept h (row:=none) ⟨hb.os,hb.tape,hb.output,hb.size,fun k hk _=>hb.block k hk⟩ (by cases h:v.ownBlock <;> simp)
theorem Bys.app2 {w:World} {B:Nat} {v:Value} {bs:List Int} {x y:Int}(h:w.ownsRow B 5 1 v (bs.length+2) (bs.map (Value.int .u8)++[.int .u8 x,.int .u8 y])):Bys w B v (bs++[x,y]):=by
 unfold Bys;simpa using h
theorem y8 (w:World) (n:Nat) (x y:Value) (t:TypeId) (hn:n=w.heap.size):∀ j u,[x,y][j]? = some u→(w.alloc (.cells #[x,y] t)).cell? ((⟨n,0,none⟩:Addr).add j)=some u:=by
 subst hn;intro j u hj;match j,hj with
 | 0,hj=>simp at hj;subst hj;simp[Addr.add]
 | 1,hj=>simp at hj;subst hj;simp[Addr.add]
 | j+2,hj=>simp at hj
theorem Ek:∀ (xs:List Int) (r:ByteArray),xs.foldl (fun r n=>r.push (UInt8.ofNat n.toNat)) r=⟨r.data++(xs.map fun x=>x.toNat.toUInt8).toArray⟩
 | [],r=>by simp
 | x::xs,r=>by
  simp only[List.map_cons,List.foldl_cons];rw[Ek xs];simp[ByteArray.push]
theorem Xs (b j:Nat):(⟨b,0,none⟩:Addr).add j=⟨b,j,none⟩:=by
 unfold Addr.add;split
 .rename_i h;subst h;rfl
 .simp
theorem xb {w:World} {B:Nat} {v:Value} {bs:List Int}(h:Bys w B v bs):(convert 22 9 v).run prog w=.ok (.string (ix bs)) w:=by
 rcases h.form with ⟨rfl,rfl⟩|⟨g,cap,rfl⟩
 .rw[run_convert_bytes_string _ _ _ _ _ _ _ underlying22 underlying5 underlying9]
  rfl
 .rw[run_convert_bytes_string _ _ _ _ _ _ _ underlying22 underlying5 underlying9]
  have hl:=run_loadCells_list (P:=prog) w ⟨g,0,none⟩ (bs.map (Value.int .u8)) (fun j v hj=>by
   have a1:j<bs.length:=by have:=(List.getElem?_eq_some_iff.1 hj).1;simpa using this
   rw[Xs,World.ownsRow.cellAt h j (by omega),hj])
  simp only[List.length_map]at hl;rw[run_bytesToString _ _ _ _ bs hl,Ek];have a0:ByteArray.empty.data=#[]:=rfl;rw[a0];simp[ix]
theorem tu {w:World} {B:Nat} {v:Value} {es:List El}(h:ah w B v es) :
  ∃ a c,v=.slice a es.length c∧∀ k e,es[k]? = some e→∃ g,a=some ⟨g,0,none⟩∧g<w.heap.size∧w.cell? ⟨g,k*4,none⟩=some (.int .i64 e.first)∧w.cell? ⟨g,k*4+1,none⟩=some (.int .i64 e.second)∧w.cell? ⟨g,k*4+2,none⟩=some (.int .i64 e.third)∧w.cell? ⟨g,k*4+3,none⟩=some (.bool e.varies):=by
 rcases h.form with ⟨rfl,rfl⟩|⟨g,cap,rfl,_,_⟩
 .exact⟨_,_,rfl,fun k e he=>by simp at he⟩
 .exact⟨_,_,rfl,fun k e he=>⟨g,rfl,(World.ownsRow.lt h g rfl).2,h.cells k e he⟩⟩
theorem rj {w:World} {B:Nat} {v:Value} {l:List Int}(h:ab w B v l) :
  ∃ a c,v=.slice a l.length c∧∀ k,k<l.length→∃ g,a=some ⟨g,0,none⟩∧g<w.heap.size∧w.cell? ⟨g,k,none⟩=some (.int .i64 (at0 l k)):=by
 rcases h.form with ⟨rfl,rfl⟩|⟨g,cap,rfl,_,_⟩
 .exact⟨_,_,rfl,fun k hk=>by simp at hk⟩
 .exact⟨_,_,rfl,fun k hk=>⟨g,rfl,(World.ownsRow.lt h g rfl).2,h.cell k hk⟩⟩
theorem sj {w:World} {B B':Nat} {v:Value} {l:List Int}(h:ab w B' v l) (hB:B≤B'):ab w B v l:=by
 refine⟨h.1,?_⟩;rcases h.2 with h|⟨g,cap,cur,h1,h2,h3⟩
 .exact .inl h
 .exact .inr ⟨g,cap,cur,h1,Nat.le_trans hB h2,h3⟩
def Lo (w1:World) (lv:Nat) (xs:List El) (fs:List Int) (v i:Value) (wr:World):Prop :=
 ∃ k:Nat,k≤xs.length∧i=.int .i64 k∧ab wr w1.heap.size v (er lv xs fs k)∧Below w1.heap.size w1 wr
theorem yq {lv:Nat} {xs:List El} {fs:List Int} {k:Nat}(h:wtL lv (n8 xs k) (at0 fs k)=0):er lv xs fs (k+1)=er lv xs fs k:=by
 rw[er,Hm h,List.append_nil]
theorem yp {lv:Nat} {xs:List El} {fs:List Int} {k:Nat}(h:wtL lv (n8 xs k) (at0 fs k)≠0):er lv xs fs (k+1)=er lv xs fs k++[wtL lv (n8 xs k) (at0 fs k)]:=by
 rw[er,Hl h]
theorem Ir {xs:List El} {k:Nat} {e:El}(h:xs[k]? = some e):n8 xs k=e:=by unfold n8;rw[h];rfl
theorem Vn (ea:Option Addr) (en ec:Nat) (fa:Option Addr) (fn fc:Nat) (w:World) :
  Calls prog 138 #[.agg #[.slice ea en ec,.slice fa fn fc],.int .i64 1] w fun e w'=>e=.returned (.func (.func 156) #[] #[.pointer (some ⟨w.heap.size,0,none⟩)])∧w'=w.alloc (.cells #[.slice ea en ec,.slice fa fn fc] 170):=by
 go_enter func138,ntmps138;go_wp2;go_ret;exact⟨rfl,rfl⟩
theorem Vo (ea:Option Addr) (en ec:Nat) (fa:Option Addr) (fn fc:Nat) (w:World) :
  Calls prog 138 #[.agg #[.slice ea en ec,.slice fa fn fc],.int .i64 2] w fun e w'=>e=.returned (.func (.func 157) #[] #[.pointer (some ⟨w.heap.size,0,none⟩)])∧w'=w.alloc (.cells #[.slice ea en ec,.slice fa fn fc] 170):=by
 go_enter func138,ntmps138;go_wp2;go_ret;exact⟨rfl,rfl⟩
theorem Vp (ea:Option Addr) (en ec:Nat) (fa:Option Addr) (fn fc:Nat) (w:World) :
  Calls prog 138 #[.agg #[.slice ea en ec,.slice fa fn fc],.int .i64 3] w fun e w'=>e=.returned (.func (.func 158) #[] #[.pointer (some ⟨w.heap.size,0,none⟩)])∧w'=w.alloc (.cells #[.slice ea en ec,.slice fa fn fc] 170):=by
 go_enter func138,ntmps138;go_wp2;go_ret;exact⟨rfl,rfl⟩
theorem Vq (ea:Option Addr) (en ec:Nat) (fa:Option Addr) (fn fc:Nat) (w:World) :
  Calls prog 138 #[.agg #[.slice ea en ec,.slice fa fn fc],.int .i64 4] w fun e w'=>e=.returned (.func (.func 159) #[] #[.pointer (some ⟨w.heap.size,0,none⟩)])∧w'=w.alloc (.cells #[.slice ea en ec,.slice fa fn fc] 170):=by
 go_enter func138,ntmps138;go_wp2;go_ret;exact⟨rfl,rfl⟩
theorem Yb (u:World) (b g n c k:Nat) (vf:Value) (x:Int) (hb:u.cell? ⟨b,0,none⟩=some (.slice (some ⟨g,0,none⟩) n c)) (_hb2:u.cell? ⟨b,1,none⟩=some vf) (hk:k<n) (hx:u.cell? ⟨g,k*4,none⟩=some (.int .i64 x)) :
  Calls prog 156 #[.int .i64 k,.pointer (some ⟨b,0,none⟩)] u fun e w'=>e=.returned (.int .i64 x)∧w'=u:=by
 have a0:(k:Int)<(n:Int):=by omega
 go_enter func156,ntmps156;go_wp2;go_ret;exact⟨rfl,rfl⟩
theorem Dg {w:World} {B B':Nat} {ve vf:Value} {xs:List El} {fs:List Int}(hE:ah w B ve xs) (hI:ab w B' vf fs) (hl:fs.length=xs.length) (hn:xs.length≤1048576) :
  Calls prog 108 #[.agg #[ve,vf],.int .i64 1] w fun e w'=>∃ v,e=.returned v∧ab w' w.heap.size v (wts 1 xs fs)∧Below w.heap.size w w':=by
 obtain⟨i0,hi0,ak,ag,aj⟩:=info_parts dv;obtain⟨va,a0,rfl,a4⟩:=tu hE;obtain⟨fa,fc,rfl,ac⟩:=rj hI;have LV:=fun u=>Vn va xs.length a0 fa fs.length fc u
 have a2:Below w.heap.size w ((w.alloc (.cells #[.slice va xs.length a0,.slice fa fs.length fc] 170)).alloc (.cells #[.slice va xs.length a0,.slice fa fs.length fc] 170)):=(bY _).alloc (by simp) _;have q0:((w.alloc (.cells #[.slice va xs.length a0,.slice fa fs.length fc] 170)).alloc (.cells #[.slice va xs.length a0,.slice fa fs.length fc] 170)).cell? ⟨w.heap.size+1,0,none⟩=some (.slice va xs.length a0):=by simp
 have q1:((w.alloc (.cells #[.slice va xs.length a0,.slice fa fs.length fc] 170)).alloc (.cells #[.slice va xs.length a0,.slice fa fs.length fc] 170)).cell? ⟨w.heap.size+1,1,none⟩=some (.slice fa fs.length fc):=by simp
 have HL:Hid (fs.length=xs.length):=hl;clear hE hI hl;obtain⟨W,HW⟩:∃ W,Hid (W=(w.alloc (.cells #[.slice va xs.length a0,.slice fa fs.length fc] 170)).alloc (.cells #[.slice va xs.length a0,.slice fa fs.length fc] 170)):=⟨_,rfl⟩
 have am:w.heap.size+2≤W.heap.size:=by rw[HW.out];simp
 rw[<- HW.out]at a2 q0 q1;have HQ:Hid (W.cell? ⟨w.heap.size+1,0,none⟩=some (.slice va xs.length a0)∧W.cell? ⟨w.heap.size+1,1,none⟩=some (.slice fa fs.length fc)):=⟨q0,q1⟩;clear q0 q1;go_enter func108,ntmps108;go_wp2_with fail;refine (LV _).mono ?_;rintro e w1 ⟨rfl,a8⟩;obtain rfl:W=w1:=HW.out.trans a8.symm;have z0:W.cell? ⟨w.heap.size,0,none⟩=some (.slice va xs.length a0):=by rw[HW.out];simp
 clear LV a8 HW;go_wp2_with fail;go_loopw [6,15] (fun v i wr=>Lo W 1 xs fs v i wr) (fun _ i _=>xs.length-(intOf i).toNat)
 case atStart=>exact⟨0,Nat.zero_le _,rfl,World.ownsRow_nil _ _ _ _,bX⟩
 case round =>
  clear z0;obtain⟨k,hk,rfl,hR,a1⟩:=hrel;have ao:=ox 1 xs fs k;by_cases a6:k<xs.length
  .have an:(k:Int)<(xs.length:Int):=by omega
   have p0:wr.cell? ⟨w.heap.size+1,0,none⟩=some (.slice va xs.length a0):=(a1.cell (p:=⟨w.heap.size+1,0,none⟩) (by show w.heap.size+1<W.heap.size;omega)).trans HQ.out.1;have p1:wr.cell? ⟨w.heap.size+1,1,none⟩=some (.slice fa fs.length fc):=(a1.cell (p:=⟨w.heap.size+1,1,none⟩) (by show w.heap.size+1<W.heap.size;omega)).trans HQ.out.2;obtain⟨e,he⟩:∃ e,xs[k]? = some e:=⟨_,List.getElem?_eq_getElem a6⟩
   obtain⟨g,ad,ae,y1,y2,y3,_⟩:=a4 k e he;subst ad;have HV:Hid (wtL 1 (n8 xs k) (at0 fs k)=e.first):=by show _=_;rw[Ir he];rfl
   have CK:=Yb wr (w.heap.size+1) g xs.length a0 k (.slice fa fs.length fc) e.first p0 p1 a6 ((a1.cell (p:=⟨g,k*4,none⟩) (by show g<W.heap.size;omega)).trans (by simpa using (a2.cell (p:=⟨g,k*4,none⟩) ae).trans y1))
   clear y1 a4 ac p0 p1;go_wp2_with fail;refine CK.mono ?_;rintro e' w3 ⟨rfl,ai⟩;obtain rfl:wr=w3:=ai.symm;clear CK;have ap:=a1.size;by_cases h0:e.first=0
   .have HS:Hid (er 1 xs fs (k+1)=er 1 xs fs k):=yq (HV.out.trans h0)
    have HR:Hid (ab _ _ _ _):=hR;clear hR HV;go_wp2;exact⟨⟨k+1,by omega,by go_num,by rw[HS.out];exact HR.out,a1⟩,by simp[intOf];omega⟩
   .have al:(e.first == 0)=false:=by simpa using h0
    have HS:Hid (er 1 xs fs (k+1)=er 1 xs fs k++[e.first]):=by
     have:=yp (lv:=1) (xs:=xs) (fs:=fs) (k:=k) (by rw[HV.out];exact h0);rw[HV.out]at this;exact this
    clear HV;unfold ab at hR;go_wp2_with (at_builtin;refine wpList_append_own _ rfl _ _ 39 rfl W.heap.size 3 i0 (.int .i64 0) 1 8 underlying39 hi0 ak ag aj rfl (by decide) _ _ _ rfl (hR.alloc _) ⟨wr.heap.size,0,none⟩ 1 1 [.int .i64 (e.first)] rfl rfl (ic _ _ _ _ (by simp)) (fun u hu=>by simp at hu;subst hu;rfl) (by unfold maxLen;omega) (by omega) (by simp;omega) ?_)
    intro v6 w4 a7 a5 _;have a3:ab w4 W.heap.size v6 (er 1 xs fs k++[e.first]):=ab.snoc a7;have aa:Below W.heap.size W w4:=Below.grown (a1.alloc a1.size _) a5 (a1.alloc a1.size _).size (fun j hj=>(World.ownsRow.lt hR j hj).1);have a9:Hid (ab _ _ _ _):=a3;clear a7 a5 hR a3;go_wp2;exact⟨⟨k+1,by omega,by go_num,by rw[HS.out];exact a9.out,aa⟩,by simp[intOf];omega⟩
  .have af:k=xs.length:=by omega
   subst af;have HR:Hid (ab _ _ _ _):=hR;clear hR;go_wp2;go_ret;exact⟨_,rfl,sj HR.out (by omega),a2.trans (a1.mono (by omega))⟩
theorem Yc (u:World) (b g n c k:Nat) (vf:Value) (x:Int) (hb:u.cell? ⟨b,0,none⟩=some (.slice (some ⟨g,0,none⟩) n c)) (_hb2:u.cell? ⟨b,1,none⟩=some vf) (hk:k<n) (hx:u.cell? ⟨g,k*4+1,none⟩=some (.int .i64 x)) :
  Calls prog 157 #[.int .i64 k,.pointer (some ⟨b,0,none⟩)] u fun e w'=>e=.returned (.int .i64 x)∧w'=u:=by
 have a0:(k:Int)<(n:Int):=by omega
 go_enter func157,ntmps157;go_wp2;go_ret;exact⟨rfl,rfl⟩
theorem Ps {w:World} {B B':Nat} {ve vf:Value} {xs:List El} {fs:List Int}(hE:ah w B ve xs) (hI:ab w B' vf fs) (hl:fs.length=xs.length) (hn:xs.length≤1048576) :
  Calls prog 108 #[.agg #[ve,vf],.int .i64 2] w fun e w'=>∃ v,e=.returned v∧ab w' w.heap.size v (wts 2 xs fs)∧Below w.heap.size w w':=by
 obtain⟨i0,hi0,ak,ag,aj⟩:=info_parts dv;obtain⟨va,a0,rfl,a4⟩:=tu hE;obtain⟨fa,fc,rfl,ac⟩:=rj hI;have LV:=fun u=>Vo va xs.length a0 fa fs.length fc u
 have a2:Below w.heap.size w ((w.alloc (.cells #[.slice va xs.length a0,.slice fa fs.length fc] 170)).alloc (.cells #[.slice va xs.length a0,.slice fa fs.length fc] 170)):=(bY _).alloc (by simp) _;have q0:((w.alloc (.cells #[.slice va xs.length a0,.slice fa fs.length fc] 170)).alloc (.cells #[.slice va xs.length a0,.slice fa fs.length fc] 170)).cell? ⟨w.heap.size+1,0,none⟩=some (.slice va xs.length a0):=by simp
 have q1:((w.alloc (.cells #[.slice va xs.length a0,.slice fa fs.length fc] 170)).alloc (.cells #[.slice va xs.length a0,.slice fa fs.length fc] 170)).cell? ⟨w.heap.size+1,1,none⟩=some (.slice fa fs.length fc):=by simp
 have HL:Hid (fs.length=xs.length):=hl;clear hE hI hl;obtain⟨W,HW⟩:∃ W,Hid (W=(w.alloc (.cells #[.slice va xs.length a0,.slice fa fs.length fc] 170)).alloc (.cells #[.slice va xs.length a0,.slice fa fs.length fc] 170)):=⟨_,rfl⟩
 have am:w.heap.size+2≤W.heap.size:=by rw[HW.out];simp
 rw[<- HW.out]at a2 q0 q1;have HQ:Hid (W.cell? ⟨w.heap.size+1,0,none⟩=some (.slice va xs.length a0)∧W.cell? ⟨w.heap.size+1,1,none⟩=some (.slice fa fs.length fc)):=⟨q0,q1⟩;clear q0 q1;go_enter func108,ntmps108;go_wp2_with fail;refine (LV _).mono ?_;rintro e w1 ⟨rfl,a8⟩;obtain rfl:W=w1:=HW.out.trans a8.symm;have z0:W.cell? ⟨w.heap.size,0,none⟩=some (.slice va xs.length a0):=by rw[HW.out];simp
 clear LV a8 HW;go_wp2_with fail;go_loopw [6,15] (fun v i wr=>Lo W 2 xs fs v i wr) (fun _ i _=>xs.length-(intOf i).toNat)
 case atStart=>exact⟨0,Nat.zero_le _,rfl,World.ownsRow_nil _ _ _ _,bX⟩
 case round =>
  clear z0;obtain⟨k,hk,rfl,hR,a1⟩:=hrel;have ao:=ox 2 xs fs k;by_cases a6:k<xs.length
  .have an:(k:Int)<(xs.length:Int):=by omega
   have p0:wr.cell? ⟨w.heap.size+1,0,none⟩=some (.slice va xs.length a0):=(a1.cell (p:=⟨w.heap.size+1,0,none⟩) (by show w.heap.size+1<W.heap.size;omega)).trans HQ.out.1;have p1:wr.cell? ⟨w.heap.size+1,1,none⟩=some (.slice fa fs.length fc):=(a1.cell (p:=⟨w.heap.size+1,1,none⟩) (by show w.heap.size+1<W.heap.size;omega)).trans HQ.out.2;obtain⟨e,he⟩:∃ e,xs[k]? = some e:=⟨_,List.getElem?_eq_getElem a6⟩
   obtain⟨g,ad,ae,y1,y2,y3,_⟩:=a4 k e he;subst ad;have HV:Hid (wtL 2 (n8 xs k) (at0 fs k)=e.second):=by show _=_;rw[Ir he];rfl
   have CK:=Yc wr (w.heap.size+1) g xs.length a0 k (.slice fa fs.length fc) e.second p0 p1 a6 ((a1.cell (p:=⟨g,k*4+1,none⟩) (by show g<W.heap.size;omega)).trans (by simpa using (a2.cell (p:=⟨g,k*4+1,none⟩) ae).trans y2));clear y1 a4 ac p0 p1;go_wp2_with fail;refine CK.mono ?_;rintro e' w3 ⟨rfl,ai⟩;obtain rfl:wr=w3:=ai.symm;clear CK;have ap:=a1.size;by_cases h0:e.second=0
   .have HS:Hid (er 2 xs fs (k+1)=er 2 xs fs k):=yq (HV.out.trans h0)
    have HR:Hid (ab _ _ _ _):=hR;clear hR HV;go_wp2;exact⟨⟨k+1,by omega,by go_num,by rw[HS.out];exact HR.out,a1⟩,by simp[intOf];omega⟩
   .have al:(e.second == 0)=false:=by simpa using h0
    have HS:Hid (er 2 xs fs (k+1)=er 2 xs fs k++[e.second]):=by
     have:=yp (lv:=2) (xs:=xs) (fs:=fs) (k:=k) (by rw[HV.out];exact h0);rw[HV.out]at this;exact this
    clear HV;unfold ab at hR;go_wp2_with (at_builtin;refine wpList_append_own _ rfl _ _ 39 rfl W.heap.size 3 i0 (.int .i64 0) 1 8 underlying39 hi0 ak ag aj rfl (by decide) _ _ _ rfl (hR.alloc _) ⟨wr.heap.size,0,none⟩ 1 1 [.int .i64 (e.second)] rfl rfl (ic _ _ _ _ (by simp)) (fun u hu=>by simp at hu;subst hu;rfl) (by unfold maxLen;omega) (by omega) (by simp;omega) ?_)
    intro v6 w4 a7 a5 _;have a3:ab w4 W.heap.size v6 (er 2 xs fs k++[e.second]):=ab.snoc a7;have aa:Below W.heap.size W w4:=Below.grown (a1.alloc a1.size _) a5 (a1.alloc a1.size _).size (fun j hj=>(World.ownsRow.lt hR j hj).1);have a9:Hid (ab _ _ _ _):=a3;clear a7 a5 hR a3;go_wp2;exact⟨⟨k+1,by omega,by go_num,by rw[HS.out];exact a9.out,aa⟩,by simp[intOf];omega⟩
  .have af:k=xs.length:=by omega
   subst af;have HR:Hid (ab _ _ _ _):=hR;clear hR;go_wp2;go_ret;exact⟨_,rfl,sj HR.out (by omega),a2.trans (a1.mono (by omega))⟩
theorem Yd (u:World) (b g n c k:Nat) (vf:Value) (x:Int) (hb:u.cell? ⟨b,0,none⟩=some (.slice (some ⟨g,0,none⟩) n c)) (_hb2:u.cell? ⟨b,1,none⟩=some vf) (hk:k<n) (hx:u.cell? ⟨g,k*4+2,none⟩=some (.int .i64 x)) :
  Calls prog 158 #[.int .i64 k,.pointer (some ⟨b,0,none⟩)] u fun e w'=>e=.returned (.int .i64 x)∧w'=u:=by
 have a0:(k:Int)<(n:Int):=by omega
 go_enter func158,ntmps158;go_wp2;go_ret;exact⟨rfl,rfl⟩
theorem Pt {w:World} {B B':Nat} {ve vf:Value} {xs:List El} {fs:List Int}(hE:ah w B ve xs) (hI:ab w B' vf fs) (hl:fs.length=xs.length) (hn:xs.length≤1048576) :
  Calls prog 108 #[.agg #[ve,vf],.int .i64 3] w fun e w'=>∃ v,e=.returned v∧ab w' w.heap.size v (wts 3 xs fs)∧Below w.heap.size w w':=by
 obtain⟨i0,hi0,ak,ag,aj⟩:=info_parts dv;obtain⟨va,a0,rfl,a4⟩:=tu hE;obtain⟨fa,fc,rfl,ac⟩:=rj hI;have LV:=fun u=>Vp va xs.length a0 fa fs.length fc u
 have a2:Below w.heap.size w ((w.alloc (.cells #[.slice va xs.length a0,.slice fa fs.length fc] 170)).alloc (.cells #[.slice va xs.length a0,.slice fa fs.length fc] 170)):=(bY _).alloc (by simp) _;have q0:((w.alloc (.cells #[.slice va xs.length a0,.slice fa fs.length fc] 170)).alloc (.cells #[.slice va xs.length a0,.slice fa fs.length fc] 170)).cell? ⟨w.heap.size+1,0,none⟩=some (.slice va xs.length a0):=by simp
 have q1:((w.alloc (.cells #[.slice va xs.length a0,.slice fa fs.length fc] 170)).alloc (.cells #[.slice va xs.length a0,.slice fa fs.length fc] 170)).cell? ⟨w.heap.size+1,1,none⟩=some (.slice fa fs.length fc):=by simp
 have HL:Hid (fs.length=xs.length):=hl;clear hE hI hl;obtain⟨W,HW⟩:∃ W,Hid (W=(w.alloc (.cells #[.slice va xs.length a0,.slice fa fs.length fc] 170)).alloc (.cells #[.slice va xs.length a0,.slice fa fs.length fc] 170)):=⟨_,rfl⟩
 have am:w.heap.size+2≤W.heap.size:=by rw[HW.out];simp
 rw[<- HW.out]at a2 q0 q1;have HQ:Hid (W.cell? ⟨w.heap.size+1,0,none⟩=some (.slice va xs.length a0)∧W.cell? ⟨w.heap.size+1,1,none⟩=some (.slice fa fs.length fc)):=⟨q0,q1⟩;clear q0 q1;go_enter func108,ntmps108;go_wp2_with fail;refine (LV _).mono ?_;rintro e w1 ⟨rfl,a8⟩;obtain rfl:W=w1:=HW.out.trans a8.symm;have z0:W.cell? ⟨w.heap.size,0,none⟩=some (.slice va xs.length a0):=by rw[HW.out];simp
 clear LV a8 HW;go_wp2_with fail;go_loopw [6,15] (fun v i wr=>Lo W 3 xs fs v i wr) (fun _ i _=>xs.length-(intOf i).toNat)
 case atStart=>exact⟨0,Nat.zero_le _,rfl,World.ownsRow_nil _ _ _ _,bX⟩
 case round =>
  clear z0;obtain⟨k,hk,rfl,hR,a1⟩:=hrel;have ao:=ox 3 xs fs k;by_cases a6:k<xs.length
  .have an:(k:Int)<(xs.length:Int):=by omega
   have p0:wr.cell? ⟨w.heap.size+1,0,none⟩=some (.slice va xs.length a0):=(a1.cell (p:=⟨w.heap.size+1,0,none⟩) (by show w.heap.size+1<W.heap.size;omega)).trans HQ.out.1;have p1:wr.cell? ⟨w.heap.size+1,1,none⟩=some (.slice fa fs.length fc):=(a1.cell (p:=⟨w.heap.size+1,1,none⟩) (by show w.heap.size+1<W.heap.size;omega)).trans HQ.out.2;obtain⟨e,he⟩:∃ e,xs[k]? = some e:=⟨_,List.getElem?_eq_getElem a6⟩
   obtain⟨g,ad,ae,y1,y2,y3,_⟩:=a4 k e he;subst ad;have HV:Hid (wtL 3 (n8 xs k) (at0 fs k)=e.third):=by show _=_;rw[Ir he];rfl
   have CK:=Yd wr (w.heap.size+1) g xs.length a0 k (.slice fa fs.length fc) e.third p0 p1 a6 ((a1.cell (p:=⟨g,k*4+2,none⟩) (by show g<W.heap.size;omega)).trans (by simpa using (a2.cell (p:=⟨g,k*4+2,none⟩) ae).trans y3));clear y1 a4 ac p0 p1;go_wp2_with fail;refine CK.mono ?_;rintro e' w3 ⟨rfl,ai⟩;obtain rfl:wr=w3:=ai.symm;clear CK;have ap:=a1.size;by_cases h0:e.third=0
   .have HS:Hid (er 3 xs fs (k+1)=er 3 xs fs k):=yq (HV.out.trans h0)
    have HR:Hid (ab _ _ _ _):=hR;clear hR HV;go_wp2;exact⟨⟨k+1,by omega,by go_num,by rw[HS.out];exact HR.out,a1⟩,by simp[intOf];omega⟩
   .have al:(e.third == 0)=false:=by simpa using h0
    have HS:Hid (er 3 xs fs (k+1)=er 3 xs fs k++[e.third]):=by
     have:=yp (lv:=3) (xs:=xs) (fs:=fs) (k:=k) (by rw[HV.out];exact h0);rw[HV.out]at this;exact this
    clear HV;unfold ab at hR;go_wp2_with (at_builtin;refine wpList_append_own _ rfl _ _ 39 rfl W.heap.size 3 i0 (.int .i64 0) 1 8 underlying39 hi0 ak ag aj rfl (by decide) _ _ _ rfl (hR.alloc _) ⟨wr.heap.size,0,none⟩ 1 1 [.int .i64 (e.third)] rfl rfl (ic _ _ _ _ (by simp)) (fun u hu=>by simp at hu;subst hu;rfl) (by unfold maxLen;omega) (by omega) (by simp;omega) ?_)
    intro v6 w4 a7 a5 _;have a3:ab w4 W.heap.size v6 (er 3 xs fs k++[e.third]):=ab.snoc a7;have aa:Below W.heap.size W w4:=Below.grown (a1.alloc a1.size _) a5 (a1.alloc a1.size _).size (fun j hj=>(World.ownsRow.lt hR j hj).1);have a9:Hid (ab _ _ _ _):=a3;clear a7 a5 hR a3;go_wp2;exact⟨⟨k+1,by omega,by go_num,by rw[HS.out];exact a9.out,aa⟩,by simp[intOf];omega⟩
  .have af:k=xs.length:=by omega
   subst af;have HR:Hid (ab _ _ _ _):=hR;clear hR;go_wp2;go_ret;exact⟨_,rfl,sj HR.out (by omega),a2.trans (a1.mono (by omega))⟩
theorem Ye (u:World) (b g n c k:Nat) (ve:Value) (x:Int) (_hb2:u.cell? ⟨b,0,none⟩=some ve) (hb:u.cell? ⟨b,1,none⟩=some (.slice (some ⟨g,0,none⟩) n c)) (hk:k<n) (hx:u.cell? ⟨g,k,none⟩=some (.int .i64 x)) :
  Calls prog 159 #[.int .i64 k,.pointer (some ⟨b,0,none⟩)] u fun e w'=>e=.returned (.int .i64 x)∧w'=u:=by
 have a0:(k:Int)<(n:Int):=by omega
 go_enter func159,ntmps159;go_wp2;go_ret;exact⟨rfl,rfl⟩
theorem Pu {w:World} {B B':Nat} {ve vf:Value} {xs:List El} {fs:List Int}(hE:ah w B ve xs) (hI:ab w B' vf fs) (hl:fs.length=xs.length) (hn:xs.length≤1048576) :
  Calls prog 108 #[.agg #[ve,vf],.int .i64 4] w fun e w'=>∃ v,e=.returned v∧ab w' w.heap.size v (wts 4 xs fs)∧Below w.heap.size w w':=by
 obtain⟨i0,hi0,ak,ag,aj⟩:=info_parts dv;obtain⟨va,a0,rfl,ac⟩:=tu hE;obtain⟨fa,fc,rfl,a4⟩:=rj hI;have LV:=fun u=>Vq va xs.length a0 fa fs.length fc u
 have a2:Below w.heap.size w ((w.alloc (.cells #[.slice va xs.length a0,.slice fa fs.length fc] 170)).alloc (.cells #[.slice va xs.length a0,.slice fa fs.length fc] 170)):=(bY _).alloc (by simp) _;have q0:((w.alloc (.cells #[.slice va xs.length a0,.slice fa fs.length fc] 170)).alloc (.cells #[.slice va xs.length a0,.slice fa fs.length fc] 170)).cell? ⟨w.heap.size+1,0,none⟩=some (.slice va xs.length a0):=by simp
 have q1:((w.alloc (.cells #[.slice va xs.length a0,.slice fa fs.length fc] 170)).alloc (.cells #[.slice va xs.length a0,.slice fa fs.length fc] 170)).cell? ⟨w.heap.size+1,1,none⟩=some (.slice fa fs.length fc):=by simp
 have HL:Hid (fs.length=xs.length):=hl;clear hE hI hl;obtain⟨W,HW⟩:∃ W,Hid (W=(w.alloc (.cells #[.slice va xs.length a0,.slice fa fs.length fc] 170)).alloc (.cells #[.slice va xs.length a0,.slice fa fs.length fc] 170)):=⟨_,rfl⟩
 have am:w.heap.size+2≤W.heap.size:=by rw[HW.out];simp
 rw[<- HW.out]at a2 q0 q1;have HQ:Hid (W.cell? ⟨w.heap.size+1,0,none⟩=some (.slice va xs.length a0)∧W.cell? ⟨w.heap.size+1,1,none⟩=some (.slice fa fs.length fc)):=⟨q0,q1⟩;clear q0 q1;go_enter func108,ntmps108;go_wp2_with fail;refine (LV _).mono ?_;rintro e w1 ⟨rfl,a8⟩;obtain rfl:W=w1:=HW.out.trans a8.symm;have z0:W.cell? ⟨w.heap.size,0,none⟩=some (.slice va xs.length a0):=by rw[HW.out];simp
 clear LV a8 HW;go_wp2_with fail;go_loopw [6,15] (fun v i wr=>Lo W 4 xs fs v i wr) (fun _ i _=>xs.length-(intOf i).toNat)
 case atStart=>exact⟨0,Nat.zero_le _,rfl,World.ownsRow_nil _ _ _ _,bX⟩
 case round =>
  clear z0;obtain⟨k,hk,rfl,hR,a1⟩:=hrel;have ap:=ox 4 xs fs k;by_cases ao:k<xs.length
  .have an:(k:Int)<(xs.length:Int):=by omega
   have p0:wr.cell? ⟨w.heap.size+1,0,none⟩=some (.slice va xs.length a0):=(a1.cell (p:=⟨w.heap.size+1,0,none⟩) (by show w.heap.size+1<W.heap.size;omega)).trans HQ.out.1;have p1:wr.cell? ⟨w.heap.size+1,1,none⟩=some (.slice fa fs.length fc):=(a1.cell (p:=⟨w.heap.size+1,1,none⟩) (by show w.heap.size+1<W.heap.size;omega)).trans HQ.out.2;have a6:k<fs.length:=by have:=HL.out;omega
   obtain⟨g,ad,ae,y1⟩:=a4 k a6;subst ad;have HV:Hid (wtL 4 (n8 xs k) (at0 fs k)=at0 fs k):=by show _=_;rfl
   have CK:=Ye wr (w.heap.size+1) g fs.length fc k (.slice va xs.length a0) (at0 fs k) p0 p1 a6 ((a1.cell (p:=⟨g,k,none⟩) (by show g<W.heap.size;omega)).trans (by simpa using (a2.cell (p:=⟨g,k,none⟩) ae).trans y1));clear y1 ac a4 p0 p1;go_wp2_with fail;refine CK.mono ?_;rintro e' w3 ⟨rfl,ai⟩;obtain rfl:wr=w3:=ai.symm;clear CK;have aq:=a1.size;by_cases h0:at0 fs k=0
   .have HS:Hid (er 4 xs fs (k+1)=er 4 xs fs k):=yq (HV.out.trans h0)
    have HR:Hid (ab _ _ _ _):=hR;clear hR HV;go_wp2;exact⟨⟨k+1,by omega,by go_num,by rw[HS.out];exact HR.out,a1⟩,by simp[intOf];omega⟩
   .have al:(at0 fs k == 0)=false:=by simpa using h0
    have HS:Hid (er 4 xs fs (k+1)=er 4 xs fs k++[at0 fs k]):=by
     have:=yp (lv:=4) (xs:=xs) (fs:=fs) (k:=k) (by rw[HV.out];exact h0);rw[HV.out]at this;exact this
    clear HV;unfold ab at hR;go_wp2_with (at_builtin;refine wpList_append_own _ rfl _ _ 39 rfl W.heap.size 3 i0 (.int .i64 0) 1 8 underlying39 hi0 ak ag aj rfl (by decide) _ _ _ rfl (hR.alloc _) ⟨wr.heap.size,0,none⟩ 1 1 [.int .i64 (at0 fs k)] rfl rfl (ic _ _ _ _ (by simp)) (fun u hu=>by simp at hu;subst hu;rfl) (by unfold maxLen;omega) (by omega) (by simp;omega) ?_)
    intro v6 w4 a7 a5 _;have a3:ab w4 W.heap.size v6 (er 4 xs fs k++[at0 fs k]):=ab.snoc a7;have aa:Below W.heap.size W w4:=Below.grown (a1.alloc a1.size _) a5 (a1.alloc a1.size _).size (fun j hj=>(World.ownsRow.lt hR j hj).1);have a9:Hid (ab _ _ _ _):=a3;clear a7 a5 hR a3;go_wp2;exact⟨⟨k+1,by omega,by go_num,by rw[HS.out];exact a9.out,aa⟩,by simp[intOf];omega⟩
  .have af:k=xs.length:=by omega
   subst af;have HR:Hid (ab _ _ _ _):=hR;clear hR;go_wp2;go_ret;exact⟨_,rfl,sj HR.out (by omega),a2.trans (a1.mono (by omega))⟩
def iz:List Int→List Int→Nat
 | x::xs,y::ys=>if x=y then iz xs ys+1 else 0
 | _,_=>0
theorem Lx:∀ (a b:List Int) (k:Nat) (x y:Int),(∀ j,j<k→a[j]? = b[j]?)→a[k]? = some x→b[k]? = some y→x≠y→iz a b=k
 | [],_,k,_,_,_,h,_,_=>by simp at h
 | _::_,[],k,_,_,_,_,h,_=>by simp at h
 | p::a,q::b,0,x,y,_,hx,hy,hne=>by
  simp at hx hy;subst hx;subst hy;unfold iz;rw[if_neg hne]
 | p::a,q::b,k+1,x,y,hj,hx,hy,hne=>by
  have h0:=hj 0 (by omega);simp at h0;subst h0;unfold iz;rw[if_pos rfl,Lx a b k x y (fun j h=>by have:=hj (j+1) (by omega);simpa using this) (by simpa using hx) (by simpa using hy) hne]
theorem Jc:∀ (a b:List Int),(∀ j,j<min a.length b.length→a[j]? = b[j]?)→iz a b=min a.length b.length
 | [],b,_=>by simp[iz]
 | _::_,[],_=>by simp[iz]
 | p::a,q::b,hj=>by
  have h0:=hj 0 (by simp);simp at h0;subst h0;have:=Jc a b (fun j h=>by have:=hj (j+1) (by simp;omega);simpa using this);unfold iz;rw[if_pos rfl,this];simp
def M5 (a b:List Int):Bool:=decide (b.length≤a.length) && decide (a.take b.length=b)
theorem Gv:∀ (a b:List Int),M5 a b=decide (iz a b=b.length)
 | a,[]=>by cases a <;> simp[M5,iz]
 | [],q::b=>by simp[M5,iz]
 | p::a,q::b=>by
  have ih:=Gv a b;unfold M5 at ih ⊢;unfold iz;by_cases h:p=q
  .subst h
   rw[if_pos rfl];simpa using ih
  .rw[if_neg h]
   simp[h]
def ww (es:List Ent) (sh:Bool) (lv:Int) (x y:ByteArray):Bool:=if (okE es lv x && okE es lv y)=true then M5 (rf es sh lv x) (rf es sh lv y) else false
theorem ad1 {x y:Int}(hx:1≤x∧x≤65535) (hy:1≤y∧y≤65535):(Ieee.double.order (FloatKind.nearest .f64 x) (FloatKind.nearest .f64 y) == some .eq)=decide (x=y):=by
 obtain⟨a,rfl⟩:∃ a:Nat,x=(a:Int):=⟨x.toNat,by omega⟩
 obtain⟨b,rfl⟩:∃ b:Nat,y=(b:Int):=⟨y.toNat,by omega⟩
 rw[a09 (by omega) (by omega) (by omega) (by omega)];by_cases h:a=b
 .subst h;simp
 .rw[decide_eq_false h,decide_eq_false (by omega)]
def U4 (es:List Ent) (sh:Bool) (lv:Int) (x y:ByteArray):Int:=if (okE es lv x && okE es lv y)=true then mp (qf es sh lv x) (qf es sh lv y) else 0
end Go.Proofs.YtjbmgghehdemdaaGreatDoor
