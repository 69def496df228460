/- Four -/
import Derived.Test.YtjbmgghehdemdaaGreatDoorMR2
import Derived.Lib.AppendZeros
import Derived.Test.YtjbmgghehdemdaaGreatDoorMR7
import Derived.Lib.OthersKept
import Derived.Deep.RegionHeld3
namespace Go.Proofs.YtjbmgghehdemdaaGreatDoor
set_option maxRecDepth 100000
set_option maxHeartbeats 16000000
open _root_.Go.Proofs.Tryz
open Go.RowKit
def elZ:El:=⟨0,0,0,false⟩
def ja (sh beh:Bool) (e:El):Int × El × Bool :=
 if sh=false then (65535,e,beh)
 else if e.varies=true then (e.first,elZ,true)
 else if e.first=0/\beh=true then (0,elZ,beh)
 else ((if e.first=0/\e.second=0/\e.third=0 then 0 else 65535),e,if e.first=0 then beh else false)
def fw (sh:Bool) (es:List El):Nat->List Int × List El × Bool
 | 0=>([],[],false)
 | k+1 =>
  match es[k]? with
  | none=>fw sh es k
  | some e=>((fw sh es k).1++[(ja sh (fw sh es k).2.2 e).1],(fw sh es k).2.1++[(ja sh (fw sh es k).2.2 e).2.1],(ja sh (fw sh es k).2.2 e).2.2)
def dc (sh:Bool) (es:List El):List Int:=(fw sh es es.length).1
def ck (sh:Bool) (es:List El):List El:=(fw sh es es.length).2.1
theorem Al {sh:Bool} {es:List El} {k:Nat} {e:El} {fs:List Int} {xs:List El} {b:Bool}(a:es[k]? = some e) (h:fw sh es k=(fs,xs,b)) :
  fw sh es (k+1)=(fs++[(ja sh b e).1],xs++[(ja sh b e).2.1],(ja sh b e).2.2):=by
 rw[fw,a,h]
theorem Cb (sh:Bool) (es:List El) (k:Nat):(fw sh es k).1.length<=k/\(fw sh es k).2.1.length<=k:=by
 induction k with
 | zero=>exact⟨bR,bR⟩
 | succ k ih =>
  unfold fw;split
  .omega
  .simp;omega
theorem ye:(prog.info? 111).map (fun i=>(i.zero,i.size,i.bytes))=some (some (.agg #[.int .i64 0,.int .i64 0,.int .i64 0,.bool false]),4,32):=by kernel_rfl
theorem U7 (es:List El) (e:El):kt (es++[e])=kt es++elC e:=by simp[kt]
theorem ah.snoc {w:World} {B:Nat} {v:Value} {es:List El} {e:El}(h:w.ownsRow B 111 4 v (es.length+1) (kt es++elC e)):ah w B v (es++[e]):=by
 unfold ah;rw[U7,List.length_append];exact h
theorem mh (w:World) (n:Nat) (e:El) (t:TypeId) (b:n=w.heap.size):∀ j u,(elC e)[j]? = some u->(w.alloc (.cells #[.int .i64 e.first,.int .i64 e.second,.int .i64 e.third,.bool e.varies] t)).cell? ((⟨n,0,none⟩:Addr).add j)=some u:=by
 subst b;intro j u a;match j,a with
 | 0,a=>simp[elC]at a;subst a;simp[Addr.add]
 | 1,a=>simp[elC]at a;subst a;simp[Addr.add]
 | 2,a=>simp[elC]at a;subst a;simp[Addr.add]
 | 3,a=>simp[elC]at a;subst a;simp[Addr.add]
 | j+4,a=>simp[elC]at a
theorem ic (w:World) (n:Nat) (x:Value) (t:TypeId) (b:n=w.heap.size):∀ j u,[x][j]? = some u->(w.alloc (.cells #[x] t)).cell? ((⟨n,0,none⟩:Addr).add j)=some u:=by
 subst b;intro j u a;match j,a with
 | 0,a=>simp at a;subst a;simp[Addr.add]
theorem Em {b:Bool} {e:El}:ja false b e=(65535,e,b):=by simp[ja]
theorem Z5 {b:Bool} {e:El}(h:e.varies=true):ja true b e=(e.first,elZ,true):=by simp[ja,h]
theorem Ul {e:El}(h:e.varies=false) (h0:e.first=0):ja true true e=(0,elZ,true):=by simp[ja,h,h0]
theorem Qp {b:Bool} {e:El}(h:e.varies=false) (h0:e.first≠0):ja true b e=(65535,e,false):=by simp[ja,h,h0]
theorem Um {e:El}(h:e.varies=false) (h0:e.first=0) (h1:e.second=0) (h2:e.third=0):ja true false e=(0,e,false):=by simp[ja,h,h0,h1,h2]
theorem He {e:El}(h:e.varies=false) (h0:e.first=0) (h1:¬ (e.second=0/\e.third=0)):ja true false e=(65535,e,false):=by simp[ja,h,h0,h1]
theorem I9 {P:Program}(w:World) (t ty e:TypeId) (i:TypeInfo) (ht:P.underlying t=some (.slice e)) (hi:P.info? e=some i) (b:Option Addr) (n c:Nat) (a:n<=c) :
  (Builtin.append_ #[t,t] ty #[.slice b n c,.slice none 0 0]).run P w=.ok (.slice b n c) w:=by
 cases b <;> simp[Builtin.append_,run_underlying ht,sizeOf,typeInfo,hi,a,storeCells,Builtin.lenOf,Builtin.firstCells]
theorem Yp (es fs:List El):kt (es++fs)=kt es++kt fs:=by simp[kt]
theorem Yq (es:List El):∀ u ∈ kt es,u.oneCell'=true:=by
 intro u b;unfold kt at b;obtain⟨e,_,a⟩:=List.mem_flatMap.1 b;simp[elC]at a
 rcases a with rfl|rfl|rfl|rfl <;> rfl
theorem A8 {w:World} {k:Array Oper} {rest:List Oper} {o:Oper} {a:Act} {Q:Exit->Act->World->Prop}(i:o.guard=none) (s x:Operand)
  (m:o.op=.call { callee:=.builtin .append,args:=#[s,x],argTypes:=#[166,166] }) (B F:Nat) (v t:Value) (es fs:List El) (p:a.eval s=v) (q:a.eval x=t) (e:ah w B v es) (l:ah w F t fs)
  (G:es.length+fs.length<=1048576) (y:B<=w.heap.size) (h:∀ v' w',ah w' B v' (es++fs)->w.grownBy w' v.ownBlock->wpList prog k Q rest (a.put o.dst v') w'):wpList prog k Q (o::rest) a w:=by
 obtain⟨r,hi1,E,C,D⟩:=info_parts ye;rcases l.form with ⟨rfl,rfl⟩|⟨g,f,rfl,_,_⟩
 .obtain⟨b,n,c,rfl,A⟩:∃ b n c,v=.slice b n c/\n<=c:=by
   rcases e.form with ⟨rfl,rfl⟩|⟨g,f,rfl,d,_⟩
   .exact⟨_,_,_,rfl,bR⟩
   .exact⟨_,_,_,rfl,d⟩
  refine Go.Lib.wpList_append_run w i s x 166 166 m _ _ p q _ _ (I9 w _ _ _ r underlying166 hi1 b n c A) ?_;refine h _ _ ?_ ⟨rfl,rfl,rfl,bR,fun _ _ _=>rfl⟩;rw[List.append_nil];exact e
 .refine wpList_append_own w i s x 166 m B 111 r _ 4 32 underlying166 hi1 E C D rfl (by decide) v es.length (kt es) p e ⟨g,0,none⟩ fs.length f (kt fs) q (ts fs) (fun j u hj=>?_) (Yq fs) (by unfold maxLen;omega) (by omega) y (fun v' w' d h2 _=>h v' w' ?_ h2)
  .have z:j<fs.length*4:=by
    have:=(List.getElem?_eq_some_iff.1 hj).1;rw[ts]at this;exact this
   have:=World.ownsRow.cellAt l j z;rw[hj]at this;show w.cell? ((⟨g,0,none⟩:Addr).add j)=some u
   rw[<- this];unfold Addr.add;split
   .rename_i h0;subst h0;rfl
   .simp
  .unfold ah
   rw[Yp,List.length_append];exact d
theorem dg {u:World} {B i e b size d n p:Nat} {v v':Value} {xs f:List Value}(h:u.ownsRow B e size v n xs) (l:u.ownsRow i b d v' p f) (m:e≠b):v.ownBlock=none\/v.ownBlock≠v'.ownBlock:=by
 rcases h.2 with ⟨rfl,_⟩|⟨g,q,s,rfl,_,o,_⟩
 .exact .inl rfl
 .refine .inr fun c=>?_
  rcases l.2 with ⟨rfl,_⟩|⟨g',r,t,rfl,_,a,_⟩
  .cases c
  .have:g=g':=Option.some.inj c
   subst this;rw[o]at a;injection a with j;injection j with _ k _;exact m k
def D9:Value->Nat
 | .string t=>t.size
 | _=>0
def ar2 (s:ByteArray) (w:World) (sv v b:Value) (wr:World):Prop :=
 ∃ (t:ByteArray) (f bad:Nat) (acc:List Int),sv=.string t/\b=.int .i64 bad/\ab wr w.heap.size v acc/\Below w.heap.size w wr /\
  acc++(Dec.decT f t).1=(Dec.decT s.size s).1/\bad+(Dec.decT f t).2=(Dec.decT s.size s).2/\t.size<=f/\acc.length+t.size<=s.size/\bad+t.size<=s.size
theorem Jp {t:ByteArray} {r:Int} {n:Nat} {a:Bool}(h0:0<t.size) (b:Dec.one t=(r,n,a)) (f:Nat) :
  Dec.decT (f+1) t=(r::(Dec.decT f (t.extract n t.size)).1,(Dec.decT f (t.extract n t.size)).2+(if a then 0 else 1)):=by
 simp only[Dec.decT,if_pos h0,b]
theorem ak2 {v:Value} {a b:Int}(h:a=b):Ending.returned (.tuple #[v,.int .i64 a])=.returned (.tuple #[v,.int .i64 b]):=by rw[h]
theorem Cg (s:ByteArray) (w:World) (Y:s.size<=1073741824) :
  Calls prog 39 #[.string s] w fun e w'=>∃ v,e=.returned (.tuple #[v,.int .i64 ((Dec.decT s.size s).2:Int)])/\ab w' w.heap.size v (Dec.decT s.size s).1/\Below w.heap.size w w':=by
 obtain⟨Q,P,L,M,N⟩:=info_parts dv;go_enter func39,ntmps39;go_wp2;go_loopw [0,4,5] (fun sv v b wr=>ar2 s w sv v b wr) (fun sv _ _ _=>D9 sv)
 case atStart=>exact⟨s,s.size,0,[],rfl,rfl,World.ownsRow_nil _ _ _ _,bX,by simp,by simp,bR,by simp,by simp⟩
 case round =>
  obtain⟨t,f,l,E,rfl,rfl,h,m,I,J,X,R,S⟩:=hrel;have o:Hid _:=I;have p:Hid _:=J;clear I J;unfold ab at h;by_cases A:0<t.size
  .obtain⟨r,n,B,z⟩:∃ r n B,Hid (Dec.one t=(r,n,B)):=⟨_,_,_,rfl⟩
   have q:=Dec.one_le t A;rw[z.out]at q;have U:1<=n:=q.1;have V:n<=t.size:=q.2;clear q;have O:=fun w=>ap2 t A (by unfold maxLen;omega) w
   rw[z.out]at O;obtain⟨a,rfl⟩:∃ a,f=a+1:=⟨f-1,by omega⟩
   have F:=Jp A z.out a;have i:Hid _:=o.out;have k:Hid _:=p.out;unfold Hid at i k;rw[F]at i k;have c:Hid _:=i;have d:Hid _:=k;clear i k F o p;have W:=m.size;have T:=Dec.size_extract t n
   cases B
   all_goals
    go_wp2_with (first
     | (go_at_call 90;refine (O _).mono ?_;rintro e w' ⟨rfl,rfl⟩)
     | (at_builtin;refine wpList_append_own _ rfl _ _ 39 rfl w.heap.size 3 Q (.int .i64 0) 1 8 underlying39 P L M N rfl (by decide) _ _ _ rfl (h.alloc _) ⟨_,0,none⟩ 1 1 [.int .i64 r] rfl rfl (cell_one_new _ _ _) (fun x hx=>by simp at hx;subst hx;rfl) (by unfold maxLen;omega) (by omega) (by simp;omega) ?_;intro Z w3 H G _))
   .have y:=Below.grown (m.alloc (by omega) _) G (by simp;omega) (fun j hj=>(h.lt _ hj).1)
    have g:=c.out;have u:l+((Dec.decT a (t.extract n t.size)).2+1)=_:=d.out;exact⟨⟨t.extract n t.size,a,l+1,E++[r],rfl,by go_num,ab.snoc H,y,by simpa using g,by omega,by omega,by simp;omega,by omega⟩,by simp only[D9];omega⟩
   .have y:=Below.grown (m.alloc (by omega) _) G (by simp;omega) (fun j hj=>(h.lt _ hj).1)
    have g:=c.out;have u:l+((Dec.decT a (t.extract n t.size)).2+0)=_:=d.out;exact⟨⟨t.extract n t.size,a,l,E++[r],rfl,by go_num,ab.snoc H,y,by simpa using g,by omega,by omega,by simp;omega,by omega⟩,by simp only[D9];omega⟩
  .have K:t.size=0:=by omega
   have c:=o.out;have d:=p.out;rw[Dec.decT_end _ _ K]at c d;have g:Hid _:=c;have u:Hid _:=d;clear c d o p;go_wp2;go_ret2;have C:=g.out;have D:=u.out;simp only[List.append_nil,Nat.add_zero]at C D;refine⟨_,ak2 (by rw[D]),?_,m⟩;rw[<- C];exact h
def rn4 (s:ByteArray):List Int:=nD (Dec.decT s.size s).1
def ok4 (s:ByteArray):Bool:=decide (s.size<=200/\(rn4 s).length<=200)
def ri:List Int->Int->List Int
 | [],r=>[r]
 | x::t,r=>if 0<cls r/\cls r<cls x then x::ri t r else r::x::t
theorem Sx {x r:Int} {t:List Int}(h:0<cls r/\cls r<cls x):ri (x::t) r=x::ri t r:=by simp only[ri,if_pos h]
theorem Kc {x r:Int} {t:List Int}(h:¬ (0<cls r/\cls r<cls x)):ri (x::t) r=r::x::t:=by simp only[ri,if_neg h]
theorem M2 (l m:List Int) (k:Nat) (h:k<l.length):at0 (l++m) k=at0 l k:=by
 simp[at0,List.getElem?_append_left h]
theorem Sc (l m:List Int) (x:Int):at0 (l++x::m) l.length=x:=by simp[at0]
theorem Gy (l m:List Int) (k:Nat) (h:k<l.length):bub (l++m) k=bub l k++m:=by
 induction k generalizing l with
 | zero=>rfl
 | succ k ih =>
  have a:=M2 l m (k+1) h;have b:=M2 l m k (by omega);by_cases c:0<cls (at0 l (k+1))/\cls (at0 l (k+1))<cls (at0 l k)
  .rw[zo l k c,zo (l++m) k (by rw[a,b];exact c),a,b,List.set_append_left _ _ h,List.set_append_left _ _ (by simp;omega)]
   exact ih _ (by simp;omega)
  .rw[oe l k c,oe (l++m) k (by rw[a,b];exact c)]
theorem Xe (l m:List Int) (i:Nat) (h:i<=l.length):srt (l++m) i=srt l i++m:=by
 induction i with
 | zero=>rfl
 | succ i ih=>rw[srt,ih (by omega),Gy _ _ _ (by rw[rt];omega)];rfl
theorem a80 (l:List Int) (r:Int):bub (l++[r]) l.length=(ri l.reverse r).reverse:=by
 generalize hn:l.length=n;induction n generalizing l with
 | zero =>
  obtain rfl:l=[]:=List.eq_nil_of_length_eq_zero hn;rfl
 | succ n ih =>
  obtain⟨a,x,rfl⟩:∃ a x,l=a++[x]:=⟨l.dropLast,l.getLast (by intro h;rw[h]at hn;simp at hn),(List.dropLast_concat_getLast _).symm⟩
  have b:a.length=n:=by simpa using hn
  have d:at0 (a++[x]++[r]) (n+1)=r:=by
   have:=Sc (a++[x]) [] r;rw[show (a++[x]).length=n+1 by simp[b]]at this;exact this
  have e:at0 (a++[x]++[r]) n=x:=by
   have:=Sc a [r] x;rw[b]at this;rw[List.append_assoc];exact this
  rw[List.reverse_append];by_cases c:0<cls r/\cls r<cls x
  .rw[zo _ _ (by rw[d,e];exact c),d,e]
   have f:((a++[x]++[r]).set (n+1) x).set n r=(a++[r])++[x]:=by
    rw[List.append_assoc,List.append_assoc];subst b;rw[List.set_append_right _ _ (by omega),List.set_append_right _ _ (by omega)];simp
   rw[f,Gy _ _ _ (by simp;omega),ih a b];show _=(ri (x::a.reverse) r).reverse
   rw[Sx c];simp
  .rw[oe _ _ (by rw[d,e];exact c)]
   show _=(ri (x::a.reverse) r).reverse
   rw[Kc c];simp
def stk (l:List Int):List Int:=l.foldl ri []
theorem ah7 (l:List Int) (r:Int):stk (l++[r])=ri (stk l) r:=by simp[stk,List.foldl_append]
theorem a45 (l:List Int):mc l=(stk l).reverse:=by
 generalize hn:l.length=n;induction n generalizing l with
 | zero =>
  obtain rfl:l=[]:=List.eq_nil_of_length_eq_zero hn;rfl
 | succ n ih =>
  obtain⟨a,x,rfl⟩:∃ a x,l=a++[x]:=⟨l.dropLast,l.getLast (by intro h;rw[h]at hn;simp at hn),(List.dropLast_concat_getLast _).symm⟩
  have b:a.length=n:=by simpa using hn
  have d:mc (a++[x])=bub (mc a++[x]) n:=by
   unfold mc;rw[List.length_append,List.length_singleton,srt,Xe _ _ _ bR,b]
  have c:=a80 (mc a) x;rw[xz,b,ih a b,List.reverse_reverse]at c;rw[d,ih a b,c,ah7]
theorem ad0 {x r:Int} {s:List Int}:x ∈ ri s r↔x=r\/x ∈ s:=by
 induction s with
 | nil=>simp[ri]
 | cons y t ih =>
  by_cases c:0<cls r/\cls r<cls y
  .rw[Sx c];simp only[List.mem_cons,ih]
   constructor
   .rintro (h|h|h) <;> simp[h]
   .rintro (h|h|h) <;> simp[h]
  .rw[Kc c];simp
theorem ac9 {x:Int}(l s:List Int):x ∈ l.foldl ri s↔x ∈ l\/x ∈ s:=by
 induction l generalizing s with
 | nil=>simp
 | cons r l ih =>
  simp only[List.foldl_cons,ih,ad0,List.mem_cons];constructor
  .rintro (h|h|h) <;> simp[h]
  .rintro ((h|h)|h) <;> simp[h]
theorem Kk {x:Int} {l:List Int}:x ∈ mc l↔x ∈ l:=by
 rw[a45,List.mem_reverse];have:=ac9 (x:=x) l [];simpa [stk] using this
theorem ap5 {w:World} {B f e size n:Nat} {v:Value} {xs:List Value}(h:w.ownsRow f e size v n xs) (l:B<=f):w.ownsRow B e size v n xs:=by
 obtain⟨k,d⟩:=h;refine⟨k,?_⟩;rcases d with d|⟨g,i,j,a,b,c⟩
 .exact .inl d
 .exact .inr ⟨g,i,j,a,by omega,c⟩
def ak6 (s:ByteArray) (w:World) (v b nx:Value) (wr:World):Prop :=
 ∃ (p q f bad:Nat) (acc:List Int),b=.int .i64 bad/\nx=.int .i64 q/\wr.heap[w.heap.size]? = some (.stringIter s p)/\ab wr (w.heap.size+1) v acc/\Below w.heap.size w wr /\
  p<=q/\q<=s.size/\(∀ j,p<=j->j<q->128<=Dec.bt s j/\Dec.bt s j<=191) /\
  acc++(Dec.decT f (s.extract q s.size)).1=(Dec.decT s.size s).1/\bad+(Dec.decT f (s.extract q s.size)).2=(Dec.decT s.size s).2/\s.size<=q+f/\acc.length<=q/\bad<=q
theorem z7 (s:ByteArray):s.extract 0 s.size=s:=by simp
theorem Ol (s:ByteArray) (w:World) (hs:s.size<=1073741824) :
  Calls prog 196 #[.string s] w fun e w'=>∃ v,e=.returned (.tuple #[v,.int .i64 ((Dec.decT s.size s).2:Int)])/\ab w' w.heap.size v (Dec.decT s.size s).1/\Below w.heap.size w w':=by
 obtain⟨i0,hi,ag,ah,ai⟩:=info_parts dv;go_enter func196,ntmps196;go_wp2;go_loopw [4,5,6] (fun v b nx wr=>ak6 s w v b nx wr) (fun _ _ _ wr=>s.size-wr.iterPos w.heap.size)
 case atStart=>exact⟨0,0,s.size,0,[],rfl,rfl,World.iter_heap w s 0,World.ownsRow_nil _ _ _ _,bY _,bR,Nat.zero_le _,fun j _ h=>by omega,by rw[z7];simp,by rw[z7];simp,by omega,by simp,bR⟩
 case round =>
  obtain⟨p,q,f,g,J,rfl,rfl,i,B,K,al,af,Z,hA,hB,hf,a9,aa⟩:=hrel;have o:Hid _:=hA;have t:Hid _:=hB;have P:Hid _:=Z;clear hA hB Z;have N:=iterPos_of i;unfold ab at B;by_cases F:p<s.size
  .have a6:∀ ty,(Instr.next (.pointer (some ⟨w.heap.size,0,none⟩)) true ty).run prog wr=_:=fun ty=>Lib.run_next_any_at wr w.heap.size s p ty i F
   have z:=decode_le s p;have l:=Lib.iterAt_heap wr w.heap.size s p (p+(Utf8.decode s p).2) i;have y:=Lib.below_iterAt K (k:=w.heap.size) bR s (p+(Utf8.decode s p).2);have m:=ownsRow_iterAt B (k:=w.heap.size) (by omega) s (p+(Utf8.decode s p).2);obtain⟨W1,X⟩:∃ W1,W1=wr.iterAt w.heap.size s (p+(Utf8.decode s p).2):=⟨_,rfl⟩
   rw[<- X]at a6 l y m;have a2:=lt_of_block l;clear X i B K;by_cases a4:p<q
   .have a8:=Dec.decode_cont s p F (P.out p bR a4).1 (P.out p bR a4).2
    have R:Hid _:=a8;clear a8;go_wp2;go_roundw
    case rel=>exact⟨p+(Utf8.decode s p).2,q,f,g,J,rfl,rfl,l,m,y,by rw[R.out];omega,af,fun j S T=>P.out j (by rw[R.out]at S;omega) T,o.out,t.out,hf,a9,aa⟩
    case measure=>rw[iterPos_of l,N,R.out];omega
   .have ae:q=p:=by omega
    subst ae;have a3:=Dec.size_extract s q;have hd:=Dec.decode_one s q F;obtain⟨r,n,U,Q⟩:∃ r n U,Hid (Dec.one (s.extract q s.size)=(r,n,U)):=⟨_,_,_,rfl⟩
    have E:=Dec.one_le (s.extract q s.size) (by omega);have L:=Dec.one_cont (s.extract q s.size);rw[Q.out]at E hd L;have C:Hid _:=hd;have HT:Hid _:=L;clear hd L;have ak:1<=n:=E.1;have ad:n<=(s.extract q s.size).size:=E.2;clear E;have O:=fun w=>Z6 (s.extract q s.size) (by omega) (by unfold maxLen;omega) w
    rw[Q.out]at O;obtain⟨a,rfl⟩:∃ a,f=a+1:=⟨f-1,by omega⟩
    have M:=Jp (by omega) Q.out a;rw[Dec.extract_extract]at M;have G:=o.out;have H:=t.out;rw[M]at G H;have d:Hid _:=G;have c:Hid _:=H;have aj:Hid _:=a3;have a5:q+n<=s.size:=by omega
    clear G H M o t a3 ad;have am:=y.size
    cases U
    all_goals
     go_wp2_with (first
      | (go_at_call 209;refine (O _).mono ?_;rintro e w' ⟨rfl,rfl⟩)
      | (at_builtin;refine wpList_append_own _ rfl _ _ 39 rfl (w.heap.size+1) 3 i0 (.int .i64 0) 1 8 underlying39 hi ag ah ai rfl (by decide) _ _ _ rfl (m.alloc _) ⟨_,0,none⟩ 1 1 [.int .i64 ((Utf8.decode s q).1:Int)] rfl rfl (cell_one_new _ _ _) (fun x hx=>by simp at hx;subst hx;rfl) (by unfold maxLen;omega) (by omega) (by simp;omega) ?_;intro v' w3 a1 a0 _))
     have A:w3.heap[w.heap.size]? = some (.stringIter s (q+(Utf8.decode s q).2)):=by
      rw[a0.block w.heap.size (by simp;omega) (fun h=>by have:=(m.lt _ h.symm).1;omega),Below.heap_alloc _ _ _ a2];exact l
     have Y:Below w.heap.size w w3:=Below.grown (y.alloc (by omega) _) a0 (by simp;omega) (fun j hj=>by have:=(m.lt _ hj).1;omega);have D:=ab.snoc a1;have u:=d.out
    .have z:((Utf8.decode s q).1:Int)=r:=C.out.1
     have ac:(Utf8.decode s q).2=1:=C.out.2;rw[z]at D;have I:g+((Dec.decT a (s.extract (q+n) s.size)).2+1)=_:=c.out;refine⟨⟨q+(Utf8.decode s q).2,q+n,a,g+1,J++[r],by go_num,by go_num,A,D,Y,by omega,a5,?_,by simpa using u,by omega,by omega,by simp;omega,by omega⟩,by rw[iterPos_of A,N];omega⟩;intro j S T;have:=HT.out trivial (j-q) (by omega) (by show j-q<n;omega);rw[Dec.bt_extract s q (j-q) (by omega),show q+(j-q)=j by omega]at this;exact this
    .have z:((Utf8.decode s q).1:Int)=r:=C.out.1
     have ac:(Utf8.decode s q).2=n:=C.out.2;rw[z]at D;have I:g+((Dec.decT a (s.extract (q+n) s.size)).2+0)=_:=c.out;exact⟨⟨q+(Utf8.decode s q).2,q+n,a,g,J++[r],by go_num,by go_num,A,D,Y,by omega,a5,fun j S T=>by omega,by simpa using u,by omega,by omega,by simp;omega,by omega⟩,by rw[iterPos_of A,N];omega⟩
  .have a6:∀ ty,(Instr.next (.pointer (some ⟨w.heap.size,0,none⟩)) true ty).run prog wr=_:=fun ty=>Lib.run_next_end_at wr w.heap.size s p ty i F
   have a7:(s.extract q s.size).size=0:=by rw[Dec.size_extract];omega
   have d:=o.out;have c:=t.out;rw[Dec.decT_end _ _ a7]at d c;have u:Hid _:=d;have I:Hid _:=c;clear d c o t a7;go_wp2;go_ret2;have V:=u.out;have W:=I.out;simp only[List.append_nil,Nat.add_zero]at V W;refine⟨_,ak2 (by rw[W]),?_,K⟩;rw[<- V];exact ap5 B (by omega)
theorem Qc (s:ByteArray) (p:Nat):(Utf8.decode s p).1<=1114111/\((Utf8.decode s p).1<55296\/57343<(Utf8.decode s p).1):=by
 have a:∀ k,(s.get! (p+k)).toNat<256:=fun k=>(s.get! (p+k)).toNat_lt
 have b:=a 0;have c:=a 1;have d:=a 2;have e:=a 3;simp only[Utf8.decode];repeat' split
 all_goals simp_all [Utf8.runeError,Utf8.valid]
 all_goals omega
theorem ad7 (t:ByteArray) (h:0<t.size):bp (Dec.one t).1=true:=by
 have hd:=(Dec.decode_one t 0 h).1;rw[z7]at hd;have a:=Qc t 0;rw[<- hd];exact decide_eq_true (by omega)
theorem Fj:∀ (f:Nat) (t:ByteArray),∀ x ∈ (Dec.decT f t).1,bp x=true:=by
 intro f;induction f with
 | zero=>intro t x a;simp[Dec.decT]at a
 | succ f ih =>
  intro t x a;simp only[Dec.decT]at a;split at a
  .rename_i h0
   simp only[List.mem_cons]at a;rcases a with rfl|a
   .exact ad7 t h0
   .exact ih _ x a
  .simp at a
def ay1 (w:World) (sh:Bool) (es:List El) (v6 v7 bv iv:Value) (wr:World):Prop :=
 ∃ (k:Nat) (fs:List Int) (xs:List El) (b:Bool),k<=es.length/\iv=.int .i64 k/\bv=.bool b/\fw sh es k=(fs,xs,b)/\ab wr w.heap.size v6 fs/\ah wr w.heap.size v7 xs/\Below w.heap.size w wr
theorem Uo (w:World) (B g cap:Nat) (es:List El) (sh:Bool) (hz:es.length<=1048576) (hL:ah w B (.slice (some ⟨g,0,none⟩) es.length cap) es) :
  Calls prog 133 #[.slice (some ⟨g,0,none⟩) es.length cap,.bool sh] w fun e w'=>∃ v v',e=.returned (.tuple #[v,v'])/\ab w' w.heap.size v (dc sh es)/\ah w' w.heap.size v' (ck sh es)/\Below w.heap.size w w':=by
 obtain⟨i0,hi0,a5,W,Y⟩:=info_parts dv;obtain⟨i1,hi1,a6,X,Z⟩:=info_parts ye;go_enter func133,ntmps133;go_wp2;go_loopw [6,7,8,14] (fun v6 v7 bv iv wr=>ay1 w sh es v6 v7 bv iv wr) (fun _ _ _ iv _=>es.length-(intOf iv).toNat)
 case atStart=>exact⟨0,[],[],false,Nat.zero_le _,rfl,rfl,rfl,World.ownsRow_nil _ _ _ _,World.ownsRow_nil _ _ _ _,bX⟩
 case round =>
  obtain⟨k,H,xs,b,hk,rfl,rfl,hf,l,q,a⟩:=hrel;have a7:=Cb sh es k;rw[hf]at a7;have a9:H.length<=k:=a7.1;have aa:xs.length<=k:=a7.2;have HF:=hZ hf;clear hf a7;by_cases S:k<es.length
  .obtain⟨e,he⟩:∃ e,es[k]? = some e:=⟨_,List.getElem?_eq_getElem S⟩
   have r:=Al he HF.out;obtain⟨T,U,V,R⟩:=(hL.below a).cells k e he;have ag:(k:Int)<(es.length:Int):=by omega
   have ai:=a.size;unfold ab at l;unfold ah at q;clear he HF hL
   cases sh
   .rw[Em]at r
    have G:Hid _:=r;clear r;have z:(wr.alloc (.cells #[.int .i64 e.first,.int .i64 e.second,.int .i64 e.third,.bool e.varies] 111)).heap[wr.heap.size]? = some (.cells #[.int .i64 e.first,.int .i64 e.second,.int .i64 e.third,.bool e.varies] 111):=heap_alloc_new wr _;have s:Hid _:=z;clear z;go_wp2_with (at_builtin;refine wpList_append_own _ rfl _ _ 39 rfl w.heap.size 3 i0 (.int .i64 0) 1 8 underlying39 hi0 a5 W Y rfl (by decide) _ _ _ rfl ((l.alloc _).alloc _) ⟨wr.heap.size+1,0,none⟩ 1 1 [.int .i64 65535] rfl rfl (ic _ _ _ _ (by simp)) (fun u i=>by simp at i;subst i;rfl) (by unfold maxLen;omega) (by omega) (by simp;omega) ?_)
    intro F w2 D m _;have x:ab w2 w.heap.size F (H++[65535]):=ab.snoc D;have f:ah w2 w.heap.size u7 xs:=World.ownsRow.kept ((q.alloc _).alloc _) m (dg q l (by decide));have C:=fun j hj=>(World.ownsRow.lt l j hj).2
    have h:w2.heap[wr.heap.size]? = some (.cells #[.int .i64 e.first,.int .i64 e.second,.int .i64 e.third,.bool e.varies] 111):=by
     rw[m.block wr.heap.size (by simp;omega) (fun c=>by have:=C wr.heap.size c.symm;omega),Below.heap_alloc _ _ _ (by simp)];exact s.out
    have o:Below w.heap.size w w2:=Below.grown ((a.alloc a.size _).alloc (a.alloc a.size _).size _) m ((a.alloc a.size _).alloc (a.alloc a.size _).size _).size (fun j hj=>(World.ownsRow.lt l j hj).1);have M:=cell_of_row _ _ 0 _ _ _ h;have N:=cell_of_row _ _ 1 _ _ _ h;have O:=cell_of_row _ _ 2 _ _ _ h;have P:=cell_of_row _ _ 3 _ _ _ h;have a4:=o.size;have n:Hid (ab _ _ _ _):=x;have d:Hid _:=o;clear D m h s C l q x o T U V R;unfold ah at f;go_wp2_with (at_builtin;refine wpList_append_own _ rfl _ _ 166 rfl w.heap.size 111 i1 _ 4 32 underlying166 hi1 a6 X Z rfl (by decide) _ _ _ rfl (f.alloc _) ⟨w2.heap.size,0,none⟩ 1 1 (elC e) rfl rfl (mh _ _ e _ (by simp)) ?hone (by unfold maxLen;omega) (by omega) (by simp;omega) ?_)
    case hone =>
     intro u i;simp[elC]at i
     rcases i with rfl|rfl|rfl|rfl <;> rfl
    intro L w3 E p _;have t:ah w3 w.heap.size L (xs++[e]):=ah.snoc E;have y:ab w3 w.heap.size F (H++[65535]):=World.ownsRow.kept (World.ownsRow.alloc n.out _) p (dg n.out f (by decide));have A:Below w.heap.size w w3:=Below.grown (d.out.alloc d.out.size _) p (d.out.alloc d.out.size _).size (fun j hj=>(World.ownsRow.lt f j hj).1);have J:Hid (ah _ _ _ _):=t;have K:Hid (ab _ _ _ _):=y;have I:Hid _:=A;clear E p t y A n d M N O P f;go_wp2;exact⟨⟨k+1,_,_,b,S,by go_num,rfl,G.out,K.out,J.out,I.out⟩,by simp[intOf];omega⟩
   .cases hv:e.varies
    .rw[hv]at R
     by_cases h0:e.first=0
     .rw[h0]at T
      cases b
      .by_cases h1:e.second=0
       .rw[h1]at U
        by_cases h2:e.third=0
        .rw[h2]at V
         rw[Um hv h0 h1 h2]at r;have G:Hid _:=r;clear r;have Q:e=⟨0,0,0,false⟩:=by cases e;simp_all
         rw[Q]at G;have z:(wr.alloc (.cells #[.int .i64 0,.int .i64 0,.int .i64 0,.bool false] 111)).heap[wr.heap.size]? = some (.cells #[.int .i64 0,.int .i64 0,.int .i64 0,.bool false] 111):=heap_alloc_new wr _;have s:Hid _:=z;clear z;go_wp2_with (at_builtin;refine wpList_append_own _ rfl _ _ 39 rfl w.heap.size 3 i0 (.int .i64 0) 1 8 underlying39 hi0 a5 W Y rfl (by decide) _ _ _ rfl ((l.alloc _).alloc _) ⟨wr.heap.size+1,0,none⟩ 1 1 [.int .i64 0] rfl rfl (ic _ _ _ _ (by simp)) (fun u i=>by simp at i;subst i;rfl) (by unfold maxLen;omega) (by omega) (by simp;omega) ?_)
         intro F w2 D m _;have x:ab w2 w.heap.size F (H++[0]):=ab.snoc D;have f:ah w2 w.heap.size u7 xs:=World.ownsRow.kept ((q.alloc _).alloc _) m (dg q l (by decide));have C:=fun j hj=>(World.ownsRow.lt l j hj).2
         have h:w2.heap[wr.heap.size]? = some (.cells #[.int .i64 0,.int .i64 0,.int .i64 0,.bool false] 111):=by
          rw[m.block wr.heap.size (by simp;omega) (fun c=>by have:=C wr.heap.size c.symm;omega),Below.heap_alloc _ _ _ (by simp)];exact s.out
         have o:Below w.heap.size w w2:=Below.grown ((a.alloc a.size _).alloc (a.alloc a.size _).size _) m ((a.alloc a.size _).alloc (a.alloc a.size _).size _).size (fun j hj=>(World.ownsRow.lt l j hj).1);have M:=cell_of_row _ _ 0 _ _ _ h;have N:=cell_of_row _ _ 1 _ _ _ h;have O:=cell_of_row _ _ 2 _ _ _ h;have P:=cell_of_row _ _ 3 _ _ _ h;have a4:=o.size;have n:Hid (ab _ _ _ _):=x;have d:Hid _:=o;clear D m h s C l q x o T U V R;unfold ah at f;go_wp2_with (at_builtin;refine wpList_append_own _ rfl _ _ 166 rfl w.heap.size 111 i1 _ 4 32 underlying166 hi1 a6 X Z rfl (by decide) _ _ _ rfl (f.alloc _) ⟨w2.heap.size,0,none⟩ 1 1 (elC (⟨0,0,0,false⟩:El)) rfl rfl (mh _ _ (⟨0,0,0,false⟩:El) _ (by simp)) ?hone (by unfold maxLen;omega) (by omega) (by simp;omega) ?_)
         case hone =>
          intro u i;simp[elC]at i
          rcases i with rfl|rfl|rfl|rfl <;> rfl
         intro L w3 E p _;have t:ah w3 w.heap.size L (xs++[(⟨0,0,0,false⟩:El)]):=ah.snoc E;have y:ab w3 w.heap.size F (H++[0]):=World.ownsRow.kept (World.ownsRow.alloc n.out _) p (dg n.out f (by decide));have A:Below w.heap.size w w3:=Below.grown (d.out.alloc d.out.size _) p (d.out.alloc d.out.size _).size (fun j hj=>(World.ownsRow.lt f j hj).1);have J:Hid (ah _ _ _ _):=t;have K:Hid (ab _ _ _ _):=y;have I:Hid _:=A;clear E p t y A n d M N O P f;go_wp2;exact⟨⟨k+1,_,_,false,S,by go_num,rfl,G.out,K.out,J.out,I.out⟩,by simp[intOf];omega⟩
        .rw[He hv h0 (fun c=>h2 c.2)]at r
         have G:Hid _:=r;have af:(e.third == 0)=false:=by simpa using h2
         clear r;have Q:e=⟨0,0,e.third,false⟩:=by cases e;simp_all
         rw[Q]at G;clear Q;have z:(wr.alloc (.cells #[.int .i64 0,.int .i64 0,.int .i64 e.third,.bool false] 111)).heap[wr.heap.size]? = some (.cells #[.int .i64 0,.int .i64 0,.int .i64 e.third,.bool false] 111):=heap_alloc_new wr _;have s:Hid _:=z;clear z;go_wp2_with (at_builtin;refine wpList_append_own _ rfl _ _ 39 rfl w.heap.size 3 i0 (.int .i64 0) 1 8 underlying39 hi0 a5 W Y rfl (by decide) _ _ _ rfl ((l.alloc _).alloc _) ⟨wr.heap.size+1,0,none⟩ 1 1 [.int .i64 65535] rfl rfl (ic _ _ _ _ (by simp)) (fun u i=>by simp at i;subst i;rfl) (by unfold maxLen;omega) (by omega) (by simp;omega) ?_)
         intro F w2 D m _;have x:ab w2 w.heap.size F (H++[65535]):=ab.snoc D;have f:ah w2 w.heap.size u7 xs:=World.ownsRow.kept ((q.alloc _).alloc _) m (dg q l (by decide));have C:=fun j hj=>(World.ownsRow.lt l j hj).2
         have h:w2.heap[wr.heap.size]? = some (.cells #[.int .i64 0,.int .i64 0,.int .i64 e.third,.bool false] 111):=by
          rw[m.block wr.heap.size (by simp;omega) (fun c=>by have:=C wr.heap.size c.symm;omega),Below.heap_alloc _ _ _ (by simp)];exact s.out
         have o:Below w.heap.size w w2:=Below.grown ((a.alloc a.size _).alloc (a.alloc a.size _).size _) m ((a.alloc a.size _).alloc (a.alloc a.size _).size _).size (fun j hj=>(World.ownsRow.lt l j hj).1);have M:=cell_of_row _ _ 0 _ _ _ h;have N:=cell_of_row _ _ 1 _ _ _ h;have O:=cell_of_row _ _ 2 _ _ _ h;have P:=cell_of_row _ _ 3 _ _ _ h;have a4:=o.size;have n:Hid (ab _ _ _ _):=x;have d:Hid _:=o;clear D m h s C l q x o T U V R;unfold ah at f;go_wp2_with (at_builtin;refine wpList_append_own _ rfl _ _ 166 rfl w.heap.size 111 i1 _ 4 32 underlying166 hi1 a6 X Z rfl (by decide) _ _ _ rfl (f.alloc _) ⟨w2.heap.size,0,none⟩ 1 1 (elC (⟨0,0,e.third,false⟩:El)) rfl rfl (mh _ _ (⟨0,0,e.third,false⟩:El) _ (by simp)) ?hone (by unfold maxLen;omega) (by omega) (by simp;omega) ?_)
         case hone =>
          intro u i;simp[elC]at i
          rcases i with rfl|rfl|rfl|rfl <;> rfl
         intro L w3 E p _;have t:ah w3 w.heap.size L (xs++[(⟨0,0,e.third,false⟩:El)]):=ah.snoc E;have y:ab w3 w.heap.size F (H++[65535]):=World.ownsRow.kept (World.ownsRow.alloc n.out _) p (dg n.out f (by decide));have A:Below w.heap.size w w3:=Below.grown (d.out.alloc d.out.size _) p (d.out.alloc d.out.size _).size (fun j hj=>(World.ownsRow.lt f j hj).1);have J:Hid (ah _ _ _ _):=t;have K:Hid (ab _ _ _ _):=y;have I:Hid _:=A;clear E p t y A n d M N O P f;go_wp2;exact⟨⟨k+1,_,_,false,S,by go_num,rfl,G.out,K.out,J.out,I.out⟩,by simp[intOf];omega⟩
       .rw[He hv h0 (fun c=>h1 c.1)]at r
        have G:Hid _:=r;have ae:(e.second == 0)=false:=by simpa using h1
        clear r;have Q:e=⟨0,e.second,e.third,false⟩:=by cases e;simp_all
        rw[Q]at G;clear Q;have z:(wr.alloc (.cells #[.int .i64 0,.int .i64 e.second,.int .i64 e.third,.bool false] 111)).heap[wr.heap.size]? = some (.cells #[.int .i64 0,.int .i64 e.second,.int .i64 e.third,.bool false] 111):=heap_alloc_new wr _;have s:Hid _:=z;clear z;go_wp2_with (at_builtin;refine wpList_append_own _ rfl _ _ 39 rfl w.heap.size 3 i0 (.int .i64 0) 1 8 underlying39 hi0 a5 W Y rfl (by decide) _ _ _ rfl ((l.alloc _).alloc _) ⟨wr.heap.size+1,0,none⟩ 1 1 [.int .i64 65535] rfl rfl (ic _ _ _ _ (by simp)) (fun u i=>by simp at i;subst i;rfl) (by unfold maxLen;omega) (by omega) (by simp;omega) ?_)
        intro F w2 D m _;have x:ab w2 w.heap.size F (H++[65535]):=ab.snoc D;have f:ah w2 w.heap.size u7 xs:=World.ownsRow.kept ((q.alloc _).alloc _) m (dg q l (by decide));have C:=fun j hj=>(World.ownsRow.lt l j hj).2
        have h:w2.heap[wr.heap.size]? = some (.cells #[.int .i64 0,.int .i64 e.second,.int .i64 e.third,.bool false] 111):=by
         rw[m.block wr.heap.size (by simp;omega) (fun c=>by have:=C wr.heap.size c.symm;omega),Below.heap_alloc _ _ _ (by simp)];exact s.out
        have o:Below w.heap.size w w2:=Below.grown ((a.alloc a.size _).alloc (a.alloc a.size _).size _) m ((a.alloc a.size _).alloc (a.alloc a.size _).size _).size (fun j hj=>(World.ownsRow.lt l j hj).1);have M:=cell_of_row _ _ 0 _ _ _ h;have N:=cell_of_row _ _ 1 _ _ _ h;have O:=cell_of_row _ _ 2 _ _ _ h;have P:=cell_of_row _ _ 3 _ _ _ h;have a4:=o.size;have n:Hid (ab _ _ _ _):=x;have d:Hid _:=o;clear D m h s C l q x o T U V R;unfold ah at f;go_wp2_with (at_builtin;refine wpList_append_own _ rfl _ _ 166 rfl w.heap.size 111 i1 _ 4 32 underlying166 hi1 a6 X Z rfl (by decide) _ _ _ rfl (f.alloc _) ⟨w2.heap.size,0,none⟩ 1 1 (elC (⟨0,e.second,e.third,false⟩:El)) rfl rfl (mh _ _ (⟨0,e.second,e.third,false⟩:El) _ (by simp)) ?hone (by unfold maxLen;omega) (by omega) (by simp;omega) ?_)
        case hone =>
         intro u i;simp[elC]at i
         rcases i with rfl|rfl|rfl|rfl <;> rfl
        intro L w3 E p _;have t:ah w3 w.heap.size L (xs++[(⟨0,e.second,e.third,false⟩:El)]):=ah.snoc E;have y:ab w3 w.heap.size F (H++[65535]):=World.ownsRow.kept (World.ownsRow.alloc n.out _) p (dg n.out f (by decide));have A:Below w.heap.size w w3:=Below.grown (d.out.alloc d.out.size _) p (d.out.alloc d.out.size _).size (fun j hj=>(World.ownsRow.lt f j hj).1);have J:Hid (ah _ _ _ _):=t;have K:Hid (ab _ _ _ _):=y;have I:Hid _:=A;clear E p t y A n d M N O P f;go_wp2;exact⟨⟨k+1,_,_,false,S,by go_num,rfl,G.out,K.out,J.out,I.out⟩,by simp[intOf];omega⟩
      .rw[Ul hv h0]at r
       have G:Hid _:=r;clear r;have z:(wr.alloc (.cells #[.int .i64 0,.int .i64 0,.int .i64 0,.bool false] 111)).heap[wr.heap.size]? = some (.cells #[.int .i64 0,.int .i64 0,.int .i64 0,.bool false] 111):=heap_alloc_new wr _;have s:Hid _:=z;clear z;go_wp2_with (at_builtin;refine wpList_append_own _ rfl _ _ 39 rfl w.heap.size 3 i0 (.int .i64 0) 1 8 underlying39 hi0 a5 W Y rfl (by decide) _ _ _ rfl ((l.alloc _).alloc _) ⟨wr.heap.size+1,0,none⟩ 1 1 [.int .i64 0] rfl rfl (ic _ _ _ _ (by simp)) (fun u i=>by simp at i;subst i;rfl) (by unfold maxLen;omega) (by omega) (by simp;omega) ?_)
       intro F w2 D m _;have x:ab w2 w.heap.size F (H++[0]):=ab.snoc D;have f:ah w2 w.heap.size u7 xs:=World.ownsRow.kept ((q.alloc _).alloc _) m (dg q l (by decide));have C:=fun j hj=>(World.ownsRow.lt l j hj).2
       have h:w2.heap[wr.heap.size]? = some (.cells #[.int .i64 0,.int .i64 0,.int .i64 0,.bool false] 111):=by
        rw[m.block wr.heap.size (by simp;omega) (fun c=>by have:=C wr.heap.size c.symm;omega),Below.heap_alloc _ _ _ (by simp)];exact s.out
       have o:Below w.heap.size w w2:=Below.grown ((a.alloc a.size _).alloc (a.alloc a.size _).size _) m ((a.alloc a.size _).alloc (a.alloc a.size _).size _).size (fun j hj=>(World.ownsRow.lt l j hj).1);have M:=cell_of_row _ _ 0 _ _ _ h;have N:=cell_of_row _ _ 1 _ _ _ h;have O:=cell_of_row _ _ 2 _ _ _ h;have P:=cell_of_row _ _ 3 _ _ _ h;have a4:=o.size;have n:Hid (ab _ _ _ _):=x;have d:Hid _:=o;clear D m h s C l q x o T U V R;unfold ah at f;go_wp2_with (at_builtin;refine wpList_append_own _ rfl _ _ 166 rfl w.heap.size 111 i1 _ 4 32 underlying166 hi1 a6 X Z rfl (by decide) _ _ _ rfl (f.alloc _) ⟨w2.heap.size,0,none⟩ 1 1 (elC elZ) rfl rfl (mh _ _ elZ _ (by simp)) ?hone (by unfold maxLen;omega) (by omega) (by simp;omega) ?_)
       case hone =>
        intro u i;simp[elC]at i
        rcases i with rfl|rfl|rfl|rfl <;> rfl
       intro L w3 E p _;have t:ah w3 w.heap.size L (xs++[elZ]):=ah.snoc E;have y:ab w3 w.heap.size F (H++[0]):=World.ownsRow.kept (World.ownsRow.alloc n.out _) p (dg n.out f (by decide));have A:Below w.heap.size w w3:=Below.grown (d.out.alloc d.out.size _) p (d.out.alloc d.out.size _).size (fun j hj=>(World.ownsRow.lt f j hj).1);have J:Hid (ah _ _ _ _):=t;have K:Hid (ab _ _ _ _):=y;have I:Hid _:=A;clear E p t y A n d M N O P f;go_wp2;exact⟨⟨k+1,_,_,true,S,by go_num,rfl,G.out,K.out,J.out,I.out⟩,by simp[intOf];omega⟩
     .rw[Qp hv h0]at r
      have G:Hid _:=r;have ad:(e.first == 0)=false:=by simpa using h0
      clear r;have Q:e=⟨e.first,e.second,e.third,false⟩:=by cases e;simp_all
      rw[Q]at G;clear Q;have z:(wr.alloc (.cells #[.int .i64 e.first,.int .i64 e.second,.int .i64 e.third,.bool false] 111)).heap[wr.heap.size]? = some (.cells #[.int .i64 e.first,.int .i64 e.second,.int .i64 e.third,.bool false] 111):=heap_alloc_new wr _;have s:Hid _:=z;clear z;go_wp2_with (at_builtin;refine wpList_append_own _ rfl _ _ 39 rfl w.heap.size 3 i0 (.int .i64 0) 1 8 underlying39 hi0 a5 W Y rfl (by decide) _ _ _ rfl ((l.alloc _).alloc _) ⟨wr.heap.size+1,0,none⟩ 1 1 [.int .i64 65535] rfl rfl (ic _ _ _ _ (by simp)) (fun u i=>by simp at i;subst i;rfl) (by unfold maxLen;omega) (by omega) (by simp;omega) ?_)
      intro F w2 D m _;have x:ab w2 w.heap.size F (H++[65535]):=ab.snoc D;have f:ah w2 w.heap.size u7 xs:=World.ownsRow.kept ((q.alloc _).alloc _) m (dg q l (by decide));have C:=fun j hj=>(World.ownsRow.lt l j hj).2
      have h:w2.heap[wr.heap.size]? = some (.cells #[.int .i64 e.first,.int .i64 e.second,.int .i64 e.third,.bool false] 111):=by
       rw[m.block wr.heap.size (by simp;omega) (fun c=>by have:=C wr.heap.size c.symm;omega),Below.heap_alloc _ _ _ (by simp)];exact s.out
      have o:Below w.heap.size w w2:=Below.grown ((a.alloc a.size _).alloc (a.alloc a.size _).size _) m ((a.alloc a.size _).alloc (a.alloc a.size _).size _).size (fun j hj=>(World.ownsRow.lt l j hj).1);have M:=cell_of_row _ _ 0 _ _ _ h;have N:=cell_of_row _ _ 1 _ _ _ h;have O:=cell_of_row _ _ 2 _ _ _ h;have P:=cell_of_row _ _ 3 _ _ _ h;have a4:=o.size;have n:Hid (ab _ _ _ _):=x;have d:Hid _:=o;clear D m h s C l q x o T U V R;unfold ah at f
      go_wp2_with (at_builtin;refine wpList_append_own _ rfl _ _ 166 rfl w.heap.size 111 i1 _ 4 32 underlying166 hi1 a6 X Z rfl (by decide) _ _ _ rfl (f.alloc _) ⟨w2.heap.size,0,none⟩ 1 1 (elC (⟨e.first,e.second,e.third,false⟩:El)) rfl rfl (mh _ _ (⟨e.first,e.second,e.third,false⟩:El) _ (by simp)) ?hone (by unfold maxLen;omega) (by omega) (by simp;omega) ?_)
      case hone =>
       intro u i;simp[elC]at i
       rcases i with rfl|rfl|rfl|rfl <;> rfl
      intro L w3 E p _;have t:ah w3 w.heap.size L (xs++[(⟨e.first,e.second,e.third,false⟩:El)]):=ah.snoc E;have y:ab w3 w.heap.size F (H++[65535]):=World.ownsRow.kept (World.ownsRow.alloc n.out _) p (dg n.out f (by decide));have A:Below w.heap.size w w3:=Below.grown (d.out.alloc d.out.size _) p (d.out.alloc d.out.size _).size (fun j hj=>(World.ownsRow.lt f j hj).1);have J:Hid (ah _ _ _ _):=t;have K:Hid (ab _ _ _ _):=y;have I:Hid _:=A;clear E p t y A n d M N O P f;go_wp2;exact⟨⟨k+1,_,_,false,S,by go_num,rfl,G.out,K.out,J.out,I.out⟩,by simp[intOf];omega⟩
    .rw[hv]at R
     rw[Z5 hv]at r;have G:Hid _:=r;clear r;have z:(wr.alloc (.cells #[.int .i64 0,.int .i64 0,.int .i64 0,.bool false] 111)).heap[wr.heap.size]? = some (.cells #[.int .i64 0,.int .i64 0,.int .i64 0,.bool false] 111):=heap_alloc_new wr _;have s:Hid _:=z;clear z;go_wp2_with (at_builtin;refine wpList_append_own _ rfl _ _ 39 rfl w.heap.size 3 i0 (.int .i64 0) 1 8 underlying39 hi0 a5 W Y rfl (by decide) _ _ _ rfl ((l.alloc _).alloc _) ⟨wr.heap.size+1,0,none⟩ 1 1 [.int .i64 e.first] rfl rfl (ic _ _ _ _ (by simp)) (fun u i=>by simp at i;subst i;rfl) (by unfold maxLen;omega) (by omega) (by simp;omega) ?_)
     intro F w2 D m _;have x:ab w2 w.heap.size F (H++[e.first]):=ab.snoc D;have f:ah w2 w.heap.size u7 xs:=World.ownsRow.kept ((q.alloc _).alloc _) m (dg q l (by decide));have C:=fun j hj=>(World.ownsRow.lt l j hj).2
     have h:w2.heap[wr.heap.size]? = some (.cells #[.int .i64 0,.int .i64 0,.int .i64 0,.bool false] 111):=by
      rw[m.block wr.heap.size (by simp;omega) (fun c=>by have:=C wr.heap.size c.symm;omega),Below.heap_alloc _ _ _ (by simp)];exact s.out
     have o:Below w.heap.size w w2:=Below.grown ((a.alloc a.size _).alloc (a.alloc a.size _).size _) m ((a.alloc a.size _).alloc (a.alloc a.size _).size _).size (fun j hj=>(World.ownsRow.lt l j hj).1);have M:=cell_of_row _ _ 0 _ _ _ h;have N:=cell_of_row _ _ 1 _ _ _ h;have O:=cell_of_row _ _ 2 _ _ _ h;have P:=cell_of_row _ _ 3 _ _ _ h;have a4:=o.size;have n:Hid (ab _ _ _ _):=x;have d:Hid _:=o;clear D m h s C l q x o T U V R;unfold ah at f;go_wp2_with (at_builtin;refine wpList_append_own _ rfl _ _ 166 rfl w.heap.size 111 i1 _ 4 32 underlying166 hi1 a6 X Z rfl (by decide) _ _ _ rfl (f.alloc _) ⟨w2.heap.size,0,none⟩ 1 1 (elC elZ) rfl rfl (mh _ _ elZ _ (by simp)) ?hone (by unfold maxLen;omega) (by omega) (by simp;omega) ?_)
     case hone =>
      intro u i;simp[elC]at i
      rcases i with rfl|rfl|rfl|rfl <;> rfl
     intro L w3 E p _;have t:ah w3 w.heap.size L (xs++[elZ]):=ah.snoc E;have y:ab w3 w.heap.size F (H++[e.first]):=World.ownsRow.kept (World.ownsRow.alloc n.out _) p (dg n.out f (by decide));have A:Below w.heap.size w w3:=Below.grown (d.out.alloc d.out.size _) p (d.out.alloc d.out.size _).size (fun j hj=>(World.ownsRow.lt f j hj).1);have J:Hid (ah _ _ _ _):=t;have K:Hid (ab _ _ _ _):=y;have I:Hid _:=A;clear E p t y A n d M N O P f;go_wp2;exact⟨⟨k+1,_,_,true,S,by go_num,rfl,G.out,K.out,J.out,I.out⟩,by simp[intOf];omega⟩
  .have ac:k=es.length:=by omega
   subst ac;have a8:Hid (dc sh es=H/\ck sh es=xs):=by
    show _/\_
    unfold dc ck;rw[HF.out];exact⟨rfl,rfl⟩
   clear HF hL;go_wp2;go_ret2;rw[a8.out.1,a8.out.2];exact⟨_,_,rfl,l,q,a⟩
theorem Qr (w:World) (a:Option Addr) (c:Nat) (sh:Bool) :
  Calls prog 133 #[.slice a 0 c,.bool sh] w fun e w'=>∃ v v',e=.returned (.tuple #[v,v'])/\ab w' w.heap.size v []/\ah w' w.heap.size v' []/\Below w.heap.size w w':=by
 go_enter func133,ntmps133;go_wp2;go_loop [6,7,8,14] (fun v6 v7 bv iv=>v6=.slice none 0 0/\v7=.slice none 0 0/\bv=.bool false/\iv=.int .i64 0) (fun _ _ _ _=>0)
 case atStart=>exact⟨rfl,rfl,rfl,rfl⟩
 case round =>
  obtain⟨rfl,rfl,rfl,rfl⟩:=hrel;go_wp2;go_ret2;exact⟨_,_,rfl,World.ownsRow_nil _ _ _ _,World.ownsRow_nil _ _ _ _,bX⟩
theorem Un {w:World} {B:Nat} {v:Value} {es:List El}(sh:Bool) (c:es.length<=1048576) (a:ah w B v es) :
  Calls prog 133 #[v,.bool sh] w fun e w'=>∃ v v',e=.returned (.tuple #[v,v'])/\ab w' w.heap.size v (dc sh es)/\ah w' w.heap.size v' (ck sh es)/\Below w.heap.size w w':=by
 rcases a.form with ⟨rfl,rfl⟩|⟨g,b,rfl,_,_⟩
 .exact Qr w _ _ sh
 .exact Uo w B g b es sh c a
theorem ai2:∀ t ∈ tab,(kw (at0 t 0)).length<=3/\(at0 t 0<2048->(kw (at0 t 0)).length<=2)/\128<=at0 t 0:=by decide +kernel
theorem ac0 {r:Int}(h:apart r=[r]):kw r=[r]:=og h
theorem al0 (r:Int):(kw r).length<=3/\(r<2048->(kw r).length<=2)/\(r<128\/r=65533->(kw r).length<=1):=by
 by_cases f:r=8491
 .subst f
  exact⟨by decide +kernel,fun h=>by omega,fun h=>by omega⟩
 by_cases c:44032<=r/\r<=55203
 .refine⟨?_,fun h=>by omega,fun h=>by omega⟩
  have d:=Db c.1 c.2;have k:=Da c.1 c.2;have g:apart r≠[r]:=fun e=>by
   have:=d r (by rw[e];simp);omega
  have e:kw r=apart r:=by
   show full 2 r=_
   rw[wi g];have b:∀ x ∈ apart r,full 1 x=[x]:=fun x hx=>og (Ke (d x hx).1 (d x hx).2)
   generalize apart r=l at b;induction l with
   | nil=>rfl
   | cons a l ih =>
    rw[List.flatMap_cons,b a (by simp),ih (fun x hx=>b x (by simp[hx]))];rfl
  rw[e];exact (tm r).2
 .cases hf:tab.find? (fun t=>at0 t 0 == r) with
  | none =>
   have i:apart r=[r]:=by unfold apart;rw[if_neg f,if_neg c,hf]
   rw[ac0 i];simp
  | some t =>
   have j:at0 t 0=r:=by
    have:=List.find?_some hf;simpa using this
   have b:=ai2 t (List.mem_of_find?_eq_some hf);rw[j]at b;refine⟨b.1,b.2.1,fun h=>?_⟩;rcases h with h|h
   .omega
   .subst h
    exfalso
    have:tab.find? (fun t=>at0 t 0 == 65533)=none:=by decide +kernel
    rw[this]at hf
    cases hf
theorem zt (t:ByteArray) (m f k a hi r:Nat):Dec.goes t m (f+1) k a hi r=if k<t.size/\a<=Dec.bt t k/\Dec.bt t k<=hi then Dec.goes t m f (k+1) 128 191 (r*64+Dec.bt t k % 64) else (65533,k,false):=rfl
theorem av6 (t:ByteArray):((Dec.one t).2.1=1->(Dec.one t).1<128\/(Dec.one t).1=65533)/\((Dec.one t).2.1=2->(Dec.one t).1<2048\/(Dec.one t).1=65533):=by
 unfold Dec.one;split
 .exact⟨fun _=>.inr rfl,fun h=>by cases h⟩
 .rename_i hm
  have f:Dec.bt t 0<256:=Dec.bt_lt t 0;rcases Dec.more_cases (Dec.bt t 0) with h|h|h|h|h
  .omega
  .rw[h]
   have:Dec.bt t 0<128:=by
    unfold Dec.more at h;split at h
    .assumption
    .exfalso;revert h;repeat' split
     all_goals omega
   refine⟨fun _=>.inl ?_,fun h=>by cases h⟩;show ((Dec.bt t 0:Nat):Int)<128
   omega
  .rw[h,show (1:Int).toNat=1 from rfl,zt]
   by_cases a:1<t.size/\Dec.lo1 (Dec.bt t 0)<=Dec.bt t 1/\Dec.bt t 1<=Dec.hi1 (Dec.bt t 0)
   .rw[if_pos a]
    refine⟨fun h=>absurd (show (2:Nat)=1 from h) (by decide),fun _=>.inl ?_⟩;have d:Dec.bt t 0 % 32<32:=Nat.mod_lt _ (by omega);have e:Dec.bt t 1 % 64<64:=Nat.mod_lt _ (by omega);show (((Dec.bt t 0 % 32)*64+Dec.bt t 1 % 64:Nat):Int)<2048
    omega
   .rw[if_neg a]
    exact⟨fun _=>.inr rfl,fun h=>by cases h⟩
  .rw[h,show (2:Int).toNat=2 from rfl,zt]
   by_cases a:1<t.size/\Dec.lo1 (Dec.bt t 0)<=Dec.bt t 1/\Dec.bt t 1<=Dec.hi1 (Dec.bt t 0)
   .rw[if_pos a,zt]
    by_cases b:1+1<t.size/\128<=Dec.bt t (1+1)/\Dec.bt t (1+1)<=191
    .rw[if_pos b]
     exact⟨fun h=>absurd (show (3:Nat)=1 from h) (by decide),fun h=>absurd (show (3:Nat)=2 from h) (by decide)⟩
    .rw[if_neg b]
     exact⟨fun h=>absurd (show (2:Nat)=1 from h) (by decide),fun _=>.inr rfl⟩
   .rw[if_neg a]
    exact⟨fun _=>.inr rfl,fun h=>by cases h⟩
  .rw[h,show (3:Int).toNat=3 from rfl,zt]
   by_cases a:1<t.size/\Dec.lo1 (Dec.bt t 0)<=Dec.bt t 1/\Dec.bt t 1<=Dec.hi1 (Dec.bt t 0)
   .rw[if_pos a,zt]
    by_cases b:1+1<t.size/\128<=Dec.bt t (1+1)/\Dec.bt t (1+1)<=191
    .rw[if_pos b,zt]
     by_cases c:1+1+1<t.size/\128<=Dec.bt t (1+1+1)/\Dec.bt t (1+1+1)<=191
     .rw[if_pos c]
      exact⟨fun h=>absurd (show (4:Nat)=1 from h) (by decide),fun h=>absurd (show (4:Nat)=2 from h) (by decide)⟩
     .rw[if_neg c]
      exact⟨fun h=>absurd (show (3:Nat)=1 from h) (by decide),fun h=>absurd (show (3:Nat)=2 from h) (by decide)⟩
    .rw[if_neg b]
     exact⟨fun h=>absurd (show (2:Nat)=1 from h) (by decide),fun _=>.inr rfl⟩
   .rw[if_neg a]
    exact⟨fun _=>.inr rfl,fun h=>by cases h⟩
theorem ap4 (t:ByteArray) (h:0<t.size):(kw (Dec.one t).1).length<=(Dec.one t).2.1:=by
 have e:=(Dec.one_le t h).1;have b:=av6 t;have a:=al0 (Dec.one t).1;by_cases c:(Dec.one t).2.1=1
 .have:=a.2.2 (b.1 c)
  omega
 .by_cases d:(Dec.one t).2.1=2
  .rcases b.2 d with h|h
   .have:=a.2.1 h
    omega
   .have:=a.2.2 (.inr h)
    omega
  .have:=a.1
   omega
theorem Sp:∀ (f:Nat) (t:ByteArray),(apD (Dec.decT f t).1).length<=t.size
 | 0,t=>by simp[Dec.decT,apD]
 | f+1,t=>by
  unfold Dec.decT;split
  .rename_i h
   have h1:=ap4 t h;have a:=Sp f (t.extract (Dec.one t).2.1 t.size);have b:=Dec.size_extract t (Dec.one t).2.1;have c:=(Dec.one_le t h).2;show (apD ((Dec.one t).1::_)).length<=_
   unfold apD;rw[List.flatMap_cons,List.length_append];unfold apD at a;omega
  .simp[apD]
theorem ag0 (s:ByteArray):(rn4 s).length<=s.size:=by
 unfold rn4;rw[zw];exact Sp _ _
theorem Km {s:ByteArray}(h:s.size<=200):ok4 s=true:=by
 have:=ag0 s;exact decide_eq_true ⟨h,by omega⟩
def shE (e:El) (b:Bool):Int × El:=if e.varies=true then (e.first,elZ) else if b=true\/(e.first=0/\e.second=0/\e.third=0) then (0,elZ) else (65535,e)
def sd (b:Bool) (e:El):Bool:=e.varies || (b && e.first == 0)
theorem Qq (b:Bool) (e:El):ja true b e=((shE e (sd b e)).1,(shE e (sd b e)).2,sd b e):=by
 obtain⟨x,y,z,v⟩:=e;unfold ja shE sd elZ
 cases v <;> cases b <;> by_cases a:x=0 <;> by_cases c:y=0 <;> by_cases d:z=0 <;> simp[a,c,d]
theorem Bz (w:World) (o a:Obj):Below w.heap.size w ((w.alloc o).alloc a):=((Below.refl w.heap.size w).alloc bR o).alloc (by simp) a
theorem zx {p:Int × El} {n:Int} {a b c:Int} {d:Bool}(h:p=(n,⟨a,b,c,d⟩)):Ending.returned (.tuple #[.int .i64 n,.agg #[.int .i64 a,.int .i64 b,.int .i64 c,.bool d]])=.returned (.tuple #[.int .i64 p.1,.agg #[.int .i64 p.2.first,.int .i64 p.2.second,.int .i64 p.2.third,.bool p.2.varies]]):=by rw[h]
theorem a42 (e:El) (b:Bool) (w:World) :
  Calls prog 155 #[.agg #[.int .i64 e.first,.int .i64 e.second,.int .i64 e.third,.bool e.varies],.bool b] w fun x w'=>x=.returned (.tuple #[.int .i64 (shE e b).1,.agg #[.int .i64 (shE e b).2.first,.int .i64 (shE e b).2.second,.int .i64 (shE e b).2.third,.bool (shE e b).2.varies]])/\Below w.heap.size w w':=by
 obtain⟨x,y,z,v⟩:=e;have d:=((Below.refl w.heap.size w).alloc bR (.cells #[.int .i64 x,.int .i64 y,.int .i64 z,.bool v] 111)).alloc (by simp) (.cells #[.int .i64 0,.int .i64 0,.int .i64 0,.bool false] 111)
 cases v
 .cases b
  .by_cases h:x=0/\y=0/\z=0
   .obtain⟨rfl,rfl,rfl⟩:=h
    have a:Hid (shE ⟨0,0,0,false⟩ false=(0,⟨0,0,0,false⟩)):=by show _=_;unfold shE elZ;simp
    go_enter func155,ntmps155;go_wp2;refine bodyPost_ret (v:=.tuple #[.int .i64 0,.agg #[.int .i64 0,.int .i64 0,.int .i64 0,.bool false]]) ?_ rfl ⟨zx a.out,d⟩;rw[jx rfl];go_simp
   .by_cases f:x=0
    .subst f
     by_cases g:y=0
     .subst g
      have i:¬ z=0:=fun c=>h ⟨rfl,rfl,c⟩
      have a:Hid (shE ⟨0,0,z,false⟩ false=(65535,⟨0,0,z,false⟩)):=by show _=_;unfold shE elZ;simp[i]
      go_enter func155,ntmps155;go_wp2;go_region
      all_goals
       go_wp2;refine bodyPost_ret (v:=.tuple #[.int .i64 65535,.agg #[.int .i64 0,.int .i64 0,.int .i64 z,.bool false]]) ?_ rfl ⟨zx a.out,(Bz w _ _).drew⟩;rw[jx rfl];go_simp
     .have a:Hid (shE ⟨0,y,z,false⟩ false=(65535,⟨0,y,z,false⟩)):=by show _=_;unfold shE elZ;simp[g]
      go_enter func155,ntmps155;go_wp2;go_region
      all_goals
       go_wp2;refine bodyPost_ret (v:=.tuple #[.int .i64 65535,.agg #[.int .i64 0,.int .i64 y,.int .i64 z,.bool false]]) ?_ rfl ⟨zx a.out,(Bz w _ _).drew⟩;rw[jx rfl];go_simp
    .have a:Hid (shE ⟨x,y,z,false⟩ false=(65535,⟨x,y,z,false⟩)):=by show _=_;unfold shE elZ;simp[f]
     go_enter func155,ntmps155;go_wp2;go_region
     all_goals
      go_wp2;refine bodyPost_ret (v:=.tuple #[.int .i64 65535,.agg #[.int .i64 x,.int .i64 y,.int .i64 z,.bool false]]) ?_ rfl ⟨zx a.out,(Bz w _ _).drew⟩;rw[jx rfl];go_simp
  .have a:Hid (shE ⟨x,y,z,false⟩ true=(0,⟨0,0,0,false⟩)):=by show _=_;unfold shE elZ;simp
   go_enter func155,ntmps155;go_wp2;refine bodyPost_ret (v:=.tuple #[.int .i64 0,.agg #[.int .i64 0,.int .i64 0,.int .i64 0,.bool false]]) ?_ rfl ⟨zx a.out,d⟩;rw[jx rfl];go_simp
 .have a:Hid (shE ⟨x,y,z,true⟩ b=(x,⟨0,0,0,false⟩)):=by show _=_;unfold shE elZ;simp
  go_enter func155,ntmps155;go_wp2;refine bodyPost_ret (v:=.tuple #[.int .i64 x,.agg #[.int .i64 0,.int .i64 0,.int .i64 0,.bool false]]) ?_ rfl ⟨zx a.out,d⟩;rw[jx rfl];go_simp
theorem Iv (s:ByteArray) (w:World) (c:s.size<=200) :
  Calls prog 175 #[.string s] w fun e w'=>∃ v,e=.returned (.tuple #[v,.bool true])/\ab w' w.heap.size v (Dec.decT s.size s).1/\Below w.heap.size w w':=by
 have D:=fun w=>Ol s w (by omega)
 go_enter func175,ntmps175;go_wp2_with (go_at_call 196;refine (D _).mono ?_;rintro e w' ⟨v,rfl,a,b⟩)
 go_ret2;exact⟨_,rfl,a,b⟩
theorem L6 (s:ByteArray) (w:World) (b:200<s.size) (a:s.size<=1048576) :
  Calls prog 175 #[.string s] w fun e w'=>e=.returned (.tuple #[.slice none 0 0,.bool false])/\w'=w:=by
 go_enter func175,ntmps175;go_wp2;go_ret2;exact⟨rfl,rfl⟩
end Go.Proofs.YtjbmgghehdemdaaGreatDoor
