/- IPlace6 -/
import Derived.Test.YtjbmgghehdemdaaGreatDoorMR17
namespace Go.Proofs.YtjbmgghehdemdaaGreatDoor
set_option maxRecDepth 100000
set_option maxHeartbeats 16000000
open _root_.Go.Proofs.Tryz
open Go.RowKit
def ax8 (w:World) (l:List Rw) (key:ByteArray) (vi vj:Value) (wr:World):Prop :=
 ∃ i j:Nat,i<=j/\j<=l.length/\vi=.int .i64 (i:Int)/\vj=.int .i64 (j:Int)/\bsF l key i j=az l key/\Below w.heap.size w wr
theorem Tw {w:World} {a:Option Addr} {c:Nat} {l:List Rw}(key:ByteArray) (J:dd w a l) (W:l.length<=1048576) :
  Calls prog 128 #[.slice a l.length c,.string key,.func (Fn.func 129) #[] #[]] w fun e w'=>e=.returned (.tuple #[.int .i64 (az l key:Int),.bool (d9 l key)])/\Below w.heap.size w w':=by
 have I:=hZ J;obtain⟨R,z⟩:∃ R,Hid (az l key=R):=⟨_,rfl⟩
 obtain⟨T,E⟩:∃ T,Hid (d9 l key=T):=⟨_,rfl⟩
 rw[z.out,E.out];clear J;go_enter func128,ntmps128;go_wp2_with fail;go_loopw [9,10] (fun vi vj wr=>ax8 w l key vi vj wr) (fun vi vj _=>(intOf vj).toNat-(intOf vi).toNat)
 case atStart=>exact⟨0,l.length,by omega,by omega,rfl,rfl,rfl,bX⟩
 case round =>
  obtain⟨i,j,q1,q2,rfl,rfl,A,q⟩:=hrel;have p:Hid _:=A;have d:=hZ q;by_cases D:i<j
  .have M:(i:Int)<(j:Int):=by omega
   obtain⟨m,u⟩:∃ m,Hid ((i+j) / 2=m):=⟨_,rfl⟩
   have P:=u.out;have Q:i<=m:=by omega
   have S:m<j:=by omega
   have U:(m:Int)<(l.length:Int):=by omega
   obtain⟨x,g⟩:∃ x,l[m]? = some x:=⟨_,List.getElem?_eq_getElem (by omega)⟩
   have n:dh l ((i+j) / 2)=x:=by rw[P];unfold dh;rw[g];rfl
   rcases I.out.below q bR with G|⟨b,o,rfl,v⟩
   .rw[G]at g;simp at g
   obtain⟨F,N,O⟩:=v m x g;have K:=ag F;have h:=Ct x key wr;have V:IntKind.wrap .u64 ((i:Int)+(j:Int))=(i:Int)+(j:Int):=by
    show _=_
    unfold IntKind.wrap;simp[IntKind.signed,IntKind.bits]
    omega
   clear v g A q;by_cases r:n7 x.key key<0
   .have B:Hid (bsF l key (m+1) j=az l key):=by show _=_;rw[<- p.out,Y7 D (by rw[n];exact r),u.out]
    clear n p u;generalize n7 x.key key=cv at *;go_wp2_with fail;refine h.mono ?_;rintro e H ⟨rfl,f⟩;have k:=hZ (d.out.trans (f.mono d.out.size));clear h f d;go_wp2;exact⟨⟨m+1,j,by omega,by omega,congrArg (Value.int IntKind.i64) (by omega),rfl,B.out,k.out⟩,by simp[intOf];omega⟩
   .have B:Hid (bsF l key i m=az l key):=by show _=_;rw[<- p.out,Mf D (by rw[n];exact r),u.out]
    clear n p u;generalize n7 x.key key=cv at *;go_wp2_with fail;refine h.mono ?_;rintro e H ⟨rfl,f⟩;have k:=hZ (d.out.trans (f.mono d.out.size));clear h f d;go_wp2;exact⟨⟨i,m,by omega,by omega,rfl,congrArg (Value.int IntKind.i64) (by omega),B.out,k.out⟩,by simp[intOf];omega⟩
  .have M:¬ (i:Int)<(j:Int):=by omega
   have s:Hid (R=i):=by show _=_;rw[<- z.out,<- p.out,Dp D]
   by_cases C:i<l.length
   .have L:(i:Int)<(l.length:Int):=by omega
    obtain⟨x,g⟩:∃ x,l[i]? = some x:=⟨_,List.getElem?_eq_getElem C⟩
    have n:dh l i=x:=by unfold dh;rw[g];rfl
    have y:Hid (T=decide (n7 x.key key=0)):=by show _=_;rw[<- E.out];unfold d9;rw[z.out,s.out,n,decide_eq_true C,Bool.true_and]
    rcases I.out.below q bR with G|⟨b,o,rfl,v⟩
    .rw[G]at g;simp at g
    obtain⟨F,N,O⟩:=v i x g;have K:=ag F;have h:=Ct x key wr;clear v g A q p n;by_cases r:n7 x.key key=0
    .have t:Hid (T=true):=by show _=_;rw[y.out,decide_eq_true r]
     clear y;generalize n7 x.key key=cv at *;go_wp2_with fail;refine h.mono ?_;rintro e H ⟨rfl,f⟩;have k:=hZ (d.out.trans (f.mono d.out.size));clear h f d;go_wp2;go_ret2;rw[s.out,t.out];exact⟨rfl,k.out⟩
    .have t:Hid (T=false):=by show _=_;rw[y.out,decide_eq_false r]
     clear y;generalize n7 x.key key=cv at *;go_wp2_with fail;refine h.mono ?_;rintro e H ⟨rfl,f⟩;have k:=hZ (d.out.trans (f.mono d.out.size));clear h f d;go_wp2;go_ret2;rw[s.out,t.out];exact⟨by simp[r],k.out⟩
   .have L:¬ (i:Int)<(l.length:Int):=by omega
    have t:Hid (T=false):=by show _=_;rw[<- E.out];unfold d9;rw[z.out,s.out,decide_eq_false C];rfl
    clear A p;go_wp2;go_ret2;rw[s.out,t.out];exact⟨rfl,q⟩
theorem zf {w:World} {a:Option Addr} {c:Nat} {l:List Rw}(key:ByteArray) (d:dd w a l) (g:l.length<=1048576) :
  Calls prog 95 #[.slice a l.length c,.string key] w fun e w'=>e=.returned (.tuple #[.int .i64 (az l key:Int),.bool (d9 l key)])/\Below w.heap.size w w':=by
 have b:=Tw (c:=c) key d g;generalize az l key=R at *;generalize d9 l key=T at *;clear d;go_enter func95,ntmps95;go_wp2_with fail;refine b.mono ?_;rintro e h ⟨rfl,f⟩;clear b;go_wp2;go_ret2;exact⟨rfl,f⟩
theorem nf {w:World} {t:Array Oper} {o:Oper} {a:Act} {K:Act->World->Prop} {Q:Exit->Act->World->Prop} {E:Prop}(g:o.guard=none) (s x:Operand)
  (G:o.op=.call { callee:=.builtin .append,args:=#[s,x],argTypes:=#[32,32] }) (b n:Nat) (c:Nat) (e:Value) (l l':List Rw) (F:n=l.length) (H:a.eval s=.slice (some ⟨b,c,none⟩) n n) (J:a.eval x=e)
  (A:dd w (some ⟨b,c,none⟩) l) (d:SlV w e l') (h0:0<l'.length) (O:l.length+l'.length<=1048576) (h:∀ v' w',Rws w' w.heap.size v' (l++l')->w.grownBy w' none->K (a.put o.dst v') w') :
  if Region.wanted o (yielded t a.tmps)=true then Oper.wp prog o a w K Q else E:=by
 rw[if_pos (by simp[Region.wanted,g])];subst F;obtain⟨L,C,q,m,p⟩:=info_parts Ft;obtain⟨R,y,I,d⟩:=d;rcases d with rfl|⟨v,r,rfl,z⟩
 .simp at h0
 have i:∀ j u,(go l)[j]? = some u->w.cell? ((⟨b,c,none⟩:Addr).add j)=some u:=by
  rcases A with rfl|⟨S,T,B,f⟩
  .intro j u D;simp[go]at D
  .cases B
   exact Gc f
 obtain⟨v',w',k,M,N⟩:=run_append_arg_grows (P:=prog) w 32 o.type 37 L _ 3 48 underlying32 C q m p rfl (by decide) ⟨b,c,none⟩ l.length l.length (go l) (yk l) i ⟨v,r,none⟩ l'.length y (go l') (yk l') (Gc z) (by omega) (by unfold maxLen;omega) (by omega);refine Go.Lib.wp_append_run w s x 32 32 G _ _ H (J.trans I) _ _ k ?_;refine h _ _ ?_ N;unfold Rws;rw[List.length_append,xv];exact M
theorem Px {w:World} {al:Option Addr} {l:List Rw} {d:Nat}(x:Rw) (hS:dd w al l) (h0:∃ b o,al=some ⟨b,o,none⟩) (a8:l.length<=d) (hc:d<=9223372036854775807) (a7:l.length<=1000000) (hr:lm l) :
  Calls prog 124 #[.slice al l.length d,.agg #[.string x.key,.string x.text,.string x.val]] w fun e w'=>∃ v,e=.returned v/\Rws w' w.heap.size v (gz l x)/\Below w.heap.size w w':=by
 obtain⟨b,o,rfl⟩:=h0;have bA:=(Below.refl w.heap.size w).alloc bR (.cells #[.string x.key,.string x.text,.string x.val] 37);have E:=zf (c:=d) x.key (hS.below bA bR) (by omega);have H:Hid (di (w.alloc (.cells #[.string x.key,.string x.text,.string x.val] 37)) w.heap.size x):=ky w x;have m:Hid _:=bA;have V:=hZ hS;have ad:=(n6 x.key hr).1;obtain⟨R,Z⟩:∃ R,Hid (gz l x=R):=⟨_,rfl⟩
 rw[Z.out];have F:Hid (R=l.take (az l x.key)++([x]++l.drop (if d9 l x.key then az l x.key+1 else az l x.key))):=by show _=_;rw[<- Z.out];rfl
 have W:d9 l x.key=true->az l x.key<l.length:=fun h=>(py hr h).2
 clear hS bA hr Z;generalize az l x.key=p at *;have ab:(p:Int)<=(d:Int):=by omega
 have ac:(p:Int)<=(l.length:Int):=by omega
 have a3:(l.take p).length=p:=by rw[List.length_take];omega
 have G:=hZ a3;clear a3
 cases hth:d9 l x.key
 .rw[hth]at E F
  simp only[Bool.false_eq_true,if_false]at F;clear W hth;by_cases a1:d=p
  .subst a1
   have J:Hid ((l.drop d).length=0):=by show _=_;rw[List.length_drop];omega
   have L:Hid (dd w (some ⟨b,o,none⟩) (l.drop d)):=.inl (List.drop_eq_nil_of_le (by omega));have a5:l.length-d=0:=by omega
   go_enter func124,ntmps124;go_wp2_with fail;refine E.mono ?_;rintro e a ⟨rfl,i⟩;have k:=H.out.below i;obtain⟨O,P,Q⟩:=k.cells;have M:=k.lt;have f:=hZ (m.out.trans (i.mono m.out.size));have t:Below a.heap.size a (a.alloc (.cells #[.string x.key,.string x.text,.string x.val] 37)):=bY _;have n:Hid (dd (a.alloc (.cells #[.string x.key,.string x.text,.string x.val] 37)) (some ⟨b,o,none⟩) (l.take d)):=((V.out.below f.out bR).take d).below t bR;have r:Hid (SlV (a.alloc (.cells #[.string x.key,.string x.text,.string x.val] 37)) (.slice (some ⟨a.heap.size,0,none⟩) 1 1) [x]):=(gg a _ a.heap.size x rfl bR).slV
   have q:Hid (∀ u,Below w.heap.size w u->SlV u (.slice (some ⟨b,o,none⟩) 0 0) (l.drop d)):=fun u hu=>⟨_,_,by rw[J.out],L.out.below hu bR⟩
   have X:=f.out.size;clear E i k H m;go_upto_region 5 with fail
   go_cut [4] from 5 to 31 (fun v4 wx=>Rws wx w.heap.size v4 R/\Below w.heap.size w wx)
   case first =>
    go_region_law (first
     | (refine nf rfl (.tmp 26) (.tmp 28) rfl b d o (.slice (some ⟨a.heap.size,0,none⟩) 1 1) (l.take d) [x] G.out.symm rfl rfl (yn n.out rfl) (gh r.out rfl) (by simp) (by rw[G.out];simp;omega) ?_;intro T w6 A y;have j:Below w.heap.size w w6:=Below.grown (by repeat (first|with_reducible exact (f.out.trans (t.mono f.out.size))|with_reducible refine Below.drew ?_)) y (by simp;omega) (fun g e=>by cases e);have C:=cz A (show w.heap.size<=_ by simp;omega);have Y:=j.size;clear y A)
     | (refine dz rfl (.tmp 29) (.tmp 30) rfl w.heap.size T _ (l.take d++[x]) (l.drop d) rfl rfl (kz C rfl) (gh (q.out _ j) rfl) (by simp;omega) (by first|omega|(simp;omega)) ?_;intro U w7 B z;have N:Below w.heap.size w w7:=Below.grown (by repeat (first|with_reducible exact j|with_reducible refine Below.drew ?_)) z (by first|omega|(simp;omega)) (fun g e=>(World.ownsRow.lt C g e).1);clear z))
    all_goals
     have S:Rws w7 w.heap.size U R:=by rw[F.out];simpa using B
     clear B;go_wp2_with fail;go_meet
     case rel=>exact⟨S,N⟩
   case rest =>
    obtain⟨D,s⟩:=hcut;have K:=hZ D;have I:=hZ s;clear D s q n r O P Q M;go_wp2;go_ret;exact⟨_,rfl,K.out,I.out⟩
  .have a0:(d == p)=false:=by simpa using a1
   have J:Hid ((l.drop p).length=l.length-p):=by show _=_;rw[List.length_drop]
   have L:Hid (dd w (some ⟨b,o+p*3,none⟩) (l.drop p)):=V.out.drop p;go_enter func124,ntmps124;go_wp2_with fail;refine E.mono ?_;rintro e a ⟨rfl,i⟩;have k:=H.out.below i;obtain⟨O,P,Q⟩:=k.cells;have M:=k.lt;have f:=hZ (m.out.trans (i.mono m.out.size));have t:Below a.heap.size a (a.alloc (.cells #[.string x.key,.string x.text,.string x.val] 37)):=bY _;have n:Hid (dd (a.alloc (.cells #[.string x.key,.string x.text,.string x.val] 37)) (some ⟨b,o,none⟩) (l.take p)):=((V.out.below f.out bR).take p).below t bR;have r:Hid (SlV (a.alloc (.cells #[.string x.key,.string x.text,.string x.val] 37)) (.slice (some ⟨a.heap.size,0,none⟩) 1 1) [x]):=(gg a _ a.heap.size x rfl bR).slV
   have q:Hid (∀ u,Below w.heap.size w u->SlV u (.slice (some ⟨b,o+p*3,none⟩) (l.length-p) (d-p)) (l.drop p)):=fun u hu=>⟨_,_,by rw[J.out],L.out.below hu bR⟩
   have X:=f.out.size;clear E i k H m;go_upto_region 5 with fail
   go_cut [4] from 5 to 31 (fun v4 wx=>Rws wx w.heap.size v4 R/\Below w.heap.size w wx)
   case first =>
    go_region_law (first
     | (refine nf rfl (.tmp 26) (.tmp 28) rfl b p o (.slice (some ⟨a.heap.size,0,none⟩) 1 1) (l.take p) [x] G.out.symm rfl rfl (yn n.out rfl) (gh r.out rfl) (by simp) (by rw[G.out];simp;omega) ?_;intro T w6 A y;have j:Below w.heap.size w w6:=Below.grown (by repeat (first|with_reducible exact (f.out.trans (t.mono f.out.size))|with_reducible refine Below.drew ?_)) y (by simp;omega) (fun g e=>by cases e);have C:=cz A (show w.heap.size<=_ by simp;omega);have Y:=j.size;clear y A)
     | (refine dz rfl (.tmp 29) (.tmp 30) rfl w.heap.size T _ (l.take p++[x]) (l.drop p) rfl rfl (kz C rfl) (gh (q.out _ j) rfl) (by simp;omega) (by first|omega|(simp;omega)) ?_;intro U w7 B z;have N:Below w.heap.size w w7:=Below.grown (by repeat (first|with_reducible exact j|with_reducible refine Below.drew ?_)) z (by first|omega|(simp;omega)) (fun g e=>(World.ownsRow.lt C g e).1);clear z))
    all_goals
     have S:Rws w7 w.heap.size U R:=by rw[F.out];simpa using B
     clear B;go_wp2_with fail;go_meet
     case rel=>exact⟨S,N⟩
   case rest =>
    obtain⟨D,s⟩:=hcut;have K:=hZ D;have I:=hZ s;clear D s q n r O P Q M;go_wp2;go_ret;exact⟨_,rfl,K.out,I.out⟩
 .rw[hth]at E F
  simp only[if_true]at F;have ae:=W hth;clear W hth;have a0:(d == p)=false:=by simp;omega
  have aa:(p:Int)+1<=(d:Int):=by omega
  have a9:(p:Int)+1<=(l.length:Int):=by omega
  have ag:IntKind.i64.wrap ((p:Int)+1)=(p:Int)+1:=by rw[IntKind.wrap_i64];omega
  have af:((p:Int)+1).toNat=p+1:=by omega
  have ah:(0:Int)<=(p:Int)+1:=by omega
  by_cases a2:d=p+1
  .subst a2
   have a6:(p:Int)<=(p:Int)+1:=by omega
   have J:Hid ((l.drop (p+1)).length=0):=by show _=_;rw[List.length_drop];omega
   have a5:l.length-(p+1)=0:=by omega
   have L:Hid (dd w (some ⟨b,o,none⟩) (l.drop (p+1))):=.inl (List.drop_eq_nil_of_le (by omega));go_enter func124,ntmps124;go_wp2_with fail;refine E.mono ?_;rintro e a ⟨rfl,i⟩;have k:=H.out.below i;obtain⟨O,P,Q⟩:=k.cells;have M:=k.lt;have f:=hZ (m.out.trans (i.mono m.out.size));have t:Below a.heap.size a (a.alloc (.cells #[.string x.key,.string x.text,.string x.val] 37)):=bY _;have n:Hid (dd (a.alloc (.cells #[.string x.key,.string x.text,.string x.val] 37)) (some ⟨b,o,none⟩) (l.take p)):=((V.out.below f.out bR).take p).below t bR;have r:Hid (SlV (a.alloc (.cells #[.string x.key,.string x.text,.string x.val] 37)) (.slice (some ⟨a.heap.size,0,none⟩) 1 1) [x]):=(gg a _ a.heap.size x rfl bR).slV
   have q:Hid (∀ u,Below w.heap.size w u->SlV u (.slice (some ⟨b,o,none⟩) 0 0) (l.drop (p+1))):=fun u hu=>⟨_,_,by rw[J.out],L.out.below hu bR⟩
   have X:=f.out.size;clear E i k H m;go_upto_region 5 with fail
   go_cut [4] from 5 to 31 (fun v4 wx=>Rws wx w.heap.size v4 R/\Below w.heap.size w wx)
   case first =>
    go_region_law (first
     | (refine nf rfl (.tmp 26) (.tmp 28) rfl b p o (.slice (some ⟨a.heap.size,0,none⟩) 1 1) (l.take p) [x] G.out.symm rfl rfl (yn n.out rfl) (gh r.out rfl) (by simp) (by rw[G.out];simp;omega) ?_;intro T w6 A y;have j:Below w.heap.size w w6:=Below.grown (by repeat (first|with_reducible exact (f.out.trans (t.mono f.out.size))|with_reducible refine Below.drew ?_)) y (by simp;omega) (fun g e=>by cases e);have C:=cz A (show w.heap.size<=_ by simp;omega);have Y:=j.size;clear y A)
     | (refine dz rfl (.tmp 29) (.tmp 30) rfl w.heap.size T _ (l.take p++[x]) (l.drop (p+1)) rfl rfl (kz C rfl) (gh (q.out _ j) rfl) (by simp;omega) (by first|omega|(simp;omega)) ?_;intro U w7 B z;have N:Below w.heap.size w w7:=Below.grown (by repeat (first|with_reducible exact j|with_reducible refine Below.drew ?_)) z (by first|omega|(simp;omega)) (fun g e=>(World.ownsRow.lt C g e).1);clear z))
    all_goals
     have S:Rws w7 w.heap.size U R:=by rw[F.out];simpa using B
     clear B;go_wp2_with fail;go_meet
     case rel=>exact⟨S,N⟩
   case rest =>
    obtain⟨D,s⟩:=hcut;have K:=hZ D;have I:=hZ s;clear D s q n r O P Q M;go_wp2;go_ret;exact⟨_,rfl,K.out,I.out⟩
  .have a4:(d == p+1)=false:=by simpa using a2
   have J:Hid ((l.drop (p+1)).length=l.length-(p+1)):=by show _=_;rw[List.length_drop]
   have L:Hid (dd w (some ⟨b,o+(p+1)*3,none⟩) (l.drop (p+1))):=V.out.drop (p+1);go_enter func124,ntmps124;go_wp2_with fail;refine E.mono ?_;rintro e a ⟨rfl,i⟩;have k:=H.out.below i;obtain⟨O,P,Q⟩:=k.cells;have M:=k.lt;have f:=hZ (m.out.trans (i.mono m.out.size));have t:Below a.heap.size a (a.alloc (.cells #[.string x.key,.string x.text,.string x.val] 37)):=bY _;have n:Hid (dd (a.alloc (.cells #[.string x.key,.string x.text,.string x.val] 37)) (some ⟨b,o,none⟩) (l.take p)):=((V.out.below f.out bR).take p).below t bR;have r:Hid (SlV (a.alloc (.cells #[.string x.key,.string x.text,.string x.val] 37)) (.slice (some ⟨a.heap.size,0,none⟩) 1 1) [x]):=(gg a _ a.heap.size x rfl bR).slV
   have q:Hid (∀ u,Below w.heap.size w u->SlV u (.slice (some ⟨b,o+(p+1)*3,none⟩) (l.length-(p+1)) (d-(p+1))) (l.drop (p+1))):=fun u hu=>⟨_,_,by rw[J.out],L.out.below hu bR⟩
   have X:=f.out.size;clear E i k H m;go_upto_region 5 with fail
   go_cut [4] from 5 to 31 (fun v4 wx=>Rws wx w.heap.size v4 R/\Below w.heap.size w wx)
   case first =>
    go_region_law (first
     | (refine nf rfl (.tmp 26) (.tmp 28) rfl b p o (.slice (some ⟨a.heap.size,0,none⟩) 1 1) (l.take p) [x] G.out.symm rfl rfl (yn n.out rfl) (gh r.out rfl) (by simp) (by rw[G.out];simp;omega) ?_;intro T w6 A y;have j:Below w.heap.size w w6:=Below.grown (by repeat (first|with_reducible exact (f.out.trans (t.mono f.out.size))|with_reducible refine Below.drew ?_)) y (by simp;omega) (fun g e=>by cases e);have C:=cz A (show w.heap.size<=_ by simp;omega);have Y:=j.size;clear y A)
     | (refine dz rfl (.tmp 29) (.tmp 30) rfl w.heap.size T _ (l.take p++[x]) (l.drop (p+1)) rfl rfl (kz C rfl) (gh (q.out _ j) rfl) (by simp;omega) (by first|omega|(simp;omega)) ?_;intro U w7 B z;have N:Below w.heap.size w w7:=Below.grown (by repeat (first|with_reducible exact j|with_reducible refine Below.drew ?_)) z (by first|omega|(simp;omega)) (fun g e=>(World.ownsRow.lt C g e).1);clear z))
    all_goals
     have S:Rws w7 w.heap.size U R:=by rw[F.out];simpa using B
     clear B;go_wp2_with fail;go_meet
     case rel=>exact⟨S,N⟩
   case rest =>
    obtain⟨D,s⟩:=hcut;have K:=hZ D;have I:=hZ s;clear D s q n r O P Q M;go_wp2;go_ret;exact⟨_,rfl,K.out,I.out⟩
theorem Sb (w:World) (x:Rw) :
  Calls prog 124 #[.slice none 0 0,.agg #[.string x.key,.string x.text,.string x.val]] w fun e w'=>∃ v,e=.returned v/\Rws w' w.heap.size v [x]/\Below w.heap.size w w':=by
 have s:=(Below.refl w.heap.size w).alloc bR (.cells #[.string x.key,.string x.text,.string x.val] 37);have n:Calls prog 95 #[.slice none 0 0,.string x.key] (w.alloc (.cells #[.string x.key,.string x.text,.string x.val] 37)) fun e w'=>e=.returned (.tuple #[.int .i64 0,.bool false])/\Below (w.alloc (.cells #[.string x.key,.string x.text,.string x.val] 37)).heap.size (w.alloc (.cells #[.string x.key,.string x.text,.string x.val] 37)) w':=by
  have q:=zf (w:=w.alloc (.cells #[.string x.key,.string x.text,.string x.val] 37)) (a:=none) (c:=0) (l:=[]) x.key (.inl rfl) (by simp);rw[show az [] x.key=0 from Dp (by simp),show d9 [] x.key=false by (unfold d9;simp)]at q;exact q
 have m:Hid (di (w.alloc (.cells #[.string x.key,.string x.text,.string x.val] 37)) w.heap.size x):=ky w x;have f:Hid _:=s;clear s;go_enter func124,ntmps124;go_wp2_with fail;refine n.mono ?_;rintro e b ⟨rfl,h⟩;have i:=m.out.below h;obtain⟨F,G,H⟩:=i.cells;have D:=i.lt;have d:=hZ (f.out.trans (h.mono f.out.size));have t:Below b.heap.size b (b.alloc (.cells #[.string x.key,.string x.text,.string x.val] 37)):=bY _;have o:Hid (SlV (b.alloc (.cells #[.string x.key,.string x.text,.string x.val] 37)) (.slice (some ⟨b.heap.size,0,none⟩) 1 1) [x]):=(gg b _ b.heap.size x rfl bR).slV;have k:=hZ (d.out.trans (t.mono d.out.size));have N:=d.out.size
 have O:=k.out.size;clear n h i m f t;go_upto_region 5 with fail
 go_cut [4] from 5 to 31 (fun v4 wx=>Rws wx w.heap.size v4 [x]/\Below w.heap.size w wx)
 case first =>
  go_region_law (first
   | (refine dz rfl (.tmp 26) (.tmp 28) rfl w.heap.size (.slice none 0 0) (.slice (some ⟨b.heap.size,0,none⟩) 1 1) [] [x] rfl rfl (World.ownsRow_nil _ _ _ _) (gh o.out rfl) (by simp) (by first|omega|(simp;omega)) ?_;intro A w6 L I;have r:Below w.heap.size w w6:=Below.grown (by repeat (first|with_reducible exact k.out|with_reducible refine Below.drew ?_)) I (by first|omega|(simp;omega)) (fun j hj=>by cases hj);have y:Rws w6 w.heap.size A [x]:=L;have P:=r.size)
   | (refine dz rfl (.tmp 29) (.tmp 30) rfl w.heap.size A (.slice none 0 0) [x] [] rfl rfl (kz y rfl) ⟨none,0,rfl,.inl rfl⟩ (by simp) (by first|omega|(simp;omega)) ?_;intro M w7 u J;have E:Below w.heap.size w w7:=Below.grown (by repeat (first|with_reducible exact r|with_reducible refine Below.drew ?_)) J (by first|omega|(simp;omega)) (fun g e=>(World.ownsRow.lt y g e).1)))
  all_goals
   have K:Rws w7 w.heap.size M [x]:=by simpa using u
   clear u;go_wp2_with fail;go_meet
   case rel=>exact⟨K,E⟩
 case rest =>
  obtain⟨z,p⟩:=hcut;have C:=hZ z;have B:=hZ p;clear z p o F G H D;go_wp2;go_ret;exact⟨_,rfl,C.out,B.out⟩
theorem Pw {w:World} {B:Nat} {v:Value} {l:List Rw}(x:Rw) (a:Rws w B v l) (b:l.length<=1000000) (f:lm l) :
  Calls prog 124 #[v,.agg #[.string x.key,.string x.text,.string x.val]] w fun e w'=>∃ v,e=.returned v/\Rws w' w.heap.size v (gz l x)/\Below w.heap.size w w':=by
 rcases a.form with ⟨rfl,rfl⟩|⟨g,h,rfl,c,d⟩
 .have e:gz [] x=[x]:=by unfold gz;simp
  rw[e];exact Sb w x
 .exact Px x (ew a) ⟨g,0,rfl⟩ c (by unfold maxLen at d;omega) b f
end Go.Proofs.YtjbmgghehdemdaaGreatDoor
