/- IPage6 -/
import Derived.Test.YtjbmgghehdemdaaGreatDoorMR15
import Derived.Lib.SmallJoins
import Derived.ArgAppend
import Derived.Test.YtjbmgghehdemdaaGreatDoorMR16
import Derived.Deep.Cut
import Derived.Deep.CutRange
import Derived.Test.YtjbmgghehdemdaaGreatDoorMR8
import Derived.Defers
import Derived.Recover
import Derived.Laws.Pointers
import Derived.Maps.AppendAt
import Derived.ProofKit
import Derived.LaidMore
import Derived.Deep.Strs
import Derived.Deep.Slices
namespace Go.Proofs.YtjbmgghehdemdaaGreatDoor
set_option maxRecDepth 100000
set_option maxHeartbeats 16000000
open _root_.Go.Proofs.Tryz
open Go.RowKit
theorem Ih {w:World} {j:Array Oper} {o:Oper} {a:Act} {K:Act->World->Prop} {Q:Exit->Act->World->Prop} {E:Prop}(d:o.guard=none) (b x:Operand)
  (m:o.op=.call { callee:=.builtin .append,args:=#[b,x],argTypes:=#[22,9] }) (base:Nat)
  (v:Value) (bs:List Int) (p:a.eval b=v) (e:By6 w base v bs) (s:ByteArray) (q:a.eval x=.string s) (t:bs.length+s.size<=1099511627776) (c:base<=w.heap.size)
  (h:∀ v' w',By6 w' base v' (bs++bI s)->w.grownBy w' v.ownBlock->K (a.put o.dst v') w') :
  if Region.wanted o (yielded j a.tmps)=true then Oper.wp prog o a w K Q else E:=by
 rw[if_pos (by simp[Region.wanted,d])];obtain⟨r,hi0,i,f,g⟩:=info_parts Fv;obtain⟨v',w',n,k,l,u⟩:=Lib.run_append_own_string (P:=prog) w base 22 9 o.type 5 r underlying22 underlying9 hi0 i f g v bs.length _ e s (by unfold maxLen;omega) (by omega) c;unfold Oper.wp execOp;simp only[m,resolve,invoke,builtin,Sem.run_bind,Sem.run_pure,Result.andThen_ok,List.map_toArray,List.map_cons,List.map_nil,p,q,n];exact h v' w' (By6.str rfl k) l
theorem Na {w w':World} {row:Option Nat}(h:w.drew.grownBy w' row):w.grownBy w' row:=⟨h.os,h.tape,h.output,h.size,h.block⟩
def ay4 (W:World) (B:Nat) (l:List Rw) (v4 v5 i:Value) (wr:World):Prop :=
 ∃ k:Nat,k<=l.length/\i=.int .i64 k/\By6 wr B v4 ([80,71,(l.length:Int)]++eh ⟨#[]⟩ (l.take k))/\v5=.string (ie ⟨#[]⟩ (l.take k))/\Below B W wr
theorem a15 {l:List Rw}(h:ko l=true):pbT l=byT (et l):=by unfold pbT;rw[if_pos h]
theorem Oe {l:List Rw}(h:ko l=false):pbT l=⟨#[]⟩:=by unfold pbT;rw[h];rfl
theorem U6 {w w':World}(n:Nat) (h:w'=w.drewN n):Below w.heap.size w w':=by subst h;exact⟨rfl,rfl,rfl,bR,fun _ _=>rfl⟩
theorem ag3 (p:ByteArray) (x:Rw):je p x=[(shB p x.key:Int),(x.key.size:Int)-(shB p x.key:Int),(x.text.size:Int),(x.val.size:Int)]++bI (x.key.extract (shB p x.key) x.key.size++x.text++x.val):=by
 unfold je;rw[Jf,Jf,List.append_assoc,List.append_assoc,List.append_assoc]
theorem Vh {w:World} {a:Option Addr} {l:List Rw} {cap:Nat}(m:dd w a l) (hl:l.length<=1048576) :
  Calls prog 163 #[.slice a l.length cap] w fun e w'=>e=.returned (.tuple #[.string (pbT l),.bool (ko l)])/\Below w.heap.size w w':=by
 have f:=Vg (cap:=cap) m (by omega);by_cases S:l.length=0
 .have c:ko l=false:=by unfold ko;rw[S];rfl
  rw[c,Oe c,S];clear f m c;go_enter func163,ntmps163;go_wp2;go_ret2;exact⟨rfl,bX⟩
 .have aB:((l.length:Int) == 0)=false:=by rw[beq_eq_false_iff_ne];omega
  cases hg:dm l
  .have c:ko l=false:=by unfold ko;rw[hg,Bool.and_false];rfl
   rw[c,Oe c];rw[hg]at f;clear m c hg;go_enter func163,ntmps163;go_wp2_with fail;refine f.mono ?_;rintro e w2 ⟨rfl,d⟩;clear f;go_wp2;go_ret2;exact⟨rfl,d⟩
  .have y:=ud hg
   rw[hg]at f;have p:=fun (u:World) (g:Below w.heap.size w u)=>an1 (cap:=cap) (m.below g bR) y
   by_cases q:(et l).length<=300
   .have c:ko l=true:=by unfold ko;rw[hg,decide_eq_true q,show (l.length == 0)=false from by simpa using S];rfl
    rw[c,a15 c];rw[decide_eq_true q]at p;have Q:=hZ y;have az:=y.1;clear c hg y q;obtain⟨i0,hi0,ad,aa,ac⟩:=info_parts Fv;go_enter func163,ntmps163;go_wp2_with fail;refine f.mono ?_;rintro e w2 ⟨rfl,d⟩;have s:=p _ d;clear f p;go_wp2_with fail;refine s.mono ?_;rintro e w3 ⟨rfl,G⟩;have C:Below w.heap.size w w3:=d.trans (G.mono d.size);have B:=hZ (m.below C bR);have aE:=C.size;clear s d G m;have O:=Joins.run_convert_bytes_const_at (P:=prog) w3 22 5 #[.int .u8 80,.int .u8 71] 2 2 w3.heap.size rfl underlying22 underlying5
    go_wp2_with (at_builtin;refine wpList_append_grows _ rfl _ _ 22 rfl 5 i0 (.int .u8 0) 1 1 underlying22 hi0 ad aa ac rfl (by decide) (some ⟨w3.heap.size,0,none⟩) 2 2 [.int .u8 80,.int .u8 71] rfl (fun h=>by cases h) rfl (a07 _ _ rfl _ _ _ _ _) ⟨w3.heap.size+1,0,none⟩ 1 1 [.int .u8 (l.length:Int)] rfl rfl (U0 _ _ _ _ (by simp)) (fun u g=>by simp at g;subst g;rfl) (by decide) (by unfold maxLen;omega) (by omega) ?_)
    intro U w4 a8 a5;have I4:By6 w4 w3.heap.size U ([80,71]++[(l.length:Int)]):=By6.app (n:=1) rfl (Joins.ownsRow_le a8 (by omega));have B4:Below w3.heap.size w3 w4:=Below.grown (((Below.refl w3.heap.size w3).alloc bR _).alloc (by simp) _) a5 (by simp;omega) (fun j hj=>by cases hj);have X:Hid (By6 _ _ _ _):=I4;have W:Hid _:=B4;have V:Hid _:=C;clear O a8 a5 I4 B4 C;go_wp2;go_loopw [4,5,31] (fun U v5 i wr=>ay4 w3 w3.heap.size l U v5 i wr) (fun _ _ i _=>l.length-(intOf i).toNat)
    case atStart=>exact⟨0,Nat.zero_le _,rfl,X.out,rfl,W.out⟩
    case round =>
     clear X W;obtain⟨k,hk,rfl,z,rfl,A⟩:=hrel;by_cases a7:k<l.length
     .obtain⟨x,r⟩:∃ x,l[k]? = some x:=⟨_,List.getElem?_eq_getElem a7⟩
      have al:=B.out.below A bR;rcases al with rfl|⟨b,o,rfl,hE⟩
      .simp at r
      obtain⟨a0,a1,a2⟩:=hE k x r;have am:=ag a0;have ay:(k:Int)<(l.length:Int):=by omega
      have av:=Q.out.at r;have aD:=uu Q.out k;have aq:=zi Q.out k;have HR:Hid _:=Bc ⟨#[]⟩ r;have HK:Hid _:=Av ⟨#[]⟩ r;have aC:([80,71,(l.length:Int)]++eh ⟨#[]⟩ (l.take k)).length<=196098:=by rw[List.length_append];simp;omega
      have BX:Below w3.heap.size w3 (wr.alloc (.cells #[.string x.key,.string x.text,.string x.val] 37)):=A.alloc A.size _;have YX:By6 (wr.alloc (.cells #[.string x.key,.string x.text,.string x.val] 37)) w3.heap.size _ _:=z.below (bY _);have XX:di _ _ _:=ky wr x;have aj:Hid ([80,71,(l.length:Int)]++eh ⟨#[]⟩ (l.take (k+1))=([80,71,(l.length:Int)]++eh ⟨#[]⟩ (l.take k))++je (ie ⟨#[]⟩ (l.take k)) x):=by show _=_;rw[HR.out,List.append_assoc]
      generalize ie ⟨#[]⟩ (l.take k)=pk at *;generalize [80,71,(l.length:Int)]++eh ⟨#[]⟩ (l.take k)=bs at *;obtain⟨y0,y1,y2⟩:=av;have SH:=fun u=>Ic pk x.key (by omega) (by omega) u
      have au:=E3 pk x.key;have ak:Hid _:=ag3 pk x;generalize shB pk x.key=n at *;have J:Hid _:=BX;have a3:Hid (By6 _ _ _ _):=YX;have Z:Hid (di _ _ _):=XX;obtain⟨bx,Y⟩:∃ bx,Hid (bx=wr.heap.size):=⟨_,rfl⟩
      have ax:=hZ B.out;clear hE r A z HR aq BX YX XX B;go_wp2_with fail;refine (SH _).mono ?_;rintro e w5 ⟨rfl,nq,h5⟩;have H:=U6 nq h5;have v:=a3.out.below H;have t:=Z.out.below H;have D:Below w3.heap.size w3 w5:=J.out.trans (H.mono J.out.size);clear h5 H a3 Z J SH a0 a1 a2 am;rw[<- Y.out]at t;rw[<- Y.out];obtain⟨T,q1,q2⟩:=t.cells;have M:=t.lt;have ar:=D.size;unfold By6 at v
      go_wp2_with (at_builtin;refine wpList_append_own _ rfl _ _ 22 rfl w3.heap.size 5 i0 (.int .u8 0) 1 1 underlying22 hi0 ad aa ac rfl (by decide) _ _ _ rfl (v.alloc _) ⟨w5.heap.size,0,none⟩ 4 4 [.int .u8 (n:Int),.int .u8 ((x.key.size:Int)-(n:Int)),.int .u8 (x.text.size:Int),.int .u8 (x.val.size:Int)] rfl rfl (H0 _ _ _ _ _ _ _ (by simp)) (fun u g=>by simp at g;rcases g with rfl|rfl|rfl|rfl <;> rfl) (by unfold maxLen;omega) (by omega) (by simp;omega) ?_)
      intro I w6 a9 K _;have F:=(t.alloc (.cells #[.int .u8 (n:Int),.int .u8 ((x.key.size:Int)-(n:Int)),.int .u8 (x.text.size:Int),.int .u8 (x.val.size:Int)] 5)).kept (v.alloc _) K;have N:Below w3.heap.size w3 w6:=oy (D.alloc D.size _) (v.alloc _) K (by simp;omega);have E:By6 w6 w3.heap.size I (bs++[(n:Int),(x.key.size:Int)-(n:Int),(x.text.size:Int),(x.val.size:Int)]):=By6.app (n:=4) rfl a9;clear T q1 q2 M K a9 v t D ar;have aA:(bs++[(n:Int),(x.key.size:Int)-(n:Int),(x.text.size:Int),(x.val.size:Int)]).length<=196102:=by simp only[List.length_append,List.length_cons,List.length_nil];omega
      obtain⟨T,q1,q2⟩:=F.cells;have M:=F.lt;have ab:=N.size;generalize hbs6:bs++[(n:Int),(x.key.size:Int)-(n:Int),(x.text.size:Int),(x.val.size:Int)]=b6 at *;have ah:Hid _:=hbs6;have a4:(x.key.extract n x.key.size++x.text++x.val).size<=1000:=by rw[ByteArray.size_append,ByteArray.size_append,xh _ _ au];omega
      have HZ:Hid _:=a4;have YD:∀ u:World,u.heap=w6.heap->By6 u w3.heap.size I b6:=fun u g=>by unfold By6 World.ownsRow;rw[g];exact E
      clear hbs6 a4;go_wp2_with fail;have an:¬ 9223372036854775807<x.key.size-n+x.text.size:=by omega
      have ao:¬ 9223372036854775807<x.key.size-n+x.text.size+x.val.size:=by omega
      go_region_law (refine Ih rfl (.tmp 58) (.tmp 68) rfl w3.heap.size I b6 rfl (YD _ rfl) (x.key.extract n x.key.size++x.text++x.val) rfl (by have:=HZ.out;omega) (by simpa using ab) ?_;intro v7 w7 I7 a6)
      all_goals
       have L:w6.grownBy w7 I.ownBlock:=Na a6;have R:=F.kept E L;have B7:Below w3.heap.size w3 w7:=oy N E L ab;obtain⟨r0,r1,r2⟩:=R.cells;have aw:=R.lt;have ai:Hid (By6 _ _ _ _):=I7;have ae:Hid _:=B7;clear I7 R B7 a6 L T q1 q2 M YD E F N an ao;go_wp2;refine⟨⟨k+1,a7,by go_num,?_,by rw[HK.out],ae.out⟩,by simp[intOf];omega⟩;rw[aj.out,ak.out,<- List.append_assoc,ah.out];exact ai.out
     .have ap:k=l.length:=by omega
      subst ap;rw[Bk]at z;have O:=Mi z;rw[show [80,71,(l.length:Int)]++eh ⟨#[]⟩ l=et l from rfl]at O;have af:=hZ (V.out.trans (A.mono V.out.size));clear B z;go_wp2;go_ret2;exact⟨rfl,af.out⟩
   .have c:ko l=false:=by unfold ko;rw[decide_eq_false q,Bool.and_false]
    rw[c,Oe c];rw[decide_eq_false q]at p;clear m c hg y q;go_enter func163,ntmps163;go_wp2_with fail;refine f.mono ?_;rintro e w2 ⟨rfl,d⟩;have s:=p _ d;clear f p;go_wp2_with fail;refine s.mono ?_;rintro e w3 ⟨rfl,G⟩;clear s;go_wp2;go_ret2;exact⟨rfl,d.trans (G.mono d.size)⟩
def as4 (W:World) (l:List Rw) (v3 v4 i:Value) (wr:World):Prop :=
 ∃ k:Nat,k<=l.length/\i=.int .i64 k/\By6 wr W.heap.size v3 ([80,71,(l.length:Int)]++eh ⟨#[]⟩ (l.take k))/\v4=.string (ie ⟨#[]⟩ (l.take k))/\Below W.heap.size W wr
def b26 (W:World) (v3:Value) (bs:List Int) (x:Rw) (bx:Nat) (a:ByteArray) (i:Value) (wr:World):Prop :=
 ∃ n:Nat,i=.int .i64 n/\n<=a.size/\n<=x.key.size/\n+shL (a.data.toList.drop n) (x.key.data.toList.drop n)=shB a x.key/\By6 wr W.heap.size v3 bs/\di wr bx x/\Below W.heap.size W wr
theorem nr {w:World}(n:Nat):Below w.heap.size w (w.drewN n):=⟨rfl,rfl,rfl,bR,fun _ _=>rfl⟩
theorem aq0 (p:ByteArray) (x:Rw):je p x=[(shB p x.key:Int),(x.key.size:Int)-(shB p x.key:Int),(x.text.size:Int),(x.val.size:Int)]++bI (x.key.extract (shB p x.key) x.key.size)++bI x.text++bI x.val:=rfl
theorem rq {w:World} {a:Option Addr} {l:List Rw} {cap:Nat}(hS:dd w a l) (hB:RwB l) :
  Calls prog 81 #[.slice a l.length cap] w fun e w'=>e=.returned (.string (byT (et l)))/\Below w.heap.size w w':=by
 have hl:=hB.1;have W:=hZ hB;clear hB;obtain⟨M,hi0,E,B,D⟩:=info_parts Fv;have N0:=ao9 w w.heap.size rfl [80,71,(l.length:Int)] (by simp);have a5:Hid (By6 _ _ _ _):=N0;clear N0;go_enter func81,ntmps81;go_wp2;go_loopw [3,4,14] (fun v3 v4 i wr=>as4 w l v3 v4 i wr) (fun _ _ i _=>l.length-(intOf i).toNat)
 case atStart=>exact⟨0,Nat.zero_le _,rfl,a5.out,rfl,bY _⟩
 case round =>
  clear a5;obtain⟨k,hk,rfl,m,rfl,j⟩:=hrel;by_cases a8:k<l.length
  .obtain⟨x,q⟩:∃ x,l[k]? = some x:=⟨_,List.getElem?_eq_getElem a8⟩
   have am:=hS.below j bR;rcases am with rfl|⟨b,o,rfl,hE⟩
   .simp at q
   obtain⟨a0,a1,a2⟩:=hE k x q;have an:=ag a0;have aA:(k:Int)<(l.length:Int):=by omega
   have ax:=W.out.at q;have aG:=uu W.out k;have aq:=zi W.out k;have HR:Hid _:=Bc ⟨#[]⟩ q;have HK:Hid _:=Av ⟨#[]⟩ q;have aF:([80,71,(l.length:Int)]++eh ⟨#[]⟩ (l.take k)).length<=196098:=by rw[List.length_append];simp;omega
   have a3:Hid (Below w.heap.size w (wr.alloc (.cells #[.string x.key,.string x.text,.string x.val] 37))):=j.alloc j.size _;have a6:Hid (By6 (wr.alloc (.cells #[.string x.key,.string x.text,.string x.val] 37)) w.heap.size _ _):=m.below (bY _);have O:Hid (di _ _ _):=ky wr x;have ak:Hid ([80,71,(l.length:Int)]++eh ⟨#[]⟩ (l.take (k+1))=([80,71,(l.length:Int)]++eh ⟨#[]⟩ (l.take k))++je (ie ⟨#[]⟩ (l.take k)) x):=by show _=_;rw[HR.out,List.append_assoc]
   have ay:=j.size;generalize ie ⟨#[]⟩ (l.take k)=pk at *;generalize [80,71,(l.length:Int)]++eh ⟨#[]⟩ (l.take k)=bs at *;obtain⟨y0,y1,y2⟩:=ax;obtain⟨K,N⟩:∃ K,Hid (K=wr.heap.size):=⟨_,rfl⟩
   clear hE q hS j m HR aq;go_wp2_with fail;rw[<- N.out]at O;rw[<- N.out];go_loopw [7] (fun i wr2=>b26 w u3 bs x K pk i wr2) (fun i _=>pk.size-(intOf i).toNat)
   case atStart=>exact⟨0,rfl,Nat.zero_le _,Nat.zero_le _,by simp[shB],a6.out,O.out,a3.out⟩
   case round =>
    clear a6 O a3 N a0 a1 a2 an ay;obtain⟨n,rfl,aE,ap,hR,m,L,j⟩:=hrel;obtain⟨g,q1,q2⟩:=L.cells;have f:=L.lt;have Y:Hid (By6 _ _ _ _):=m;have X:Hid (di _ _ _):=L;have r:=hZ j;have A:Hid _:=hR;clear m L hR j;by_cases C:n<pk.size/\n<x.key.size/\bAt pk n=bAt x.key n
    .obtain⟨c,d,p⟩:=C
     have d1:(n:Int)<(pk.size:Int):=by omega
     have d2:(n:Int)<(x.key.size:Int):=by omega
     have x1:=d5 pk n c;have x2:=d5 x.key n d;have HN:Hid (n+1+shL (pk.data.toList.drop (n+1)) (x.key.data.toList.drop (n+1))=shB pk x.key):=by
      show _=_
      rw[<- A.out,oc c,oc d,shL,if_pos p];omega
     rw[p]at x1;clear A p;go_wp2;go_quiet (fail)
     go_wp2;exact⟨⟨n+1,by go_num,c,d,HN.out,Y.out.below (nr _),X.out.below (nr _),r.out.trans ((nr _).mono r.out.size)⟩,by simp[intOf];omega⟩
    .have ad:shB pk x.key=n:=by
      have h:=A.out;by_cases c:n<pk.size
      .by_cases d:n<x.key.size
       .rw[oc c,oc d,shL,if_neg (fun p=>C ⟨c,d,p⟩)]at h
        omega
       .rw[P6 _ _ (yb d)]at h;omega
      .rw[P0 _ _ (yb c)]at h;omega
     have h3:¬ n<pk.size\/(n<pk.size/\¬ n<x.key.size)\/(n<pk.size/\n<x.key.size/\((bAt pk n).toNat:Int)≠((bAt x.key n).toNat:Int)):=by
      by_cases c:n<pk.size
      .by_cases d:n<x.key.size
       .exact .inr (.inr ⟨c,d,fun h=>C ⟨c,d,UInt8.toNat_inj.1 (by omega)⟩⟩)
       .exact .inr (.inl ⟨c,d⟩)
      .exact .inl c
     have al:Hid (je pk x=[(n:Int),(x.key.size:Int)-(n:Int),(x.text.size:Int),(x.val.size:Int)]++bI (x.key.extract n x.key.size)++bI x.text++bI x.val):=by show _=_;rw[aq0,ad]
     have a7:=xh x.key n ap;have a4:Hid _:=a7;clear C ad A a7;rcases h3 with c|⟨c,d⟩|⟨c,d,p⟩;all_goals (first
      | (
        have d0:¬ n<pk.size:=c;go_wp2;have d1:decide ((n:Int)<(pk.size:Int))=false:=decide_eq_false (by omega);go_quiet (fail))
      | (
        have d0:¬ n<x.key.size:=d;have e1:(n:Int)<(pk.size:Int):=by omega
        go_wp2;have d1:decide ((n:Int)<(x.key.size:Int))=false:=decide_eq_false (by omega);go_quiet (fail))
      | (
        have d0:((bAt pk n).toNat:Int)≠((bAt x.key n).toNat:Int):=p;have e1:(n:Int)<(pk.size:Int):=by omega
        have e2:(n:Int)<(x.key.size:Int):=by omega
        have x1:=d5 pk n c;have x2:=d5 x.key n d;generalize ((bAt pk n).toNat:Int)=z1 at *;generalize ((bAt x.key n).toNat:Int)=z2 at *;clear p;go_wp2;go_quiet (fail)))
     all_goals
      obtain⟨w2,s⟩:∃ w2,Hid (w2=wr.drewN nq):=⟨_,rfl⟩
      have t:By6 w2 w.heap.size u3 bs:=by rw[s.out];exact Y.out.below (nr _)
      have G:di w2 K x:=by rw[s.out];exact X.out.below (nr _)
      have F:Below w.heap.size w w2:=by rw[s.out];exact r.out.trans ((nr _).mono r.out.size)
      rw[<- s.out];clear s Y X r g q1 q2 f;obtain⟨g,q1,q2⟩:=G.cells;have f:=G.lt;have ar:=F.size;unfold By6 at t;go_wp2_with (at_builtin;refine wpList_append_own _ rfl _ _ 22 rfl w.heap.size 5 M (.int .u8 0) 1 1 underlying22 hi0 E B D rfl (by decide) _ _ _ rfl (t.alloc _) ⟨w2.heap.size,0,none⟩ 4 4 [.int .u8 (n:Int),.int .u8 ((x.key.size:Int)-(n:Int)),.int .u8 (x.text.size:Int),.int .u8 (x.val.size:Int)] rfl rfl (H0 _ _ _ _ _ _ _ (by simp)) (fun u hu=>by simp at hu;rcases hu with rfl|rfl|rfl|rfl <;> rfl) (by unfold maxLen;omega) (by omega) (by simp;omega) ?_)
      intro v4 w4 a9 P _;have H:=(G.alloc (.cells #[.int .u8 (n:Int),.int .u8 ((x.key.size:Int)-(n:Int)),.int .u8 (x.text.size:Int),.int .u8 (x.val.size:Int)] 5)).kept (t.alloc _) P;have T:Below w.heap.size w w4:=oy (F.alloc F.size _) (t.alloc _) P (by simp;omega);have I4:By6 w4 w.heap.size v4 (bs++[(n:Int),(x.key.size:Int)-(n:Int),(x.text.size:Int),(x.val.size:Int)]):=By6.app (n:=4) rfl a9;clear g q1 q2 f P a9 t G F ar;have az:(x.key.extract n x.key.size).size<=255:=by have:=a4.out;omega
      have v:=I4;unfold By6 at v;have aB:(bs++[(n:Int),(x.key.size:Int)-(n:Int),(x.text.size:Int),(x.val.size:Int)]).length<=196102:=by simp only[List.length_append,List.length_cons,List.length_nil];omega
      obtain⟨g,q1,q2⟩:=H.cells;have f:=H.lt;have au:=T.size;generalize hbs4:(bs++[(n:Int),(x.key.size:Int)-(n:Int),(x.text.size:Int),(x.val.size:Int)])=b4 at *;have af:Hid _:=hbs4;clear hbs4;go_wp2_with (at_builtin;refine Lib.wpList_append_own_string _ rfl _ _ 22 9 rfl w.heap.size 5 M underlying22 underlying9 hi0 E B D _ _ _ rfl v (x.key.extract n x.key.size) rfl (by unfold maxLen;omega) (by omega) (by omega) ?_)
      intro v5 w5 aa Q _;have I:=H.kept v Q;have U:Below w.heap.size w w5:=oy T v Q (by omega);have I5:By6 w5 w.heap.size v5 (b4++bI (x.key.extract n x.key.size)):=By6.str a4.out.symm aa;clear g q1 q2 f Q aa v H T au I4;have y:=I5;unfold By6 at y;have aC:(b4++bI (x.key.extract n x.key.size)).length<=196357:=by simp only[List.length_append,Gq];omega
      obtain⟨g,q1,q2⟩:=I.cells;have f:=I.lt;have av:=U.size;generalize hbs5:(b4++bI (x.key.extract n x.key.size))=b5 at *;have ah:Hid _:=hbs5;clear hbs5;go_wp2_with (at_builtin;refine Lib.wpList_append_own_string _ rfl _ _ 22 9 rfl w.heap.size 5 M underlying22 underlying9 hi0 E B D _ _ _ rfl y x.text rfl (by unfold maxLen;omega) (by omega) (by omega) ?_)
      intro v6 w6 ab R _;have J:=I.kept y R;have V:Below w.heap.size w w6:=oy U y R (by omega);have I6:By6 w6 w.heap.size v6 (b5++bI x.text):=By6.str rfl ab;clear g q1 q2 f R ab y I U av I5;have z:=I6;unfold By6 at z;have aD:(b5++bI x.text).length<=196612:=by simp only[List.length_append,Gq];omega
      obtain⟨g,q1,q2⟩:=J.cells;have f:=J.lt;have aw:=V.size;generalize hbs6:(b5++bI x.text)=b6 at *;have ai:Hid _:=hbs6;clear hbs6;go_wp2_with (at_builtin;refine Lib.wpList_append_own_string _ rfl _ _ 22 9 rfl w.heap.size 5 M underlying22 underlying9 hi0 E B D _ _ _ rfl z x.val rfl (by unfold maxLen;omega) (by omega) (by omega) ?_)
      intro v7 w7 ac S _;have Z:=J.kept z S;have B7:Below w.heap.size w w7:=oy V z S (by omega);have I7:By6 w7 w.heap.size v7 (b6++bI x.val):=By6.str rfl ac;clear g q1 q2 f S ac z J V aw I6;obtain⟨g,q1,q2⟩:=Z.cells;have f:=Z.lt;have aj:Hid (By6 _ _ _ _):=I7;have ae:Hid _:=B7;clear I7 Z B7;go_wp2;refine⟨⟨k+1,a8,by go_num,?_,by rw[HK.out],ae.out⟩,by simp[intOf];omega⟩;rw[ak.out,al.out];have h:=aj.out;rw[<- ai.out,<- ah.out,<- af.out]at h;simpa only [List.append_assoc] using h
  .have ao:k=l.length:=by omega
   subst ao;rw[Bk]at m;have CV:=Mi m;rw[show [80,71,(l.length:Int)]++eh ⟨#[]⟩ l=et l from rfl]at CV;clear hS m;go_wp2;go_ret;exact⟨rfl,j⟩
theorem au2 (x a b:Int) (w:World):Calls prog 34 #[.int .i64 x,.int .i64 a,.int .i64 b] w fun e w'=>e=.returned (.bool (decide (a<=x) && decide (x<=b)))/\w'=w:=by
 by_cases h:a<=x
 .go_enter func34,ntmps34
  go_wp2;go_ret;rw[decide_eq_true h];exact⟨rfl,rfl⟩
 .go_enter func34,ntmps34
  go_wp2;go_ret;rw[decide_eq_false (show ¬ a<=x by omega)];exact⟨rfl,rfl⟩
theorem ug {s:ByteArray} {a i:Nat}(h:a+i<s.size):hd (s.extract a s.size) i=hd s (a+i):=by
 unfold hd;rw[zl s bR h]
theorem Mu (s:ByteArray) (a:Nat):(s.extract a s.size).size=s.size-a:=fh s bR
theorem aw3 {s p:ByteArray} {a:Nat}(h:a+4+hd s (a+1)+hd s (a+2)+hd s (a+3)<=s.size) :
  ld p (s.extract a s.size)=⟨p.extract 0 (hd s a)++s.extract (a+4) (a+4+hd s (a+1)),s.extract (a+4+hd s (a+1)) (a+4+hd s (a+1)+hd s (a+2)),s.extract (a+4+hd s (a+1)+hd s (a+2)) (a+4+hd s (a+1)+hd s (a+2)+hd s (a+3))⟩ /\
   kp (s.extract a s.size)=s.extract (a+4+hd s (a+1)+hd s (a+2)+hd s (a+3)) s.size:=by
 have b:hd (s.extract a s.size) 0=hd s a:=ug (by omega);have c:hd (s.extract a s.size) 1=hd s (a+1):=ug (by omega);have d:hd (s.extract a s.size) 2=hd s (a+2):=ug (by omega);have e:hd (s.extract a s.size) 3=hd s (a+3):=ug (by omega);unfold ld kp;rw[b,c,d,e,Mu];generalize hd s (a+1)=k1 at *;generalize hd s (a+2)=k2 at *;generalize hd s (a+3)=k3 at *;rw[qo s bR (by omega),qo s bR (by omega),qo s bR (by omega),qo s bR (by omega)];have q1:a+(4+k1)=a+4+k1:=by omega
 have q2:a+(4+k1+k2)=a+4+k1+k2:=by omega
 have q3:a+(4+k1+k2+k3)=a+4+k1+k2+k3:=by omega
 have f:a+(s.size-a)=s.size:=by omega
 rw[q1,q2,q3,f];exact⟨rfl,rfl⟩
theorem b19 {s p:ByteArray} {a:Nat}(f:a<=s.size):o6 p (s.extract a s.size)=(decide (a+4<=s.size) && decide (hd s a<=p.size) && decide (a+4+hd s (a+1)+hd s (a+2)+hd s (a+3)<=s.size)):=by
 unfold o6;rw[Mu];by_cases h:a+4<=s.size
 .have b:hd (s.extract a s.size) 0=hd s a:=ug (by omega)
  have c:hd (s.extract a s.size) 1=hd s (a+1):=ug (by omega);have d:hd (s.extract a s.size) 2=hd s (a+2):=ug (by omega);have e:hd (s.extract a s.size) 3=hd s (a+3):=ug (by omega);rw[b,c,d,e];congr 1
  .congr 1
   rw[decide_eq_decide];omega
  .rw[decide_eq_decide];omega
 .rw[decide_eq_false h,decide_eq_false (show ¬ 4<=s.size-a by omega)]
  rfl
def b03 (W:World) (s:ByteArray) (v4 v5 v6 v7:Value) (wr:World):Prop :=
 ∃ (k a:Nat) (p:ByteArray) (l:List Rw),k<=hd s 2/\v7=.int .i64 (k:Int)/\v5=.int .i64 (a:Int)/\a<=s.size/\v6=.string p/\p.size<=510/\l.length=k/\Rws wr W.heap.size v4 l /\
  (rdF (hd s 2-k) p (s.extract a s.size)).map (l++·)=rdF (hd s 2) ⟨#[]⟩ (s.extract 3 s.size)/\Below W.heap.size W wr
theorem Fs (s:ByteArray){a:Nat}(i:Nat) (h:a+i<s.size) (u:World):(Instr.index 9 (.string s) (.int .i64 ((a:Int)+(i:Int)))).run prog u=.ok (.int .u8 (hd s (a+i):Int)) u:=by
 have:=d5 s (a+i) h u;rw[Int.natCast_add]at this;exact this
theorem m5 (s:ByteArray) (i j:Int) (A B:Nat) (h0:i=(A:Int)) (h1:j=(B:Int)) (h2:A<=B) (a:B<=s.size) (u:World):(Instr.slice 9 (.string s) (some (.int .i64 i)) (some (.int .i64 j)) none).run prog u=.ok (.string (s.extract A B)) u:=by
 subst h0;subst h1;rw[run_slice_string (h:=underlying9) (h0:=by omega) (h1:=by omega) (h2:=by omega)];rfl
theorem Ni:(prog.info? 37).map (fun i=>(i.zero,i.size,i.bytes))=some (some (.agg #[.string ⟨#[]⟩,.string ⟨#[]⟩,.string ⟨#[]⟩]),3,48):=by kernel_rfl
theorem Pg (s:ByteArray) (w:World) (hs:s.size<=1048576) :
  Calls prog 115 #[.string s] w fun e w'=>∃ v,e=.returned (.tuple #[v,.int .i64 (da s)])/\Rws w' w.heap.size v (an s)/\Below w.heap.size w w':=by
 have r:=au2 (s.size:Int) 3 300 w;have P:Hid (Rws w w.heap.size (.slice none 0 0) []):=World.ownsRow_nil _ _ _ _
 cases hlo:m9 s
 .have m:da s=1:=by unfold da;rw[hlo];rfl
  have n:an s=[]:=by unfold an;rw[hlo];rfl
  have a9:(decide ((3:Int)<=(s.size:Int)) && decide ((s.size:Int)<=300))=false:=by
   unfold m9 at hlo;rw[<- hlo];congr 1
   .rw[decide_eq_decide];omega
   .rw[decide_eq_decide];omega
  rw[a9]at r;rw[m,n];clear hlo m n a9;go_enter func115,ntmps115;go_wp2_with fail;refine r.mono ?_;rintro e f ⟨rfl,rfl⟩;clear r;go_wp2;go_ret2;exact⟨_,rfl,P.out,bX⟩
 .have a2:3<=s.size/\s.size<=300:=by simp[m9]at hlo;exact hlo
  obtain⟨h3,ag⟩:=a2;have O:(decide ((3:Int)<=(s.size:Int)) && decide ((s.size:Int)<=300))=true:=by rw[decide_eq_true (by omega),decide_eq_true (by omega)];rfl
  rw[O]at r;have V:∀ u:World,(Instr.index 9 (.string s) (.int .i64 0)).run prog u=.ok (.int .u8 (hd s 0:Int)) u:=d5 s 0 (by omega)
  have x1:∀ u:World,(Instr.index 9 (.string s) (.int .i64 1)).run prog u=.ok (.int .u8 (hd s 1:Int)) u:=d5 s 1 (by omega)
  cases hmk:lp s
  .have m:da s=2:=by unfold da;rw[hlo,hmk];rfl
   have n:an s=[]:=by unfold an;rw[hlo,hmk];rfl
   rw[m,n];by_cases a6:hd s 0=80
   .have ao:¬ hd s 1=71:=fun e=>by simp[lp,a6,e]at hmk
    have ay:¬ (hd s 1:Int)=71:=by omega
    rw[a6]at V;clear hlo m n O hmk;go_enter func115,ntmps115;go_wp2_with fail;refine r.mono ?_;rintro e f ⟨rfl,rfl⟩;clear r;go_wp2;go_ret2;exact⟨_,rfl,P.out,bX⟩
   .have az:¬ (hd s 0:Int)=80:=by omega
    clear hlo m n O hmk;go_enter func115,ntmps115;go_wp2_with fail;refine r.mono ?_;rintro e f ⟨rfl,rfl⟩;clear r;go_wp2;go_ret2;exact⟨_,rfl,P.out,bX⟩
  .have Z:hd s 0=80/\hd s 1=71:=by simp[lp]at hmk;exact hmk
   have m:da s=if (f4 s).isSome then 0 else 3:=by unfold da;rw[hlo,hmk];rfl
   have n:an s=(f4 s).getD []:=by unfold an;rw[hlo,hmk];rfl
   rw[Z.1]at V;rw[Z.2]at x1;have x2:∀ u:World,(Instr.index 9 (.string s) (.int .i64 2)).run prog u=.ok (.int .u8 (hd s 2:Int)) u:=d5 s 2 (by omega)
   have HC:Hid _:=m;have af:Hid _:=n;have x:Hid (rdF (hd s 2) ⟨#[]⟩ (s.extract 3 s.size)=none->da s=3/\an s=[]):=fun h=>by
    have e:f4 s=none:=by unfold f4;rw[h]
    rw[m,n,e];exact⟨rfl,rfl⟩
   have B:Hid (∀ l,rdF (hd s 2) ⟨#[]⟩ (s.extract 3 s.size)=some l->(kl s l=true->da s=0/\an s=l)/\(kl s l=false->da s=3/\an s=[])):=fun l h=>by
    have e:f4 s=if kl s l then some l else none:=by unfold f4;rw[h]
    refine⟨fun S=>?_,fun S=>?_⟩
    .rw[m,n,e,S];exact⟨rfl,rfl⟩
    .rw[m,n,e,S];exact⟨rfl,rfl⟩
   have l2:=jc s 2;have v2:IntKind.i64.wrap (hd s 2:Int)=(hd s 2:Int):=by rw[IntKind.wrap_i64];omega
   obtain⟨i0,hi0,am,ak,al⟩:=info_parts Ni;generalize da s=cd at *;generalize an s=rp at *;clear hlo O hmk Z m n HC af;go_enter func115,ntmps115;go_wp2_with fail;refine r.mono ?_;rintro e f ⟨rfl,rfl⟩;clear r;go_wp2;go_loopw [4,5,6,7] (fun v4 v5 v6 v7 wr=>b03 f s v4 v5 v6 v7 wr) (fun _ _ _ v7 _=>hd s 2-(intOf v7).toNat)
   case atStart=>exact⟨0,3,⟨#[]⟩,[],Nat.zero_le _,rfl,rfl,h3,rfl,Nat.zero_le _,rfl,P.out,by rw[Nat.sub_zero];cases rdF (hd s 2) ⟨#[]⟩ (s.extract 3 s.size) <;> rfl,bX⟩
   case round =>
    obtain⟨k,a,p,l,hk,rfl,rfl,ha,rfl,S,hl,Y,hF,hb⟩:=hrel;have H:Hid (Rws _ _ _ _):=Y;have q:Hid _:=hF;have c:Hid _:=hb;obtain⟨ra,T,rfl⟩:=bz Y;have a4:=hZ hl;have ar:l.length<=255:=by omega
    clear Y hF hb hl;by_cases ai:k<hd s 2
    .have aq:(k:Int)<(hd s 2:Int):=by omega
     have Q:hd s 2-k=(hd s 2-(k+1))+1:=by omega
     have o:=b19 (p:=p) ha;by_cases h4:a+4<=s.size
     .have y0:∀ u:World,(Instr.index 9 (.string s) (.int .i64 (a:Int))).run prog u=.ok (.int .u8 (hd s a:Int)) u:=d5 s a (by omega)
      have y1:∀ u:World,(Instr.index 9 (.string s) (.int .i64 ((a:Int)+1))).run prog u=.ok (.int .u8 (hd s (a+1):Int)) u:=Fs s 1 (by omega)
      have y2:∀ u:World,(Instr.index 9 (.string s) (.int .i64 ((a:Int)+2))).run prog u=.ok (.int .u8 (hd s (a+2):Int)) u:=Fs s 2 (by omega)
      have y3:∀ u:World,(Instr.index 9 (.string s) (.int .i64 ((a:Int)+3))).run prog u=.ok (.int .u8 (hd s (a+3):Int)) u:=Fs s 3 (by omega)
      have m0:=jc s a;have m1:=jc s (a+1);have m2:=jc s (a+2);have m3:=jc s (a+3);have u0:IntKind.i64.wrap (hd s a:Int)=(hd s a:Int):=by rw[IntKind.wrap_i64];omega
      have u1:IntKind.i64.wrap (hd s (a+1):Int)=(hd s (a+1):Int):=by rw[IntKind.wrap_i64];omega
      have u2:IntKind.i64.wrap (hd s (a+2):Int)=(hd s (a+2):Int):=by rw[IntKind.wrap_i64];omega
      have u3:IntKind.i64.wrap (hd s (a+3):Int)=(hd s (a+3):Int):=by rw[IntKind.wrap_i64];omega
      have n4:(a:Int)+4<=(s.size:Int):=by omega
      have M:=aw3 (s:=s) (p:=p) (a:=a);rw[decide_eq_true h4,Bool.true_and]at o;generalize hd s a=n0 at *;generalize hd s (a+1)=k1 at *;generalize hd s (a+2)=g at *;generalize hd s (a+3)=A at *;by_cases hn:n0<=p.size
      .have av:(n0:Int)<=(p.size:Int):=by omega
       rw[decide_eq_true hn,Bool.true_and]at o;by_cases R:a+4+k1+g+A<=s.size
       .have nD:(a:Int)+4+(k1:Int)+(g:Int)+(A:Int)<=(s.size:Int):=by omega
        obtain⟨aa,ab⟩:=M R;have a3:Hid ((rdF (hd s 2-(k+1)) (ld p (s.extract a s.size)).key (kp (s.extract a s.size))).map ((l++[ld p (s.extract a s.size)])++·)=rdF (hd s 2) ⟨#[]⟩ (s.extract 3 s.size)):=by
         show _=_
         rw[<- q.out,Q,rdF,o,decide_eq_true R,if_pos rfl]
         cases rdF (hd s 2-(k+1)) (ld p (s.extract a s.size)).key (kp (s.extract a s.size)) <;> simp
        rw[aa,ab]at a3;have aB:∀ u:World,(Instr.slice 9 (.string s) (some (.int .i64 ((a:Int)+4))) (some (.int .i64 ((a:Int)+4+(k1:Int)))) none).run prog u=.ok (.string (s.extract (a+4) (a+4+k1))) u:=fun u=>m5 s _ _ _ _ (by omega) (by omega) (by omega) (by omega) u
        have aC:∀ u:World,(Instr.slice 9 (.string s) (some (.int .i64 ((a:Int)+4+(k1:Int)))) (some (.int .i64 ((a:Int)+4+(k1:Int)+(g:Int)))) none).run prog u=.ok (.string (s.extract (a+4+k1) (a+4+k1+g))) u:=fun u=>m5 s _ _ _ _ (by omega) (by omega) (by omega) (by omega) u
        have aD:∀ u:World,(Instr.slice 9 (.string s) (some (.int .i64 ((a:Int)+4+(k1:Int)+(g:Int)))) (some (.int .i64 ((a:Int)+4+(k1:Int)+(g:Int)+(A:Int)))) none).run prog u=.ok (.string (s.extract (a+4+k1+g) (a+4+k1+g+A))) u:=fun u=>m5 s _ _ _ _ (by omega) (by omega) (by omega) (by omega) u
        have z1:(s.extract (a+4) (a+4+k1)).size=k1:=by rw[fh s (by omega)];omega
        have z0:(p.extract 0 n0).size=n0:=fh p hn;have J:(p.extract 0 n0++s.extract (a+4) (a+4+k1)).size<=510:=by rw[ByteArray.size_append,z0,z1];omega
        have ac:Hid _:=J;generalize s.extract (a+4) (a+4+k1)=e1 at *;generalize s.extract (a+4+k1) (a+4+k1+g)=e2 at *;generalize s.extract (a+4+k1+g) (a+4+k1+g+A)=e3 at *;have ap:¬ 9223372036854775807<n0+k1:=by omega
        have a5:∀ u:World,u.heap=(wr.alloc (.cells #[.string (p.extract 0 n0++e1),.string e2,.string e3] 37)).heap->u.ownsRow f.heap.size 37 3 (.slice ra l.length T) l.length (go l):=fun u hu=>by
         have:=H.out.below ((Below.refl wr.heap.size wr).alloc bR (.cells #[.string (p.extract 0 n0++e1),.string e2,.string e3] 37));unfold Rws World.ownsRow at this;unfold World.ownsRow;rw[hu];exact this
        have ax:=c.out.size;clear x B q o aa ab M J V x1;go_upto_region 20 with fail
        clear y0 y1 y2 y3 x2;go_cut [4] from 25 to 102 (fun v4 wx=>Rws wx f.heap.size v4 (l++[⟨p.extract 0 n0++e1,e2,e3⟩])/\Below f.heap.size f wx)
        case first =>
         go_region_law (refine step_append_lies _ rfl (.tmp 74) (.tmp 92) 32 rfl f.heap.size 37 i0 _ 3 48 underlying32 hi0 am ak al rfl (by decide) _ _ _ rfl (a5 _ rfl) ⟨wr.heap.size,0,none⟩ 1 1 [.string (p.extract 0 n0++e1),.string e2,.string e3] rfl rfl (C6 _ _ _ _ _ _ rfl) (fun z hz=>by simp at hz;rcases hz with rfl|rfl|rfl <;> rfl) (by omega) (by unfold maxLen;omega) (by omega) (by simp;omega) (wr.heap.size+1) (by simp) ?_;intro g9 a1 w9 aj ah _ _)
         all_goals
          have hK:Rws w9 f.heap.size (.slice (some ⟨g9,0,none⟩) (l.length+1) a1) (l++[⟨p.extract 0 n0++e1,e2,e3⟩])/\Below f.heap.size f w9:=⟨T8 aj,Below.grown (c.out.alloc c.out.size _) (Qv ah rfl rfl rfl rfl) (by simp;omega) (fun j hj=>(World.ownsRow.lt H.out j hj).1)⟩;go_wp2_with fail;go_meet
          case rel=>exact hK
        case rest =>
         obtain⟨a8,a7⟩:=hcut;have ae:Hid (Rws _ _ _ _):=a8;have G:=hZ a7;clear a8 a7 a5 H c;go_wp2;go_quiet (fail)
         go_wp2;exact⟨⟨k+1,a+4+k1+g+A,_,_,ai,by go_num,by go_num,R,rfl,ac.out,by rw[List.length_append,a4.out];rfl,ae.out.below ⟨rfl,rfl,rfl,bR,fun _ _=>rfl⟩,a3.out,⟨G.out.os,G.out.tape,G.out.output,G.out.size,G.out.block⟩⟩,by simp[intOf];omega⟩
       .have nD:¬ (a:Int)+4+(k1:Int)+(g:Int)+(A:Int)<=(s.size:Int):=by omega
        have d:=x.out (by rw[<- q.out,Q,rdF,o,decide_eq_false R];rfl);have b:Hid _:=d;clear x B q o d M;go_wp2;go_ret2;rw[b.out.1,b.out.2];exact⟨_,rfl,World.ownsRow_nil _ _ _ _,c.out⟩
      .have aA:¬ (n0:Int)<=(p.size:Int):=by omega
       have d:=x.out (by rw[<- q.out,Q,rdF,o,decide_eq_false hn];rfl);have b:Hid _:=d;clear x B q o d M;go_wp2;go_ret2;rw[b.out.1,b.out.2];exact⟨_,rfl,World.ownsRow_nil _ _ _ _,c.out⟩
     .have n4:¬ (a:Int)+4<=(s.size:Int):=by omega
      have d:=x.out (by rw[<- q.out,Q,rdF,o,decide_eq_false h4];rfl);have b:Hid _:=d;clear x B q o d;go_wp2;go_ret2;rw[b.out.1,b.out.2];exact⟨_,rfl,World.ownsRow_nil _ _ _ _,c.out⟩
    .have J:k=hd s 2:=by omega
     have a0:rdF (hd s 2) ⟨#[]⟩ (s.extract 3 s.size)=some l:=by rw[<- q.out,J,Nat.sub_self];simp[rdF]
     obtain⟨K,y⟩:=B.out l a0;have nk:¬ (k:Int)<(hd s 2:Int):=by omega
     have D:=ew H.out;have t:=Xd (cap:=T) D (by omega);clear a0 x B q a4 J V x1;by_cases F:l.length=0
     .have d:=y (by unfold kl;rw[F];rfl)
      have b:Hid _:=d;have e0:(l.length:Int)=0:=by omega
      clear K y d t D F;go_wp2;go_ret2;rw[b.out.1,b.out.2];exact⟨_,rfl,World.ownsRow_nil _ _ _ _,c.out⟩
     .have au:((l.length:Int) == 0)=false:=by rw[beq_eq_false_iff_ne];omega
      have N:(l.length == 0)=false:=by simpa using F
      cases hg:dm l
      .have d:=y (by unfold kl;rw[hg,Bool.and_false];rfl)
       have b:Hid _:=d;rw[hg]at t;clear K y d D F N hg;go_wp2_with fail;refine t.mono ?_;rintro e w2 ⟨rfl,i⟩;clear t;go_wp2;go_ret2;rw[b.out.1,b.out.2];exact⟨_,rfl,World.ownsRow_nil _ _ _ _,c.out.trans (i.mono c.out.size)⟩
      .have X:=ud hg
       have L:=fun (u:World) (hu:Below wr.heap.size wr u)=>rq (cap:=T) (D.below hu bR) X
       rw[hg]at t;by_cases C:byT (et l)=s
       .have hy:=K (by unfold kl;rw[N,hg,decide_eq_true C];rfl)
        have b:Hid _:=hy;rw[C]at L;clear K y hy D F N hg X C;go_wp2_with fail;refine t.mono ?_;rintro e w2 ⟨rfl,i⟩;have I:=L _ i;clear t L;go_wp2_with fail;refine I.mono ?_;rintro e U ⟨rfl,E⟩;have W:Hid (Below f.heap.size f U):=(c.out.trans (i.mono c.out.size)).trans (E.mono (c.out.trans (i.mono c.out.size)).size);have ad:Hid (Rws U f.heap.size (.slice ra l.length T) l):=(H.out.below i).below E;clear I i E;go_wp2;go_ret2;rw[b.out.1,b.out.2];exact⟨_,rfl,ad.out,W.out⟩
       .have d:=y (by unfold kl;rw[decide_eq_false C,Bool.and_false])
        have b:Hid _:=d;generalize byT (et l)=pq at *;have aw:=xp C;clear K y d D F N hg X C;go_wp2_with fail;refine t.mono ?_;rintro e w2 ⟨rfl,i⟩;have I:=L _ i;clear t L;go_wp2_with fail;refine I.mono ?_;rintro e U ⟨rfl,E⟩;have W:Hid (Below f.heap.size f U):=(c.out.trans (i.mono c.out.size)).trans (E.mono (c.out.trans (i.mono c.out.size)).size);clear I i E;go_wp2;go_ret2;rw[b.out.1,b.out.2];exact⟨_,rfl,World.ownsRow_nil _ _ _ _,W.out⟩
theorem Yb {w:World} {p q:Addr} {x y:Value} {ty:TypeId} {pv:Value} {a:List PanicEntry}(f:w.cell? p=some x) (b:w.frozen? p=false) (g:(w.setCell p (.slice none 0 0)).cell? q=some y) (d:(w.setCell p (.slice none 0 0)).frozen? q=false) :
  CallsD prog 171 #[.pointer (some p),.pointer (some q)] (.panicking ({ v:=.iface ty pv,recovered:=false }::a)) w fun e u' w' =>
   e=.returned (.tuple #[])/\u'=.panicking ({ v:=.iface ty pv,recovered:=true }::a)/\w'=(w.setCell p (.slice none 0 0)).setCell q (.bool false):=by
 refine callsD_of_wpS func171 rfl fun c₀ cs hu=>?_
 apply wpS_seq
 apply wpS_region
 simp[wpOpsS,go_sem,recoverD,hu,ntmps171,Exit.thenS]
 refine wpS_cond (t:=true) (by simp[Act.eval,Array.replicate]) ?_;simp only[if_true];apply wpS_region
 simp[wpOpsS,go_sem,f,b,g,d,bodyPostS,results,Tryz.results171]
theorem Gz {w:World} {p q:Addr} :
  CallsD prog 171 #[.pointer (some p),.pointer (some q)] .returning w fun e u' w'=>e=.returned (.tuple #[])/\u'=.returning/\w'=w:=by
 refine callsD_of_wpS func171 rfl fun c₀ cs hu=>?_
 apply wpS_seq
 apply wpS_region
 simp[wpOpsS,go_sem,recoverD,hu,ntmps171,Exit.thenS]
 refine wpS_cond (t:=false) (by simp[Act.eval,Array.replicate]) ?_;simp only[Bool.false_eq_true,if_false];refine wpS_of_wp (wp_skip ?_)
 cases c₀
 simp_all [bodyPostS,results,Tryz.results171]
theorem sk {b:Func} {p q:Tmp} {c d:TypeId}(h:b.results=#[.cell p c,.cell q d]) (tmps:Array Value) (P:Program) (w:World) :
  (results b tmps).run P w=((asAddr (tmps.getD p undef)).run P w).andThen fun a w₁=>((loadVar c a).run P w₁).andThen fun v w₂=>((asAddr (tmps.getD q undef)).run P w₂).andThen fun a' w₃=>((loadVar d a').run P w₃).andThen fun v' w₄=>.ok (.tuple #[v,v']) w₄:=by
 simp only[results,h];simp[Sem.run_bind,Result.andThen]
def RBx (w:World) (b:Nat) (v:Value):Prop:=w.heap[b]? = some (.cells #[v] 32)/\w.heap[b+1]? = some (.cells #[.bool false] 4)
theorem RBx.below {w w':World} {b:Nat} {v:Value}(h:RBx w b v) (a:Below w.heap.size w w'):RBx w' b v :=
 ⟨(a.block _ (Array.getElem?_eq_some_iff.1 h.1).1).trans h.1,(a.block _ (Array.getElem?_eq_some_iff.1 h.2).1).trans h.2⟩
theorem RBx.grown {w w':World} {b c:Nat} {v:Value}(h:RBx w b v) (a:w.grownBy w' (some c)) (h0:b≠c) (h1:b+1≠c):RBx w' b v :=
 ⟨(a.block _ (Array.getElem?_eq_some_iff.1 h.1).1 (fun e=>h0 (Option.some.inj e))).trans h.1,(a.block _ (Array.getElem?_eq_some_iff.1 h.2).1 (fun e=>h1 (Option.some.inj e))).trans h.2⟩
theorem RBx.facts {w:World} {b:Nat} {v:Value}(h:RBx w b v):w.cell? ⟨b,0,none⟩=some v/\w.frozen? ⟨b,0,none⟩=false/\b<w.heap.size/\w.cell? ⟨b+1,0,none⟩=some (.bool false)/\w.frozen? ⟨b+1,0,none⟩=false/\b+1<w.heap.size :=
 ⟨cell_of_row _ _ 0 _ _ _ h.1,by simp[World.frozen?,h.1],(Array.getElem?_eq_some_iff.1 h.1).1,cell_of_row _ _ 0 _ _ _ h.2,by simp[World.frozen?,h.2],(Array.getElem?_eq_some_iff.1 h.2).1⟩
theorem RBx.set {w:World} {b:Nat} {v:Value}(h:RBx w b v) (x:Value):RBx (w.setCell ⟨b,0,none⟩ x) b x:=by
 refine⟨?_,?_⟩
 .simp[World.setCell,Array.getElem?_modify,h.1]
 .simp[World.setCell,Array.getElem?_modify,h.2]
theorem RBx.two {w:World} {b:Nat} {v:Value}(h:RBx w b v) (x:Value) (y:Bool):((w.setCell ⟨b,0,none⟩ x).setCell ⟨b+1,0,none⟩ (.bool y)).cell? ⟨b,0,none⟩=some x/\((w.setCell ⟨b,0,none⟩ x).setCell ⟨b+1,0,none⟩ (.bool y)).cell? ⟨b+1,0,none⟩=some (.bool y):=by
 have a:=(h.set x).1;have c:=(h.set x).2;refine⟨cell_of_row _ _ 0 #[x] 32 (0,0) ?_,cell_of_row _ _ 0 #[.bool y] 4 (0,0) ?_⟩
 .have:((w.setCell ⟨b,0,none⟩ x).setCell ⟨b+1,0,none⟩ (.bool y)).heap[b]? = (w.setCell ⟨b,0,none⟩ x).heap[b]?:=(au _ (b+1) 0 _).block b (Array.getElem?_eq_some_iff.1 a).1 (fun e=>by have:=Option.some.inj e;omega)
  rw[this];exact a
 .generalize w.setCell ⟨b,0,none⟩ x=u at *
  simp[World.setCell,Array.getElem?_modify,c]
theorem a38 {w:World} {b B:Nat} {t:ByteArray} {v:Value} {l:List Rw}(a:PgR w b t) (h:Rws w B v l):v.ownBlock=none\/v.ownBlock≠some b:=by
 rcases h.2 with ⟨rfl,_⟩|⟨g,f,i,rfl,_,d,_⟩
 .exact .inl rfl
 .refine .inr fun c=>?_
  have e:g=b:=Option.some.inj c;subst e;unfold PgR at a;rw[d]at a;injection a with q1;injection q1 with _ q2 _;exact absurd q2 (by decide)
theorem Ok {w:World} {b B:Nat} {v v':Value} {l:List Rw}(f:RBx w b v') (h:Rws w B v l):v.ownBlock=none\/v.ownBlock≠some b:=by
 rcases h.2 with ⟨rfl,_⟩|⟨g,i,j,rfl,_,d,_⟩
 .exact .inl rfl
 .refine .inr fun c=>?_
  have e:g=b:=Option.some.inj c;subst e;have a:=f.1;rw[d]at a;injection a with q1;injection q1 with _ q2 _;exact absurd q2 (by decide)
theorem T2 {w:World} {b B:Nat} {v v':Value} {l:List Rw}(f:RBx w b v') (h:Rws w B v l):v.ownBlock=none\/v.ownBlock≠some (b+1):=by
 rcases h.2 with ⟨rfl,_⟩|⟨g,i,j,rfl,_,d,_⟩
 .exact .inl rfl
 .refine .inr fun c=>?_
  have e:g=b+1:=Option.some.inj c;subst e;have a:=f.2;rw[d]at a;injection a with q1;injection q1 with _ q2 _;exact absurd q2 (by decide)
theorem O5 {v:Value} {b:Nat}(h:v.ownBlock=none\/v.ownBlock≠some b):some b≠v.ownBlock:=by
 rcases h with h|h
 .rw[h];exact fun e=>by cases e
 .exact h.symm
theorem af3 {w w':World} {b B:Nat} {v v':Value} {l:List Rw}(a:RBx w b v') (h:Rws w B v l) (c:w.grownBy w' v.ownBlock):RBx w' b v' :=
 ⟨(c.block _ (Array.getElem?_eq_some_iff.1 a.1).1 (O5 (Ok a h))).trans a.1,(c.block _ (Array.getElem?_eq_some_iff.1 a.2).1 (O5 (T2 a h))).trans a.2⟩
theorem ae5 {w w':World} {b B:Nat} {t:ByteArray} {v:Value} {l:List Rw}(a:PgR w b t) (h:Rws w B v l) (c:w.grownBy w' v.ownBlock):PgR w' b t :=
 (c.block _ a.lt (O5 (a38 a h))).trans a
theorem Z1 {w w':World} {B:Nat} {ty:TypeId} {pv v:Value} {l:List Rw}(b:f7 w ty pv) (h:Rws w B v l) (c:w.grownBy w' v.ownBlock) (f:6<B):f7 w' ty pv :=
 (World.cell?_of_block (a:=⟨6,0,none⟩) (c.block _ b.lt (fun e=>by have d:B<=6:=(World.ownsRow.lt h _ e.symm).1;omega))).trans b
def aj9 (W:World) (b4:Nat) (s:ByteArray) (ty:TypeId) (pv:Value) (v6 v18:Value) (wr:World):Prop :=
 ∃ (k:Nat) (p t:ByteArray) (l:List Rw) (v:Value),k<=hd s 2/\v18=.int .i64 (k:Int)/\v6=.string p/\p.size<=510/\t.size<=300/\PgR wr b4 t/\RBx wr W.heap.size v/\Rws wr W.heap.size v l/\l.length=k /\
  (rdF (hd s 2-k) p t).map (l++·)=rdF (hd s 2) ⟨#[]⟩ (s.extract 3 s.size)/\f7 wr ty pv/\Below W.heap.size W wr
theorem Wx (s:ByteArray) (w:World) (h3:3<=s.size) (ae:s.size<=300){ty:TypeId} {pv:Value}(hg:f7 w ty pv) :
  Calls prog 147 #[.string s] w fun e w'=>∃ v,e=.returned (.tuple #[v,.bool (f4 s).isSome])/\Rws w' w.heap.size v ((f4 s).getD [])/\Below w.heap.size w w':=by
 have aS:∀ (fn:Fn) (first cap:Array Value) (w:World),(Instr.makeFunc fn first cap).run prog w=.ok (.func fn first cap) w:=fun _ _ _ _=>rfl
 obtain⟨L,Y⟩:∃ L,Hid (L=(w.alloc (.cells #[.slice none 0 0] 32)).alloc (.cells #[.bool false] 4)):=⟨_,rfl⟩
 have W:Hid (Below w.heap.size w L):=by rw[Y.out];exact (bY _).alloc (by simp) _
 have ac:Hid (RBx L w.heap.size (.slice none 0 0)):=by
  rw[Y.out];refine⟨?_,?_⟩
  .rw[Below.heap_alloc _ _ _ (by simp)];exact heap_alloc_new w _
  .have:=heap_alloc_new (w.alloc (.cells #[.slice none 0 0] 32)) (.cells #[.bool false] 4)
   rw[World.size_alloc]at this;exact this
 have CL:=Jm s L (by omega);have aa:Hid (f7 L ty pv):=(W.out.cell (p:=⟨6,0,none⟩) hg.lt).trans hg;have aq:=hg.lt;go_enter_defers func147,ntmps147;go_wp2_with fail;rw[<- Y.out];refine CL.mono ?_;rintro e a ⟨rfl,S⟩;clear CL Y;have B1:=W.out.trans (S.mono W.out.size);have X2:=(ac.out.below S).below ((Below.refl a.heap.size a).alloc bR (.cells #[.string s] 232));have G2:f7 (a.alloc (.cells #[.string s] 232)) ty pv:=f7.alloc ((S.cell (p:=⟨6,0,none⟩) aa.out.lt).trans aa.out) _;have P2:PgR (a.alloc (.cells #[.string s] 232)) a.heap.size s:=heap_alloc_new a _;have B2:=B1.alloc B1.size (.cells #[.string s] 232);have aC:=(ac.out.below S).facts;have T3:Calls prog 172 #[.pointer (some ⟨a.heap.size,0,none⟩),.int .i64 3] _ _:=ow (n:=3) P2 h3;have am:Hid (RBx _ _ _):=X2;have ag:Hid (f7 _ _ _):=G2
 have a6:Hid _:=B2;obtain⟨_,_,aQ,_,_,aR⟩:=aC;clear X2 G2 P2 B2 B1 S ac W aa;go_wp2_with fail;refine T3.mono ?_;rintro e w3 ⟨rfl,P3,g3⟩;have a1:w.heap.size≠a.heap.size/\w.heap.size+1≠a.heap.size:=by omega
 have X3:RBx w3 w.heap.size (.slice none 0 0):=am.out.grown g3 a1.1 a1.2;have G3:f7 w3 ty pv:=ag.out.grown g3 (by omega);have B3:Below w.heap.size w w3:=Below.grown a6.out g3 a6.out.size (fun j hj=>by cases hj;omega);have x2:∀ u:World,(Instr.index 9 (.string (s.extract 0 3)) (.int .i64 2)).run prog u=.ok (.int .u8 (hd s 2:Int)) u:=fun u=>by
  have h:=d5 (s.extract 0 3) 2 (by rw[fh s h3];omega) u;rw[zl s h3 (by omega)]at h;exact h
 have l2:=jc s 2;have v2:IntKind.i64.wrap (hd s 2:Int)=(hd s 2:Int):=by rw[IntKind.wrap_i64];omega
 have z3:(s.extract 3 s.size).size<=300:=by rw[Mu];omega
 have al:Hid (aj9 w a.heap.size s ty pv (.string ⟨#[]⟩) (.int .i64 0) w3):=⟨0,⟨#[]⟩,s.extract 3 s.size,[],.slice none 0 0,Nat.zero_le _,rfl,rfl,Nat.zero_le _,z3,P3,X3,World.ownsRow_nil _ _ _ _,rfl,by rw[Nat.sub_zero];cases rdF (hd s 2) ⟨#[]⟩ (s.extract 3 s.size) <;> rfl,G3,B3⟩;have X:Hid (rdF (hd s 2) ⟨#[]⟩ (s.extract 3 s.size)=none->(f4 s).isSome=false/\(f4 s).getD []=[]):=fun h=>by
  have e:f4 s=none:=by unfold f4;rw[h]
  rw[e];exact⟨rfl,rfl⟩
 have Z:Hid (∀ l,rdF (hd s 2) ⟨#[]⟩ (s.extract 3 s.size)=some l->(pbT l=s->(f4 s).isSome=true/\(f4 s).getD []=l)/\(¬ pbT l=s->(f4 s).isSome=false/\(f4 s).getD []=[])):=fun l h=>by
  have V:=av7 (l:=l) h3 ae;have e:f4 s=if kl s l then some l else none:=by unfold f4;rw[h]
  refine⟨fun hq=>?_,fun hq=>?_⟩
  .rw[decide_eq_true hq]at V
   rw[e,<- V];exact⟨rfl,rfl⟩
  .rw[decide_eq_false hq]at V
   rw[e,<- V];exact⟨rfl,rfl⟩
 obtain⟨i0,hi0,aM,aH,aL⟩:=info_parts Ni;clear T3 P3 g3 X3 G3 B3 am ag a6 a1 z3;go_wp2;go_loopw [6,18] (fun v6 v18 wr=>aj9 w a.heap.size s ty pv v6 v18 wr) (fun _ i _=>hd s 2-(intOf i).toNat)
 case atStart=>exact al.out
 case round =>
  clear al;obtain⟨k,p,t,l,v,hk,rfl,rfl,V,ht,hP,hX,hR,hl,hF,hG,hB⟩:=hrel;have aA:=hZ hl;have aP:l.length<=255:=by omega
  have K:Hid _:=hF;have m:Hid (RBx _ _ _):=hX;have C:Hid (Rws _ _ _ _):=hR;have Q:Hid (PgR _ _ _):=hP;have HG:Hid (f7 _ _ _):=hG;have b:Hid _:=hB;obtain⟨y,c,rfl⟩:=bz hR;clear hl hF hX hR hP hG hB;by_cases aD:k<hd s 2
  .have aO:(k:Int)<(hd s 2:Int):=by omega
   have a5:hd s 2-k=(hd s 2-(k+1))+1:=by omega
   cases hok:o6 p t
   .have TN:=Xi HG.out (by omega) Q.out hok (by omega) (by omega)
    have ar:=X.out (by rw[<- K.out,a5,rdF,hok];rfl);have d:Hid _:=ar;clear X Z K ar hok;go_wp2_with fail;refine TN.mono ?_;rintro e w5 ⟨rfl,r⟩;have D:=m.out.grown r (by omega) (by omega);have O:Below w.heap.size w w5:=Below.grown b.out r b.out.size (fun j hj=>by cases hj;omega);obtain⟨T,U,m0,c1,f1,m1⟩:=D.facts;have aB:Hid (Below w.heap.size w ((w5.setCell ⟨w.heap.size,0,none⟩ (.slice none 0 0)).setCell ⟨w.heap.size+1,0,none⟩ (.bool false))):=(O.setCell (p:=⟨w.heap.size,0,none⟩) bR _).setCell (p:=⟨w.heap.size+1,0,none⟩) (by show w.heap.size<=w.heap.size+1;omega) _;change bodyPostD prog Tryz.f147 _ (Exit.panic _) _ w5
    refine leaves_cons (f:=171) (args:=#[.pointer (some ⟨w.heap.size,0,none⟩),.pointer (some ⟨w.heap.size+1,0,none⟩)]) (by simp) (by simp[go_sem]) ?_;obtain⟨_,_,_,c2,f2,_⟩:=(D.set (.slice none 0 0)).facts;refine (Yb T U c2 f2).mono ?_;rintro e u' ax ⟨rfl,rfl,rfl⟩;obtain⟨d0,d1⟩:=D.two (.slice none 0 0) false;refine⟨.tuple #[.slice none 0 0,.bool false],?_,_,by rw[d.out.1],by rw[d.out.2];exact World.ownsRow_nil _ _ _ _,aB.out⟩;rw[sk rfl];go_simp
   .have TR:=Xj Q.out hok (by omega) (by omega)
    have aw:=Rq hok;have aG:=Rp hok;have q0:=jc t 0;have q1:=jc t 1;have ay:Hid ((rdF (hd s 2-(k+1)) (ld p t).key (kp t)).map ((l++[ld p t])++·)=rdF (hd s 2) ⟨#[]⟩ (s.extract 3 s.size)):=by
     show _=_
     rw[<- K.out,a5,rdF,hok,if_pos rfl]
     cases rdF (hd s 2-(k+1)) (ld p t).key (kp t) <;> simp
    have N:(ld p t).key.size<=510:=by rw[aw.1];omega
    have aK:(kp t).size<=300:=by omega
    generalize ld p t=x at *;generalize kp t=tz at *;unfold rwV at TR;have az:Hid _:=N;clear X Z K hok aw aG q0 q1 N;go_wp2_with fail;refine TR.mono ?_;rintro e w5 ⟨rfl,P5,r⟩;have D:=m.out.grown r (by omega) (by omega);have R5:Rws w5 w.heap.size (.slice y l.length c) l:=World.ownsRow.kept C.out r (a38 Q.out C.out);have G5:=HG.out.grown r (by omega);have O:Below w.heap.size w w5:=Below.grown b.out r b.out.size (fun j hj=>by cases hj;omega);have aI:=O.size;have aN:=P5.lt;clear TR r m C Q HG b;obtain⟨W7,g⟩:∃ W7,Hid (W7=(w5.alloc (.cells #[.string x.key,.string x.text,.string x.val] 37)).alloc (.cells #[.string x.key,.string x.text,.string x.val] 37)):=⟨_,rfl⟩
    have H:Below w5.heap.size w5 W7:=by rw[g.out];exact (bY _).alloc (by simp) _
    have aJ:W7.heap.size=w5.heap.size+2:=by rw[g.out];simp
    have a4:di W7 w5.heap.size x:=by rw[g.out];exact (ky w5 x).alloc _
    have ai:Hid (∀ j u,[Value.string x.key,.string x.text,.string x.val][j]? = some u->W7.cell? ((⟨w5.heap.size+1,0,none⟩:Addr).add j)=some u):=by rw[g.out];exact C6 _ _ _ _ _ _ (by simp)
    have X7:=D.below H;have R7:W7.ownsRow w.heap.size 37 3 (.slice y l.length c) l.length (go l):=R5.below H;have P7:=P5.below H;have G7:f7 W7 ty pv:=(H.cell (p:=⟨6,0,none⟩) G5.lt).trans G5;have B7:Below w.heap.size w W7:=O.trans (H.mono aI);obtain⟨T,U,m0,c1,f1,m1⟩:=D.facts;have an:Hid (RBx _ _ _):=X7;have G:Hid (World.ownsRow _ _ _ _ _ _ _):=R7;have aj:Hid (PgR _ _ _):=P7;have ah:Hid (f7 _ _ _):=G7;have a8:Hid _:=B7;have a9:Hid (di _ _ _):=a4;have ak:Hid (∀ j,(Value.slice y l.length c).ownBlock=some j->j<w5.heap.size):=fun j hj=>(World.ownsRow.lt R5 j hj).2
    have ao:∀ u:World,u=(w5.alloc (.cells #[.string x.key,.string x.text,.string x.val] 37)).alloc (.cells #[.string x.key,.string x.text,.string x.val] 37)->u.ownsRow w.heap.size 37 3 (.slice y l.length c) l.length (go l):=fun u hu=>by rw[hu,<- g.out];exact G.out
    have ap:∀ u:World,u=(w5.alloc (.cells #[.string x.key,.string x.text,.string x.val] 37)).alloc (.cells #[.string x.key,.string x.text,.string x.val] 37)->∀ j q,[Value.string x.key,.string x.text,.string x.val][j]? = some q->u.cell? ((⟨w5.heap.size+1,0,none⟩:Addr).add j)=some q:=fun u hu=>by rw[hu,<- g.out];exact ai.out
    clear P5 G5 O R5 D X7 R7 P7 G7 B7 a4 ai H;go_wp2_with (at_builtin;refine wpList_append_lies _ rfl _ _ 32 rfl w.heap.size 37 i0 _ 3 48 underlying32 hi0 aM aH aL rfl (by decide) _ _ _ rfl (ao _ rfl) ⟨w5.heap.size+1,0,none⟩ 1 1 [.string x.key,.string x.text,.string x.val] rfl rfl (ap _ rfl) (fun z hz=>by simp at hz;rcases hz with rfl|rfl|rfl <;> rfl) (by omega) (by unfold maxLen;omega) (by omega) (by simp;omega) (w5.heap.size+2) (by simp) ?_)
    intro F A w8 av B af aE;rw[<- g.out]at B;have X8:=af3 an.out G.out B;have P8:=ae5 aj.out G.out B;have G8:=Z1 ah.out G.out B aq;have ad:di w8 w5.heap.size x:=(B.block _ a9.out.lt (fun e=>by have:=ak.out _ e.symm;omega)).trans a9.out;have B8:Below w.heap.size w w8:=Below.grown a8.out B a8.out.size (fun j hj=>(World.ownsRow.lt G.out j hj).1);obtain⟨k0,n0,o0,k1,n1,o1⟩:=X8.facts;have y0:=ad.cells.1;have aU:=ad.lt;have R8:Rws w8 w.heap.size (.slice (some ⟨F,0,none⟩) (l.length+1) A) (l++[x]):=T8 av;have X9:=X8.set (.slice (some ⟨F,0,none⟩) (l.length+1) A);have P9:PgR (w8.setCell ⟨w.heap.size,0,none⟩ (.slice (some ⟨F,0,none⟩) (l.length+1) A)) a.heap.size tz:=((au w8 w.heap.size 0 _).block _ P8.lt (fun e=>by have:=Option.some.inj e;omega)).trans P8
    have G9:f7 (w8.setCell ⟨w.heap.size,0,none⟩ (.slice (some ⟨F,0,none⟩) (l.length+1) A)) ty pv:=G8.grown (au w8 w.heap.size 0 _) aq;have R9:Rws (w8.setCell ⟨w.heap.size,0,none⟩ (.slice (some ⟨F,0,none⟩) (l.length+1) A)) w.heap.size (.slice (some ⟨F,0,none⟩) (l.length+1) A) (l++[x]):=World.ownsRow.kept R8 (au w8 w.heap.size 0 _) (Ok X8 R8);have J:=B8.setCell (p:=⟨w.heap.size,0,none⟩) bR (.slice (some ⟨F,0,none⟩) (l.length+1) A);have HZ:Hid (PgR _ _ _/\RBx _ _ _/\Rws _ _ _ _/\f7 _ _ _/\Below _ _ _):=⟨P9,X9,R9,G9,J⟩;have aF:w.heap.size≠w5.heap.size:=by omega
    clear av B af X8 P8 G8 ad B8 R8 X9 P9 G9 R9 J an G aj ah a8 a9 ak ao ap g aJ;go_wp2;obtain⟨e1,e2,e3,e4,e5⟩:=HZ.out;exact⟨⟨k+1,x.key,tz,l++[x],_,aD,by go_num,rfl,az.out,aK,e1,e2,e3,by rw[List.length_append,aA.out];rfl,ay.out,e4,e5⟩,by simp[intOf];omega⟩
  .have N:k=hd s 2:=by omega
   have a0:rdF (hd s 2) ⟨#[]⟩ (s.extract 3 s.size)=some l:=by rw[<- K.out,N,Nat.sub_self];simp[rdF]
   obtain⟨a3,a2⟩:=Z.out l a0;have nk:¬ (k:Int)<(hd s 2:Int):=by omega
   have R:=Vh (cap:=c) (ew C.out) (by omega);obtain⟨T,U,m0,_⟩:=m.out.facts;clear a0 X Z K N Q HG;by_cases I:pbT l=s
   .have d:Hid _:=a3 I
    rw[I]at R;clear a3 a2 I;go_wp2_with fail;refine R.mono ?_;rintro e w6 ⟨rfl,o⟩;have E:=m.out.below o;have R6:=C.out.below o;have P:Below w.heap.size w w6:=b.out.trans (o.mono b.out.size);obtain⟨k0,n0,o0,k1,n1,o1⟩:=E.facts;have M:Hid (RBx _ _ _):=E;have ab:Hid (Rws _ _ _ _):=R6;have a7:Hid _:=P;clear R o E R6 P m C b T U m0;go_wp2;change bodyPostD prog Tryz.f147 _ Exit.ret _ _
    refine leaves_cons (f:=171) (args:=#[.pointer (some ⟨w.heap.size,0,none⟩),.pointer (some ⟨w.heap.size+1,0,none⟩)]) (by simp) (by simp[go_sem]) ?_;refine Gz.mono ?_;rintro e u' ax ⟨rfl,rfl,rfl⟩;obtain⟨d0,d1⟩:=M.out.two (.slice y l.length c) true;have R9:=World.ownsRow.kept (World.ownsRow.kept ab.out (au w6 w.heap.size 0 (.slice y l.length c)) (Ok M.out ab.out)) (au _ (w.heap.size+1) 0 (.bool true)) (T2 M.out ab.out);have J:=(a7.out.setCell (p:=⟨w.heap.size,0,none⟩) bR (.slice y l.length c)).setCell (p:=⟨w.heap.size+1,0,none⟩) (by show w.heap.size<=w.heap.size+1;omega) (.bool true);refine⟨.tuple #[.slice y l.length c,.bool true],?_,_,by rw[d.out.1],by rw[d.out.2];exact R9,J⟩;rw[sk rfl];go_simp
   .have d:Hid _:=a2 I
    generalize pbT l=pq at *;have aT:=xp I;clear a3 a2 I;go_wp2_with fail;refine R.mono ?_;rintro e w6 ⟨rfl,o⟩;have E:=m.out.below o;have P:Below w.heap.size w w6:=b.out.trans (o.mono b.out.size);obtain⟨k0,n0,o0,k1,n1,o1⟩:=E.facts;have M:Hid (RBx _ _ _):=E;have a7:Hid _:=P;clear R o E P m C b T U m0;go_wp2;change bodyPostD prog Tryz.f147 _ Exit.ret _ _
    refine leaves_cons (f:=171) (args:=#[.pointer (some ⟨w.heap.size,0,none⟩),.pointer (some ⟨w.heap.size+1,0,none⟩)]) (by simp) (by simp[go_sem]) ?_;refine Gz.mono ?_;rintro e u' ax ⟨rfl,rfl,rfl⟩;obtain⟨d0,d1⟩:=M.out.two (.slice none 0 0) false;have J:=(a7.out.setCell (p:=⟨w.heap.size,0,none⟩) bR (.slice none 0 0)).setCell (p:=⟨w.heap.size+1,0,none⟩) (by show w.heap.size<=w.heap.size+1;omega) (.bool false);refine⟨.tuple #[.slice none 0 0,.bool false],?_,_,by rw[d.out.1],by rw[d.out.2];exact World.ownsRow_nil _ _ _ _,J⟩;rw[sk rfl];go_simp
theorem ao4 {s:ByteArray}(h:3<=s.size):((s.extract 0 2).toList == [80,71])=lp s:=by
 have j:(s.extract 0 2).size=2:=fh s (by omega);have f:bAt (s.extract 0 2) 0=bAt s 0:=zl s (by omega) (by omega);have g:bAt (s.extract 0 2) 1=bAt s 1:=zl s (by omega) (by omega);have i:(s.extract 0 2).toList=[bAt s 0,bAt s 1]:=by
  rw[ByteArray.toList_eq];have l:(s.extract 0 2).data.toList.length=2:=by rw[Array.length_toList];exact j
  have b:=oc (s:=s.extract 0 2) (n:=0) (by omega);have d:=oc (s:=s.extract 0 2) (n:=1) (by omega);rw[List.drop_zero]at b;rw[b,d,f,g];congr 2
  apply List.drop_eq_nil_of_le
  omega
 rw[i];unfold lp hd;have k:((bAt s 0).toNat=80)=(bAt s 0=80):=propext ⟨fun e=>UInt8.toNat_inj.1 e,fun e=>by rw[e];rfl⟩;have q1:((bAt s 1).toNat=71)=(bAt s 1=71):=propext ⟨fun e=>UInt8.toNat_inj.1 e,fun e=>by rw[e];rfl⟩;simp only[k,q1];by_cases a:bAt s 0=80
 .by_cases c:bAt s 1=71
  .simp[a,c]
  .simp[a,c]
 .simp[a]
theorem W5 (s:ByteArray) (w:World) (h:3<=s.size) (d:s.size<=300):Calls prog 146 #[.string s,.string ⟨#[80,71]⟩] w fun e w'=>e=.returned (.bool (lp s))/\w'=w:=by
 have P:Calls prog 170 #[.string s,.string ⟨#[80,71]⟩] w fun e w'=>e=.returned (.bool (lp s))/\w'=w:=by
  have b:=ao4 h;have f:(⟨#[80,71]⟩:ByteArray).size=2:=rfl;have c:(2:Int)<=(s.size:Int):=by omega
  have a:Hid _:=b;go_enter func170,ntmps170;go_wp2;go_ret;have e:=a.out;exact⟨by rw[<- e];rfl,rfl⟩
 go_enter func146,ntmps146;go_wp2_with fail;refine P.mono ?_;rintro e g ⟨rfl,rfl⟩;clear P;go_wp2;go_ret;exact⟨rfl,rfl⟩
theorem Vi (s:ByteArray) (w:World) (t:s.size<=1048576){ty:TypeId} {pv:Value}(n:f7 w ty pv) :
  Calls prog 120 #[.string s] w fun e w'=>∃ v,e=.returned (.tuple #[v,.int .i64 (da s)])/\Rws w' w.heap.size v (an s)/\Below w.heap.size w w':=by
 have i:Hid (Rws w w.heap.size (.slice none 0 0) []):=World.ownsRow_nil _ _ _ _;by_cases g:s.size<=300
 .have m:(s.size:Int)<=300:=by omega
  by_cases h:3<=s.size
  .have o:(3:Int)<=(s.size:Int):=by omega
   have a:m9 s=true:=by unfold m9;rw[decide_eq_true h,decide_eq_true g];rfl
   have d:=W5 s w h g
   cases hmk:lp s
   .have b:da s=2:=by unfold da;rw[a,hmk];rfl
    have c:an s=[]:=by unfold an;rw[a,hmk];rfl
    rw[b,c];rw[hmk]at d;clear a b c hmk;go_enter func120,ntmps120;go_wp2_with fail;refine d.mono ?_;rintro e k ⟨rfl,rfl⟩;clear d;go_wp2;go_ret2;exact⟨_,rfl,i.out,bX⟩
   .have f:=Wx s w h g n
    have b:da s=if (f4 s).isSome then 0 else 3:=by unfold da;rw[a,hmk];rfl
    have c:an s=(f4 s).getD []:=by unfold an;rw[a,hmk];rfl
    rw[hmk]at d;rw[b,c];clear a b c hmk
    cases hrl:f4 s with
    | none =>
     rw[hrl]at f;clear hrl;go_enter func120,ntmps120;go_wp2_with fail;refine d.mono ?_;rintro e k ⟨rfl,rfl⟩;clear d;go_wp2_with fail;refine f.mono ?_;rintro e r ⟨q,rfl,_,j⟩;clear f;go_wp2;go_ret2;exact⟨_,rfl,World.ownsRow_nil _ _ _ _,j⟩
    | some l =>
     rw[hrl]at f;clear hrl;go_enter func120,ntmps120;go_wp2_with fail;refine d.mono ?_;rintro e k ⟨rfl,rfl⟩;clear d;go_wp2_with fail;refine f.mono ?_;rintro e r ⟨q,rfl,p,j⟩;clear f;go_wp2;go_ret2;exact⟨_,rfl,p,j⟩
  .have o:¬ (3:Int)<=(s.size:Int):=by omega
   have a:m9 s=false:=by unfold m9;rw[decide_eq_false h];rfl
   have b:da s=1:=by unfold da;rw[a];rfl
   have c:an s=[]:=by unfold an;rw[a];rfl
   rw[b,c];clear a b c;go_enter func120,ntmps120;go_wp2;go_ret2;exact⟨_,rfl,i.out,bX⟩
 .have m:¬ (s.size:Int)<=300:=by omega
  have a:m9 s=false:=by unfold m9;rw[decide_eq_false g,Bool.and_false]
  have b:da s=1:=by unfold da;rw[a];rfl
  have c:an s=[]:=by unfold an;rw[a];rfl
  rw[b,c];clear a b c;go_enter func120,ntmps120;go_wp2;go_ret2;exact⟨_,rfl,i.out,bX⟩
theorem js {w:World} {B:Nat} {v:Value} {ss:List ByteArray}(h:ak w B v ss):∃ a c,v=.slice a ss.length c/\∀ (k:Nat) (x:ByteArray),ss[k]? = some x->∃ g,a=some ⟨g,0,none⟩/\∀ u,Below w.heap.size w u->∀ (j:Nat) (y:ByteArray),ss[j]? = some y->u.cell? ⟨g,j,none⟩=some (.string y):=by
 rcases h.form with ⟨rfl,rfl⟩|⟨g,b,rfl,_,_⟩
 .exact⟨_,_,rfl,fun k x hx=>by simp at hx⟩
 .exact⟨_,_,rfl,fun k x hx=>⟨g,rfl,fun u hu j y hy=>(h.below hu).cell j y hy⟩⟩
theorem Rb {w:World} {g c n:Nat} {x:ByteArray}(j:0<n) (f:n<=1048576) (a:w.cell? ⟨g,(n-1)*3,none⟩=some (.string x)) :
  Calls prog 121 #[.slice (some ⟨g,0,none⟩) n c] w fun e w'=>e=.returned (.string x)/\w'=w:=by
 obtain⟨m,rfl⟩:∃ m,n=m+1:=⟨n-1,by omega⟩
 have b:m+1-1=m:=by omega
 rw[b]at a;have d:=ag a;have h:((m+1:Nat):Int)-1=(m:Int):=by omega
 have i:(m:Int)<((m+1:Nat):Int):=by omega
 go_enter func121,ntmps121;go_wp2;go_ret;exact⟨rfl,rfl⟩
def ax7 (w:World) (ss:List ByteArray) (vb i:Value) (wr:World):Prop :=
 ∃ (k hi:Nat) (vs:List Value),k<=ss.length/\i=.int .i64 (k:Int)/\bj wr w.heap.size hi vb (dp ss k) vs/\(∀ j s,j<k->ss[j]? = some s->da s=0)/\bkF (dp ss k) (ss.drop k)=ca ss/\Below w.heap.size w wr
theorem Kb:(prog.info? 9).map (fun i=>(i.zero,i.size,i.bytes))=some (some (.string ⟨#[]⟩),1,16):=by kernel_rfl
theorem ip {w:World} {B:Nat} {v:Value} {ss:List ByteArray}(h:ak w B v ss):∃ a c,v=.slice a ss.length c:=by
 rcases h.form with ⟨rfl,rfl⟩|⟨g,b,rfl,_,_⟩
 .exact⟨_,_,rfl⟩
 .exact⟨_,_,rfl⟩
def ax9 (w:World) (gs:List (List Rw)) (f:List Rw->ByteArray) (ok:List Rw->Bool) (v i:Value) (wr:World):Prop :=
 ∃ k:Nat,k<=gs.length/\i=.int .i64 (k:Int)/\ak wr w.heap.size v ((gs.take k).map f)/\(∀ (j:Nat) (g:List Rw),j<k->gs[j]? = some g->ok g=true)/\Below w.heap.size w wr
theorem Lc {gs:List (List Rw)} {k:Nat} {g:List Rw}(f:List Rw->ByteArray) (h:gs[k]? = some g):(gs.take (k+1)).map f=(gs.take k).map f++[f g]:=by
 rw[List.take_add_one,h];simp
end Go.Proofs.YtjbmgghehdemdaaGreatDoor
