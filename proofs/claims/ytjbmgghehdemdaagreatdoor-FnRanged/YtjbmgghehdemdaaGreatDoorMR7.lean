/- Dec -/
import Derived.Test.YtjbmgghehdemdaaGreatDoorMR0
import GoSem.Core.Utf8
import Derived.Test.YtjbmgghehdemdaaGreatDoorProg
import Derived.WalkKit
import Derived.WalkSpells
import Derived.WalkLawsBesides
namespace Go.Proofs.YtjbmgghehdemdaaGreatDoor
set_option maxRecDepth 100000
set_option maxHeartbeats 16000000
open _root_.Go.Proofs.Tryz
namespace Dec
def bt (s:ByteArray) (k:Nat):Nat:=(s.get! k).toNat
theorem bt_lt (s:ByteArray) (k:Nat):bt s k<256:=(s.get! k).toNat_lt
theorem bt_get (s:ByteArray) (k:Nat) (h:k<s.size):(s[k]'h).toNat=bt s k:=by
 unfold bt;simp[ByteArray.get!,getElem!_pos,h]
 rfl
def more (b:Nat):Int :=
 if b<128 then 0 else if b<194 then -1 else if b<224 then 1 else if b<240 then 2 else if b<245 then 3 else -1
def lo1 (b:Nat):Nat:=if b=224 then 160 else if b=240 then 144 else 128
def hi1 (b:Nat):Nat:=if b=237 then 159 else if b=244 then 143 else 191
def lo0 (b:Nat):Nat:=if more b<=0 then 0 else lo1 b
def hi0 (b:Nat):Nat:=if more b<=0 then 0 else hi1 b
theorem more_cases (b:Nat):more b=-1\/more b=0\/more b=1\/more b=2\/more b=3:=by
 unfold more;repeat' split
 all_goals omega
def goes (t:ByteArray) (m:Nat):Nat->Nat->Nat->Nat->Nat->Int × Nat × Bool
 | 0,_,_,_,r=>(r,m+1,true)
 | f+1,k,lo,hi,r=>if k<t.size/\lo<=bt t k/\bt t k<=hi then goes t m f (k+1) 128 191 (r*64+bt t k % 64) else (65533,k,false)
def first (b m:Nat):Nat:=match m with|0=>b|1=>b % 32|2=>b % 16|_=>b % 8
def one (t:ByteArray):Int × Nat × Bool :=
 if more (bt t 0)<0 then (65533,1,false)
 else goes t (more (bt t 0)).toNat (more (bt t 0)).toNat 1 (lo1 (bt t 0)) (hi1 (bt t 0)) (first (bt t 0) (more (bt t 0)).toNat)
theorem an3 (t:ByteArray) (m:Nat):∀ f k a hi r,f+k=m+1->1<=k->k<=t.size ->
  1<=(goes t m f k a hi r).2.1/\(goes t m f k a hi r).2.1<=t.size:=by
 intro f;induction f with
 | zero=>intro k a hi r d b c;simp[goes];omega
 | succ f ih =>
  intro k a hi r d b c;simp only[goes];split
  .exact ih (k+1) 128 191 _ (by omega) (by omega) (by omega)
  .exact⟨b,c⟩
theorem one_le (t:ByteArray) (h:0<t.size):1<=(one t).2.1/\(one t).2.1<=t.size:=by
 unfold one;split
 .simp;omega
 .exact an3 t _ _ _ _ _ _ rfl bR (by omega)
def decT:Nat->ByteArray->List Int × Nat
 | 0,_=>([],0)
 | f+1,t=>if 0<t.size then
   ((one t).1::(decT f (t.extract (one t).2.1 t.size)).1,(decT f (t.extract (one t).2.1 t.size)).2+(if (one t).2.2 then 0 else 1))
  else ([],0)
theorem decT_end (f:Nat) (t:ByteArray) (h:t.size=0):decT f t=([],0):=by
 cases f with
 | zero=>rfl
 | succ f=>simp[decT,h]
theorem size_extract (t:ByteArray) (n:Nat):(t.extract n t.size).size=t.size-n:=by
 simp[ByteArray.size_extract]
theorem bt_extract (t:ByteArray) (n k:Nat) (h:n+k<t.size):bt (t.extract n t.size) k=bt t (n+k):=by
 have a:k<(t.extract n t.size).size:=by rw[size_extract t n];omega
 rw[<- bt_get _ _ a,<- bt_get _ _ h];simp[ByteArray.getElem_extract]
theorem extract_extract (t:ByteArray) (n m:Nat):(t.extract n t.size).extract m (t.extract n t.size).size=t.extract (n+m) t.size:=by
 ext i
 .simp[ByteArray.size_extract];omega
 .simp[Nat.add_assoc]
theorem decT_len:∀ f t,t.size<=f->(decT f t).1.length<=t.size/\(decT f t).2<=t.size:=by
 intro f;induction f with
 | zero=>intro t _;simp[decT]
 | succ f ih =>
  intro t h;simp only[decT];split
  .rename_i h0
   have a:=one_le t h0;have b:=size_extract t (one t).2.1;have c:=ih (t.extract (one t).2.1 t.size) (by omega);simp only[List.length_cons];constructor
   .omega
   .split <;> omega
  .simp
theorem goes_yes {t:ByteArray} {m f k a hi r:Nat}(x:Nat) (b:bt t k=x) (h:k<t.size/\a<=x/\x<=hi) :
  goes t m (f+1) k a hi r=goes t m f (k+1) 128 191 (r*64+x % 64):=by
 subst b;simp only[goes,if_pos h]
theorem goes_no {t:ByteArray} {m f k a hi r:Nat}(h:¬ (k<t.size/\a<=bt t k/\bt t k<=hi)) :
  goes t m (f+1) k a hi r=(65533,k,false):=by
 simp only[goes,if_neg h]
theorem Vt (x0 a:Nat):(lo1 x0<=a/\a<=hi1 x0)↔(128<=a/\a<=191/\(x0=224->160<=a)/\(x0=240->144<=a)/\(x0=237->a<=159)/\(x0=244->a<=143)):=by
 unfold lo1 hi1;repeat' split
 all_goals omega
theorem decode_one (s:ByteArray) (p:Nat) (h:p<s.size) :
  ((Utf8.decode s p).1:Int)=(one (s.extract p s.size)).1 /\
  (Utf8.decode s p).2=(if (one (s.extract p s.size)).2.2 then (one (s.extract p s.size)).2.1 else 1):=by
 have y:=bt_extract s p 0 (by omega);have l:p+1<s.size->bt (s.extract p s.size) 1=bt s (p+1):=bt_extract s p 1;have r:p+2<s.size->bt (s.extract p s.size) 2=bt s (p+2):=bt_extract s p 2;have z:p+3<s.size->bt (s.extract p s.size) 3=bt s (p+3):=bt_extract s p 3;have B:=size_extract s p;generalize s.extract p s.size=t at *;have C:=bt_lt s (p+0);have D:=bt_lt s (p+1);have E:=bt_lt s (p+2);have F:=bt_lt s (p+3);have d:Utf8.decode s p=(if bt s (p+0)<0x80 then (bt s (p+0),1)
  else if (bt s (p+0) / 32 == 6 && (decide (p+1<s.size) && bt s (p+1) / 64 == 2))=true then
   if (bt s (p+0) % 32)*64+bt s (p+1) % 64 >= 0x80 then ((bt s (p+0) % 32)*64+bt s (p+1) % 64,2) else (Utf8.runeError,1)
  else if (bt s (p+0) / 16 == 14 && (decide (p+1<s.size) && bt s (p+1) / 64 == 2) && (decide (p+2<s.size) && bt s (p+2) / 64 == 2))=true then
   if (decide ((bt s (p+0) % 16)*4096+(bt s (p+1) % 64)*64+bt s (p+2) % 64 >= 0x800) && Utf8.valid (((bt s (p+0) % 16)*4096+(bt s (p+1) % 64)*64+bt s (p+2) % 64:Nat):Int))=true then ((bt s (p+0) % 16)*4096+(bt s (p+1) % 64)*64+bt s (p+2) % 64,3) else (Utf8.runeError,1)
  else if (bt s (p+0) / 8 == 30 && (decide (p+1<s.size) && bt s (p+1) / 64 == 2) && (decide (p+2<s.size) && bt s (p+2) / 64 == 2) && (decide (p+3<s.size) && bt s (p+3) / 64 == 2))=true then
   if (decide ((bt s (p+0) % 8)*262144+(bt s (p+1) % 64)*4096+(bt s (p+2) % 64)*64+bt s (p+3) % 64 >= 0x10000) && Utf8.valid (((bt s (p+0) % 8)*262144+(bt s (p+1) % 64)*4096+(bt s (p+2) % 64)*64+bt s (p+3) % 64:Nat):Int))=true then ((bt s (p+0) % 8)*262144+(bt s (p+1) % 64)*4096+(bt s (p+2) % 64)*64+bt s (p+3) % 64,4) else (Utf8.runeError,1)
  else (Utf8.runeError,1)):=rfl
 rw[d];clear d;unfold one;rw[y];clear y;generalize bt s (p+0)=x0 at *;generalize bt s (p+1)=x1 at *;generalize bt s (p+2)=x2 at *;generalize bt s (p+3)=x3 at *;by_cases k:x0<128
 .simp[more,k,goes,first]
 by_cases m:x0<194
 .have a:¬ (x0 / 16=14):=by omega
  have b:¬ (x0 / 8=30):=by omega
  simp only[more,if_neg k,if_pos m];simp[a,b,Utf8.runeError]
  split <;> (try split) <;> simp <;> omega
 by_cases o:x0<224
 .have a:x0 / 32=6:=by omega
  have i:¬ (x0 / 16=14):=by omega
  have j:¬ (x0 / 8=30):=by omega
  have A:=Vt x0 x1;simp only[more,if_neg k,if_neg m,if_pos o];rw[if_neg (show ¬ ((1:Int)<0) by decide)];simp only[show (1:Int).toNat=1 from rfl];by_cases c:p+1<s.size/\x1 / 64=2
  .have v:128<=x0 % 32*64+x1 % 64:=by omega
   rw[goes_yes x1 (l c.1) ⟨by omega,by omega⟩];simp[goes,first,a,c,v]
  .have f:¬ (1<t.size/\lo1 x0<=bt t 1/\bt t 1<=hi1 x0):=by
    intro ⟨n,g⟩;rw[l (by omega)]at g;omega
   rw[goes_no f];simp only[beq_iff_eq,Bool.and_eq_true,decide_eq_true_eq];rw[if_neg (fun q=>c ⟨q.2.1,q.2.2⟩),if_neg (fun q=>i q.1.1),if_neg (fun q=>j q.1.1.1)];simp[Utf8.runeError]
 by_cases u:x0<240
 .have a:¬ (x0 / 32=6):=by omega
  have i:x0 / 16=14:=by omega
  have j:¬ (x0 / 8=30):=by omega
  have A:=Vt x0 x1;simp only[more,if_neg k,if_neg m,if_neg o,if_pos u];rw[if_neg (show ¬ ((2:Int)<0) by decide)];simp only[show (2:Int).toNat=2 from rfl];simp only[beq_iff_eq,Bool.and_eq_true,decide_eq_true_eq];rw[if_neg (fun q=>a q.1)];by_cases c:p+1<s.size/\lo1 x0<=x1/\x1<=hi1 x0
  .rw[goes_yes x1 (l c.1) ⟨by omega,c.2⟩]
   by_cases e:p+2<s.size/\x2 / 64=2
   .have v:x0 % 16*4096+x1 % 64*64+x2 % 64 >= 2048/\Utf8.valid ((x0 % 16*4096+x1 % 64*64+x2 % 64:Nat):Int)=true:=by
     simp only[Utf8.valid,Bool.or_eq_true,Bool.and_eq_true,decide_eq_true_eq];omega
    rw[goes_yes x2 (r e.1) ⟨by omega,by omega,by omega⟩];rw[if_pos ⟨⟨i,c.1,by omega⟩,e⟩,if_pos v];simp[goes,first];omega
   .have f:¬ (1+1<t.size/\128<=bt t (1+1)/\bt t (1+1)<=191):=by
     intro ⟨n,g⟩;have:=r (by omega);rw[show 1+1=2 from rfl,this]at g;omega
    rw[goes_no f,if_neg (fun q=>e q.2),if_neg (fun q=>j q.1.1.1)];simp[Utf8.runeError]
  .have f:¬ (1<t.size/\lo1 x0<=bt t 1/\bt t 1<=hi1 x0):=by
    intro ⟨n,g⟩;rw[l (by omega)]at g;exact c ⟨by omega,g⟩
   rw[goes_no f];by_cases e:(x0 / 16=14/\p+1<s.size/\x1 / 64=2)/\p+2<s.size/\x2 / 64=2
   .have v:¬ (x0 % 16*4096+x1 % 64*64+x2 % 64 >= 2048/\Utf8.valid ((x0 % 16*4096+x1 % 64*64+x2 % 64:Nat):Int)=true):=by
     simp only[Utf8.valid,Bool.or_eq_true,Bool.and_eq_true,decide_eq_true_eq];omega
    rw[if_pos e,if_neg v];simp[Utf8.runeError]
   .rw[if_neg e,if_neg (fun q=>j q.1.1.1)]
    simp[Utf8.runeError]
 by_cases x:x0<245
 .have a:¬ (x0 / 32=6):=by omega
  have i:¬ (x0 / 16=14):=by omega
  have j:x0 / 8=30:=by omega
  have A:=Vt x0 x1;simp only[more,if_neg k,if_neg m,if_neg o,if_neg u,if_pos x];rw[if_neg (show ¬ ((3:Int)<0) by decide)];simp only[show (3:Int).toNat=3 from rfl];simp only[beq_iff_eq,Bool.and_eq_true,decide_eq_true_eq];rw[if_neg (fun q=>a q.1),if_neg (fun q=>i q.1.1)];by_cases c:p+1<s.size/\lo1 x0<=x1/\x1<=hi1 x0
  .rw[goes_yes x1 (l c.1) ⟨by omega,c.2⟩]
   by_cases e:p+2<s.size/\x2 / 64=2
   .rw[goes_yes x2 (r e.1) ⟨by omega,by omega,by omega⟩]
    by_cases w:p+3<s.size/\x3 / 64=2
    .have v:x0 % 8*262144+x1 % 64*4096+x2 % 64*64+x3 % 64 >= 65536/\Utf8.valid ((x0 % 8*262144+x1 % 64*4096+x2 % 64*64+x3 % 64:Nat):Int)=true:=by
      simp only[Utf8.valid,Bool.or_eq_true,Bool.and_eq_true,decide_eq_true_eq];omega
     rw[goes_yes x3 (z w.1) ⟨by omega,by omega,by omega⟩];rw[if_pos ⟨⟨⟨j,c.1,by omega⟩,e⟩,w⟩,if_pos v];simp[goes,first];omega
    .have f:¬ (1+1+1<t.size/\128<=bt t (1+1+1)/\bt t (1+1+1)<=191):=by
      intro ⟨n,g⟩;have:=z (by omega);rw[show 1+1+1=3 from rfl,this]at g;omega
     rw[goes_no f,if_neg (fun q=>w q.2)];simp[Utf8.runeError]
   .have f:¬ (1+1<t.size/\128<=bt t (1+1)/\bt t (1+1)<=191):=by
     intro ⟨n,g⟩;have:=r (by omega);rw[show 1+1=2 from rfl,this]at g;omega
    rw[goes_no f,if_neg (fun q=>e q.1.2)];simp[Utf8.runeError]
  .have f:¬ (1<t.size/\lo1 x0<=bt t 1/\bt t 1<=hi1 x0):=by
    intro ⟨n,g⟩;rw[l (by omega)]at g;exact c ⟨by omega,g⟩
   rw[goes_no f];by_cases e:((x0 / 8=30/\p+1<s.size/\x1 / 64=2)/\p+2<s.size/\x2 / 64=2)/\p+3<s.size/\x3 / 64=2
   .have v:¬ (x0 % 8*262144+x1 % 64*4096+x2 % 64*64+x3 % 64 >= 65536/\Utf8.valid ((x0 % 8*262144+x1 % 64*4096+x2 % 64*64+x3 % 64:Nat):Int)=true):=by
     simp only[Utf8.valid,Bool.or_eq_true,Bool.and_eq_true,decide_eq_true_eq];omega
    rw[if_pos e,if_neg v];simp[Utf8.runeError]
   .rw[if_neg e]
    simp[Utf8.runeError]
 .have a:¬ (x0 / 32=6):=by omega
  have i:¬ (x0 / 16=14):=by omega
  simp only[more,if_neg k,if_neg m,if_neg o,if_neg u,if_neg x];rw[if_pos (show ((-1:Int)<0) by decide)];simp only[beq_iff_eq,Bool.and_eq_true,decide_eq_true_eq];rw[if_neg (fun q=>a q.1),if_neg (fun q=>i q.1.1)];by_cases e:((x0 / 8=30/\p+1<s.size/\x1 / 64=2)/\p+2<s.size/\x2 / 64=2)/\p+3<s.size/\x3 / 64=2
  .have v:¬ (x0 % 8*262144+x1 % 64*4096+x2 % 64*64+x3 % 64 >= 65536/\Utf8.valid ((x0 % 8*262144+x1 % 64*4096+x2 % 64*64+x3 % 64:Nat):Int)=true):=by
    simp only[Utf8.valid,Bool.or_eq_true,Bool.and_eq_true,decide_eq_true_eq];omega
   rw[if_pos e,if_neg v];simp[Utf8.runeError]
  .rw[if_neg e]
   simp[Utf8.runeError]
theorem Za (t:ByteArray) (m:Nat):∀ f k a hi r,128<=a->hi<=191->1<=k->(∀ j,1<=j->j<k->128<=bt t j/\bt t j<=191) ->
  (goes t m f k a hi r).2.2=false->∀ j,1<=j->j<(goes t m f k a hi r).2.1->128<=bt t j/\bt t j<=191:=by
 intro f;induction f with
 | zero=>intro k a hi r _ _ _ _ h;simp[goes]at h
 | succ f ih =>
  intro k a hi r i g l b h;simp only[goes]at h ⊢;split
  .rename_i c
   rw[if_pos c]at h;refine ih (k+1) 128 191 _ (by omega) (by omega) (by omega) ?_ h;intro j d n;by_cases e:j=k
   .subst e;omega
   .exact b j d (by omega)
  .exact b
theorem one_cont (t:ByteArray) (h:(one t).2.2=false):∀ j,1<=j->j<(one t).2.1->128<=bt t j/\bt t j<=191:=by
 unfold one at h ⊢;split
 .intro j b a;simp at a;omega
 .rename_i c
  rw[if_neg c]at h;refine Za t _ _ _ _ _ _ ?_ ?_ bR (fun j b a=>by omega) h
  .unfold lo1;repeat' split
   all_goals omega
  .unfold hi1;repeat' split
   all_goals omega
theorem decode_cont (s:ByteArray) (p:Nat) (h:p<s.size) (h1:128<=bt s p) (h2:bt s p<=191):(Utf8.decode s p).2=1:=by
 rw[(decode_one s p h).2];have a:=bt_extract s p 0 (by omega);have m:more (bt (s.extract p s.size) 0)=-1:=by
  rw[a,Nat.add_zero];unfold more;repeat' split
  all_goals omega
 have o:one (s.extract p s.size)=(65533,1,false):=by unfold one;rw[m];rfl
 rw[o];rfl
end Dec
open Go.RowKit
theorem aw1 {a d b e c f:Int}(h1:a=d) (h2:b=e) (g:c=f) :
  Ending.returned (.tuple #[.int .i64 a,.int .u8 b,.int .u8 c])=.returned (.tuple #[.int .i64 d,.int .u8 e,.int .u8 f]):=by rw[h1,h2,g]
theorem N3 (b:Nat) (a:b<256) (w:World) :
  Calls prog 222 #[.int .u8 (b:Int)] w fun e w'=>e=.returned (.tuple #[.int .i64 (Dec.more b+1),.int .u8 (Dec.lo1 b:Int),.int .u8 (Dec.hi1 b:Int)])/\w'=w:=by
 go_enter func222,ntmps222;go_wp2;all_goals
  go_ret3
  refine⟨aw1 ?_ ?_ ?_,rfl⟩;all_goals
   try simp only[beq_iff_eq,beq_eq_false_iff_ne,ne_eq]at *
   simp only[Dec.more,Dec.lo1,Dec.hi1];repeat' split
   all_goals omega
theorem Nt (b:Nat) (a:b<256) (w:World) :
  Calls prog 125 #[.int .u8 (b:Int)] w fun e w'=>e=.returned (.tuple #[.int .i64 (Dec.more b),.int .u8 (Dec.lo0 b:Int),.int .u8 (Dec.hi0 b:Int)])/\w'=w:=by
 go_enter func125,ntmps125;go_wp2;all_goals
  go_ret3
  refine⟨aw1 ?_ ?_ ?_,rfl⟩;all_goals
   try simp only[beq_iff_eq,beq_eq_false_iff_ne,ne_eq]at *
   simp only[Dec.more,Dec.lo0,Dec.hi0,Dec.lo1,Dec.hi1];repeat' split
   all_goals omega
theorem at4 (b m:Nat) (a:b<256) (c:Dec.more b=(m:Int)) (w:World) :
  Calls prog 222 #[.int .u8 (b:Int)] w fun e w'=>e=.returned (.tuple #[.int .i64 ((m:Int)+1),.int .u8 (Dec.lo1 b:Int),.int .u8 (Dec.hi1 b:Int)])/\w'=w:=by
 have h:=N3 b a w;rw[c]at h;exact h
theorem an2 (b:Nat) (a:b<256) (c:Dec.more b=-1) (w:World) :
  Calls prog 222 #[.int .u8 (b:Int)] w fun e w'=>e=.returned (.tuple #[.int .i64 0,.int .u8 (Dec.lo1 b:Int),.int .u8 (Dec.hi1 b:Int)])/\w'=w:=by
 have h:=N3 b a w;rw[c]at h;exact h
theorem Hx {a c:Int} {b d:Bool}(h1:a=c) (h2:b=d) :
  Ending.returned (.tuple #[.int .i64 a,.bool b])=.returned (.tuple #[.int .i64 c,.bool d]):=by rw[h1,h2]
theorem yc (t:ByteArray) (m k a hi r:Nat) (o:Int × Nat × Bool) (h:Dec.goes t m (m+1-k) k a hi r=o) (e:k<=m+1)
  (d:¬ k<m+1\/¬ (k<t.size/\a<=Dec.bt t k/\Dec.bt t k<=hi)):(k:Int)=(o.2.1:Int)/\((k:Int) == (m:Int)+1)=o.2.2:=by
 by_cases c:k<m+1
 .have b:¬ (k<t.size/\a<=Dec.bt t k/\Dec.bt t k<=hi):=by rcases d with h|h;exact absurd c h;exact h
  rw[show m+1-k=(m-k)+1 by omega,Dec.goes_no b]at h;subst h;refine⟨rfl,?_⟩;simp;omega
 .have:k=m+1:=by omega
  subst this;rw[show m+1-(m+1)=0 by omega]at h;subst h;simp[Dec.goes]
theorem Hg (t:ByteArray) (m k a hi r:Nat) (o:Int × Nat × Bool) (h:Dec.goes t m (m+1-k) k a hi r=o) (c:k<m+1)
  (b:k<t.size/\a<=Dec.bt t k/\Dec.bt t k<=hi):Dec.goes t m (m+1-(k+1)) (k+1) 128 191 (r*64+Dec.bt t k % 64)=o:=by
 rw[show m+1-k=(m+1-(k+1))+1 by omega,Dec.goes_yes _ rfl b]at h;exact h
theorem Z6 (t:ByteArray) (h0:0<t.size) (ht:t.size<=maxLen) (w:World) :
  Calls prog 209 #[.string t] w fun e w'=>e=.returned (.tuple #[.int .i64 ((Dec.one t).2.1:Int),.bool (Dec.one t).2.2])/\w'=w:=by
 unfold maxLen at ht;have p:(t[0]'h0).toNat<256:=(t[0]'h0).toNat_lt;have l:=Dec.bt_get t 0 h0;rcases Dec.more_cases (t[0]'h0).toNat with b|b
 .have v:Dec.one t=(65533,1,false):=by unfold Dec.one;rw[<- l,b];rfl
  rw[v];clear v l;have F:=fun w=>an2 _ p b w
  clear b;go_enter func209,ntmps209;go_wp2_with (go_at_call 222;refine (F _).mono ?_;rintro e w' ⟨rfl,rfl⟩)
  go_loop [5,6,7] (fun _ _ k=>k=.int .i64 1) (fun _ _ _=>0)
  case atStart=>rfl
  case round =>
   subst hrel;go_wp2;go_ret2;exact⟨rfl,rfl⟩
 .obtain⟨m,E,b⟩:∃ m:Nat,m<=3/\Dec.more (t[0]'h0).toNat=(m:Int):=by
   rcases b with h|h|h|h
   .exact⟨0,by omega,h⟩
   .exact⟨1,by omega,h⟩
   .exact⟨2,by omega,h⟩
   .exact⟨3,by omega,h⟩
  have q:Hid (Dec.goes t m m 1 (Dec.lo1 (t[0]'h0).toNat) (Dec.hi1 (t[0]'h0).toNat) (Dec.first (t[0]'h0).toNat m)=Dec.one t):=by
   show _=_
   unfold Dec.one;rw[<- l,b,if_neg (by omega)];rfl
  have F:=fun w=>at4 _ m p b w
  clear b l;generalize Dec.one t=o at *;have y:Dec.lo1 (t[0]'h0).toNat<256:=by
    unfold Dec.lo1;repeat' split
    all_goals omega
  have x:Dec.hi1 (t[0]'h0).toNat<256:=by
    unfold Dec.hi1;repeat' split
    all_goals omega
  go_enter func209,ntmps209;go_wp2_with (go_at_call 222;refine (F _).mono ?_;rintro e w' ⟨rfl,rfl⟩)
  go_loop [5,6,7] (fun d c k=>∃ k' lo' hi' r:Nat,1<=k'/\k'<=m+1/\k'<=t.size/\lo'<256/\hi'<256/\k=.int .i64 k'/\d=.int .u8 lo'/\c=.int .u8 hi'/\Hid (Dec.goes t m (m+1-k') k' lo' hi' r=o)) (fun _ _ k=>m+1-(intOf k).toNat)
  case atStart=>exact⟨1,_,_,_,by omega,by omega,by omega,y,x,rfl,rfl,rfl,q⟩
  case round =>
   obtain⟨k,d,c,r,B,i,C,D,A,rfl,rfl,rfl,g⟩:=hrel;clear q F;by_cases s:k<m+1
   .by_cases f:k<t.size
    .have u:=Dec.bt_get t k f
     have n:=hZ u.symm;clear u;have z:(t[k]'f).toNat<256:=(t[k]'f).toNat_lt;by_cases G:(d:Int)<=((t[k]'f).toNat:Int)
     .by_cases H:((t[k]'f).toNat:Int)<=(c:Int)
      .have j:Hid _:=Hg t m k d c r o g.out s ⟨f,by rw[n.out];omega⟩
       go_wp2;go_round
       case rel=>exact⟨k+1,128,191,_,by omega,by omega,by omega,by omega,by omega,by go_num,rfl,rfl,j⟩
       case measure=>simp[intOf];omega
      .have j:=yc t m k d c r o g.out i (.inr (by rw[n.out];omega))
       have a:Hid _:=j;clear j;go_wp2;go_ret2;exact⟨Hx a.out.1 a.out.2,rfl⟩
     .have a:Hid _:=yc t m k d c r o g.out i (.inr (by rw[n.out];omega))
      go_wp2;go_ret2;exact⟨Hx a.out.1 a.out.2,rfl⟩
    .have a:Hid _:=yc t m k d c r o g.out i (.inr (by omega))
     go_wp2;go_ret2;exact⟨Hx a.out.1 a.out.2,rfl⟩
   .have a:Hid _:=yc t m k d c r o g.out i (.inl s)
    go_wp2;go_ret2;exact⟨Hx a.out.1 a.out.2,rfl⟩
theorem au8 (b m:Nat) (f:b<256) (h1:1<=m) (a:Dec.more b=(m:Int)) (w:World) :
  Calls prog 125 #[.int .u8 (b:Int)] w fun e w'=>e=.returned (.tuple #[.int .i64 (m:Int),.int .u8 (Dec.lo1 b:Int),.int .u8 (Dec.hi1 b:Int)])/\w'=w:=by
 have h:=Nt b f w;have c:Dec.lo0 b=Dec.lo1 b:=by unfold Dec.lo0;rw[a,if_neg (by omega)]
 have d:Dec.hi0 b=Dec.hi1 b:=by unfold Dec.hi0;rw[a,if_neg (by omega)]
 rw[a,c,d]at h;exact h
theorem Zs (b:Nat) (g:b<256) (c:Int) (i:c<=0) (a:Dec.more b=c) (w:World) :
  Calls prog 125 #[.int .u8 (b:Int)] w fun e w'=>e=.returned (.tuple #[.int .i64 c,.int .u8 0,.int .u8 0])/\w'=w:=by
 have h:=Nt b g w;have d:Dec.lo0 b=0:=by unfold Dec.lo0;rw[a,if_pos (by omega)]
 have f:Dec.hi0 b=0:=by unfold Dec.hi0;rw[a,if_pos (by omega)]
 rw[a,d,f]at h;exact h
theorem Dx {a d c f:Int} {b e:Bool}(h1:a=d) (h0:c=f) (h2:b=e) :
  Ending.returned (.tuple #[.int .i64 a,.int .i64 c,.bool b])=.returned (.tuple #[.int .i64 d,.int .i64 f,.bool e]):=by rw[h1,h2,h0]
theorem Ti (n:Int) (h0:0<=n) (h1:n<2 ^ 40):IntKind.i64.wrap n=n:=by
 have e:(2:Int) ^ 40=1099511627776:=by decide
 rw[e]at h1;rw[IntKind.wrap_i64];omega
theorem Dk (x i:Nat) (hi:i<=6) (a:x<256):bits .and .i64 (x:Int) (2 ^ i-1)=((x % 2 ^ i:Nat):Int):=by
 have e:(2:Int) ^ 40=1099511627776:=by decide
 rw[bits_mask .i64 40 (by decide) Ti i (by omega) (x:Int) (by omega) (by rw[e];omega)];simp
theorem Ui (x m:Nat) (a:x<256) (h1:1<=m) (b:m<=3):bits .and .i64 (x:Int) (63 / 2 ^ m)=(Dec.first x m:Int):=by
 match m,h1,b with
 | 1,_,_=>exact Dk x 5 (by omega) a
 | 2,_,_=>exact Dk x 4 (by omega) a
 | 3,_,_=>exact Dk x 3 (by omega) a
theorem b09 (r x:Nat) (f:r<262144) (d:x<256):bits .or .i64 ((r:Int)*64) (bits .and .i64 (x:Int) 63)=((r*64+x % 64:Nat):Int):=by
 have e:(2:Int) ^ 40=1099511627776:=by decide
 have a:(2:Int) ^ 6=64:=by decide
 have h:=Dk x 6 (by omega) d;have b:((2:Int) ^ 6-1)=63:=by decide
 have c:2 ^ 6=64:=by decide
 rw[b,c]at h;rw[h,bits_join .i64 40 (by decide) Ti 6 _ _ (by omega) (by rw[a];omega) (by rw[e];omega) (by omega) (by rw[a];omega) (by rw[e];omega)];omega
theorem av9 (k:Nat) (h:k<=3):64 ^ k<=262144:=by
 match k,h with
 | 0,_=>decide
 | 1,_=>decide
 | 2,_=>decide
 | 3,_=>decide
theorem aa1 (x m:Nat) (h1:1<=m) (a:m<=3):Dec.first x m<64:=by
 match m,h1,a with
 | 1,_,_=>show x % 32<64;omega
 | 2,_,_=>show x % 16<64;omega
 | 3,_,_=>show x % 8<64;omega
theorem ap3 (t:ByteArray) (m k b hi r:Nat) (o:Int × Nat × Bool) (h:Dec.goes t m (m+1-k) k b hi r=o)
  (a:k=m+1):(r:Int)=o.1/\((m:Int)+1)=(o.2.1:Int)/\true=o.2.2:=by
 subst a;rw[show m+1-(m+1)=0 by omega]at h;subst h;simp[Dec.goes]
theorem J2 (t:ByteArray) (m k a hi r:Nat) (o:Int × Nat × Bool) (h:Dec.goes t m (m+1-k) k a hi r=o) (c:k<m+1)
  (b:¬ (k<t.size/\a<=Dec.bt t k/\Dec.bt t k<=hi)):(65533:Int)=o.1/\(k:Int)=(o.2.1:Int)/\false=o.2.2:=by
 rw[show m+1-k=(m-k)+1 by omega,Dec.goes_no b]at h;subst h;exact⟨rfl,rfl,rfl⟩
theorem ap2 (t:ByteArray) (h0:0<t.size) (ht:t.size<=maxLen) (w:World) :
  Calls prog 90 #[.string t] w fun e w'=>e=.returned (.tuple #[.int .i64 (Dec.one t).1,.int .i64 ((Dec.one t).2.1:Int),.bool (Dec.one t).2.2])/\w'=w:=by
 unfold maxLen at ht;have n:(t[0]'h0).toNat<256:=(t[0]'h0).toNat_lt;have i:=Dec.bt_get t 0 h0;rcases Dec.more_cases (t[0]'h0).toNat with c|c|c
 .have l:Dec.one t=(65533,1,false):=by unfold Dec.one;rw[<- i,c];rfl
  rw[l];clear l i;have F:=fun w=>Zs _ n (-1) (by omega) c w
  clear c;go_enter func90,ntmps90;go_wp2_with (go_at_call 125;refine (F _).mono ?_;rintro e w' ⟨rfl,rfl⟩)
  go_ret3
  exact⟨rfl,rfl⟩
 .have l:Dec.one t=(((t[0]'h0).toNat:Int),1,true):=by unfold Dec.one;rw[<- i,c];rfl
  rw[l];clear l i;have F:=fun w=>Zs _ n 0 (by omega) c w
  clear c;go_enter func90,ntmps90;go_wp2_with (go_at_call 125;refine (F _).mono ?_;rintro e w' ⟨rfl,rfl⟩)
  go_ret3
  exact⟨rfl,rfl⟩
 .obtain⟨m,s,v,c⟩:∃ m:Nat,1<=m/\m<=3/\Dec.more (t[0]'h0).toNat=(m:Int):=by
   rcases c with h|h|h
   .exact⟨1,by omega,by omega,h⟩
   .exact⟨2,by omega,by omega,h⟩
   .exact⟨3,by omega,by omega,h⟩
  have y:Hid (Dec.goes t m m 1 (Dec.lo1 (t[0]'h0).toNat) (Dec.hi1 (t[0]'h0).toNat) (Dec.first (t[0]'h0).toNat m)=Dec.one t):=by
   show _=_
   unfold Dec.one;rw[<- i,c,if_neg (by omega)];rfl
  have F:=fun w=>au8 _ m n s c w
  clear c i;generalize Dec.one t=o at *;have D:Dec.lo1 (t[0]'h0).toNat<256:=by
    unfold Dec.lo1;repeat' split
    all_goals omega
  have B:Dec.hi1 (t[0]'h0).toNat<256:=by
    unfold Dec.hi1;repeat' split
    all_goals omega
  go_enter func90,ntmps90;go_wp2_with (go_at_call 125;refine (F _).mono ?_;rintro e w' ⟨rfl,rfl⟩)
  have x:Hid _:=Ui (t[0]'h0).toNat m n s v;have A:=aa1 (t[0]'h0).toNat m s v;go_loop [6,7,8,9] (fun g f a k=>∃ k' lo' hi' r:Nat,1<=k'/\k'<=m+1/\k'<=t.size/\lo'<256/\hi'<256/\r<64 ^ k'/\k=.int .i64 k'/\g=.int .u8 lo'/\f=.int .u8 hi'/\a=.int .i64 r/\Hid (Dec.goes t m (m+1-k') k' lo' hi' r=o)) (fun _ _ _ k=>m+1-(intOf k).toNat)
  case atStart=>exact⟨1,_,_,_,by omega,by omega,by omega,D,B,by omega,rfl,rfl,rfl,by rw[x.out],y⟩
  case round =>
   obtain⟨k,g,f,r,J,K,L,M,I,u,rfl,rfl,rfl,rfl,j⟩:=hrel;clear y F x A;by_cases q:k<m+1
   .have E:r<262144:=Nat.lt_of_lt_of_le u (av9 k (by omega))
    by_cases d:k<t.size
    .have p:Hid (Dec.bt t k=(t[k]'d).toNat):=(Dec.bt_get t k d).symm
     have z:(t[k]'d).toNat<256:=(t[k]'d).toNat_lt;have C:((k:Int) == (t.size:Int))=false:=by simp;omega
     by_cases N:(g:Int)<=((t[k]'d).toNat:Int)
     .by_cases O:((t[k]'d).toNat:Int)<=(f:Int)
      .have b:Hid _:=Hg t m k g f r o j.out q ⟨d,by rw[p.out];omega⟩
       have G:Hid _:=b09 r (t[k]'d).toNat E z;have H:=hZ u;clear u;go_wp2;go_round
       case rel =>
        (repeat apply Exists.intro)
        refine⟨?_,rfl,rfl,rfl,rfl,rfl,rfl,rfl⟩;exact⟨k+1,by omega,by omega,by omega,128,by omega,191,by omega,r*64+Dec.bt t k % 64,by have:=H.out;rw[Nat.pow_succ];omega,by go_num,rfl,rfl,by rw[p.out,G.out],b⟩
       case measure=>simp[intOf];omega
      .have b:Hid _:=J2 t m k g f r o j.out q (by rw[p.out];omega)
       go_wp2;go_ret3
       exact⟨Dx b.out.1 b.out.2.1 b.out.2.2,rfl⟩
     .have b:Hid _:=J2 t m k g f r o j.out q (by rw[p.out];omega)
      go_wp2;go_ret3
      exact⟨Dx b.out.1 b.out.2.1 b.out.2.2,rfl⟩
    .have b:Hid _:=J2 t m k g f r o j.out q (by omega)
     have C:((k:Int) == (t.size:Int))=true:=by simp;omega
     go_wp2;go_ret3
     exact⟨Dx b.out.1 b.out.2.1 b.out.2.2,rfl⟩
   .have b:Hid _:=ap3 t m k g f r o j.out (by omega)
    go_wp2;go_ret3
    exact⟨Dx b.out.1 b.out.2.1 b.out.2.2,rfl⟩
end Go.Proofs.YtjbmgghehdemdaaGreatDoor
