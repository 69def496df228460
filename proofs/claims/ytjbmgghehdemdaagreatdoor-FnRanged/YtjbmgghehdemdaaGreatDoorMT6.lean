/- Dec -/
import Derived.Test.YtjbmgghehdemdaaGreatDoorMT0
import GoSem.Core.Utf8
import Derived.Test.YtjbmgghehdemdaaGreatDoorProg
import Derived.WalkKit
import Derived.WalkSpells
import Derived.WalkLawsBesides
namespace Go.Proofs.YtjbmgghehdemdaaGreatDoor
set_option maxRecDepth 100000
set_option maxHeartbeats 16000000
open _root_.Go.Proofs.Tryz
namespace Dec
def bt (s:ByteArray) (k:Nat):Nat:=(s.get! k).toNat
theorem bt_lt (s:ByteArray) (k:Nat):bt s k<256:=(s.get! k).toNat_lt
theorem bt_get (s:ByteArray) (k:Nat) (h:k<s.size):(s[k]'h).toNat=bt s k:=by
 unfold bt;simp[ByteArray.get!,getElem!_pos,h]
 rfl
def more (b:Nat):Int :=
 if b<128 then 0 else if b<194 then -1 else if b<224 then 1 else if b<240 then 2 else if b<245 then 3 else -1
def lo1 (b:Nat):Nat:=if b=224 then 160 else if b=240 then 144 else 128
def hi1 (b:Nat):Nat:=if b=237 then 159 else if b=244 then 143 else 191
def lo0 (b:Nat):Nat:=if more b≤0 then 0 else lo1 b
def hi0 (b:Nat):Nat:=if more b≤0 then 0 else hi1 b
theorem more_cases (b:Nat):more b=-1∨more b=0∨more b=1∨more b=2∨more b=3:=by
 unfold more;repeat' split
 all_goals omega
def goes (t:ByteArray) (m:Nat):Nat→Nat→Nat→Nat→Nat→Int × Nat × Bool
 | 0,_,_,_,r=>(r,m+1,true)
 | f+1,k,lo,hi,r=>if k<t.size∧lo≤bt t k∧bt t k≤hi then goes t m f (k+1) 128 191 (r*64+bt t k % 64) else (65533,k,false)
def first (b m:Nat):Nat:=match m with|0=>b|1=>b % 32|2=>b % 16|_=>b % 8
def one (t:ByteArray):Int × Nat × Bool :=
 if more (bt t 0)<0 then (65533,1,false)
 else goes t (more (bt t 0)).toNat (more (bt t 0)).toNat 1 (lo1 (bt t 0)) (hi1 (bt t 0)) (first (bt t 0) (more (bt t 0)).toNat)
theorem an2 (t:ByteArray) (m:Nat):∀ f k lo hi r,f+k=m+1→1≤k→k≤t.size →
  1≤(goes t m f k lo hi r).2.1∧(goes t m f k lo hi r).2.1≤t.size:=by
 intro f;induction f with
 | zero=>intro k lo hi r h1 h2 h3;simp[goes];omega
 | succ f ih =>
  intro k lo hi r h1 h2 h3;simp only[goes];split
  .exact ih (k+1) 128 191 _ (by omega) (by omega) (by omega)
  .exact⟨h2,h3⟩
theorem one_le (t:ByteArray) (h:0<t.size):1≤(one t).2.1∧(one t).2.1≤t.size:=by
 unfold one;split
 .simp;omega
 .exact an2 t _ _ _ _ _ _ rfl bR (by omega)
def decT:Nat→ByteArray→List Int × Nat
 | 0,_=>([],0)
 | f+1,t=>if 0<t.size then
   ((one t).1::(decT f (t.extract (one t).2.1 t.size)).1,(decT f (t.extract (one t).2.1 t.size)).2+(if (one t).2.2 then 0 else 1))
  else ([],0)
theorem decT_end (f:Nat) (t:ByteArray) (h:t.size=0):decT f t=([],0):=by
 cases f with
 | zero=>rfl
 | succ f=>simp[decT,h]
theorem size_extract (t:ByteArray) (n:Nat):(t.extract n t.size).size=t.size-n:=by
 simp[ByteArray.size_extract]
theorem bt_extract (t:ByteArray) (n k:Nat) (h:n+k<t.size):bt (t.extract n t.size) k=bt t (n+k):=by
 have h1:k<(t.extract n t.size).size:=by rw[size_extract t n];omega
 rw[<- bt_get _ _ h1,<- bt_get _ _ h];simp[ByteArray.getElem_extract]
theorem extract_extract (t:ByteArray) (n m:Nat):(t.extract n t.size).extract m (t.extract n t.size).size=t.extract (n+m) t.size:=by
 ext i
 .simp[ByteArray.size_extract];omega
 .simp[Nat.add_assoc]
theorem decT_len:∀ f t,t.size≤f→(decT f t).1.length≤t.size∧(decT f t).2≤t.size:=by
 intro f;induction f with
 | zero=>intro t _;simp[decT]
 | succ f ih =>
  intro t h;simp only[decT];split
  .rename_i h0
   have h1:=one_le t h0;have h2:=size_extract t (one t).2.1;have h3:=ih (t.extract (one t).2.1 t.size) (by omega);simp only[List.length_cons];constructor
   .omega
   .split <;> omega
  .simp
theorem goes_yes {t:ByteArray} {m f k lo hi r:Nat}(x:Nat) (hx:bt t k=x) (h:k<t.size∧lo≤x∧x≤hi) :
  goes t m (f+1) k lo hi r=goes t m f (k+1) 128 191 (r*64+x % 64):=by
 subst hx;simp only[goes,if_pos h]
theorem goes_no {t:ByteArray} {m f k lo hi r:Nat}(h:¬ (k<t.size∧lo≤bt t k∧bt t k≤hi)) :
  goes t m (f+1) k lo hi r=(65533,k,false):=by
 simp only[goes,if_neg h]
theorem Vs (x0 x1:Nat):(lo1 x0≤x1∧x1≤hi1 x0)↔(128≤x1∧x1≤191∧(x0=224→160≤x1)∧(x0=240→144≤x1)∧(x0=237→x1≤159)∧(x0=244→x1≤143)):=by
 unfold lo1 hi1;repeat' split
 all_goals omega
theorem decode_one (s:ByteArray) (p:Nat) (h:p<s.size) :
  ((Utf8.decode s p).1:Int)=(one (s.extract p s.size)).1 ∧
  (Utf8.decode s p).2=(if (one (s.extract p s.size)).2.2 then (one (s.extract p s.size)).2.1 else 1):=by
 have e0:=bt_extract s p 0 (by omega);have e1:p+1<s.size→bt (s.extract p s.size) 1=bt s (p+1):=bt_extract s p 1;have e2:p+2<s.size→bt (s.extract p s.size) 2=bt s (p+2):=bt_extract s p 2;have e3:p+3<s.size→bt (s.extract p s.size) 3=bt s (p+3):=bt_extract s p 3;have a0:=size_extract s p;generalize s.extract p s.size=t at *;have b0:=bt_lt s (p+0);have b1:=bt_lt s (p+1);have b2:=bt_lt s (p+2);have b3:=bt_lt s (p+3);have d:Utf8.decode s p=(if bt s (p+0)<0x80 then (bt s (p+0),1)
  else if (bt s (p+0) / 32 == 6 && (decide (p+1<s.size) && bt s (p+1) / 64 == 2))=true then
   if (bt s (p+0) % 32)*64+bt s (p+1) % 64 ≥ 0x80 then ((bt s (p+0) % 32)*64+bt s (p+1) % 64,2) else (Utf8.runeError,1)
  else if (bt s (p+0) / 16 == 14 && (decide (p+1<s.size) && bt s (p+1) / 64 == 2) && (decide (p+2<s.size) && bt s (p+2) / 64 == 2))=true then
   if (decide ((bt s (p+0) % 16)*4096+(bt s (p+1) % 64)*64+bt s (p+2) % 64 ≥ 0x800) && Utf8.valid (((bt s (p+0) % 16)*4096+(bt s (p+1) % 64)*64+bt s (p+2) % 64:Nat):Int))=true then ((bt s (p+0) % 16)*4096+(bt s (p+1) % 64)*64+bt s (p+2) % 64,3) else (Utf8.runeError,1)
  else if (bt s (p+0) / 8 == 30 && (decide (p+1<s.size) && bt s (p+1) / 64 == 2) && (decide (p+2<s.size) && bt s (p+2) / 64 == 2) && (decide (p+3<s.size) && bt s (p+3) / 64 == 2))=true then
   if (decide ((bt s (p+0) % 8)*262144+(bt s (p+1) % 64)*4096+(bt s (p+2) % 64)*64+bt s (p+3) % 64 ≥ 0x10000) && Utf8.valid (((bt s (p+0) % 8)*262144+(bt s (p+1) % 64)*4096+(bt s (p+2) % 64)*64+bt s (p+3) % 64:Nat):Int))=true then ((bt s (p+0) % 8)*262144+(bt s (p+1) % 64)*4096+(bt s (p+2) % 64)*64+bt s (p+3) % 64,4) else (Utf8.runeError,1)
  else (Utf8.runeError,1)):=rfl
 rw[d];clear d;unfold one;rw[e0];clear e0;generalize bt s (p+0)=x0 at *;generalize bt s (p+1)=x1 at *;generalize bt s (p+2)=x2 at *;generalize bt s (p+3)=x3 at *;by_cases c0:x0<128
 .simp[more,c0,goes,first]
 by_cases c1:x0<194
 .have a:¬ (x0 / 16=14):=by omega
  have b:¬ (x0 / 8=30):=by omega
  simp only[more,if_neg c0,if_pos c1];simp[a,b,Utf8.runeError]
  split <;> (try split) <;> simp <;> omega
 by_cases c2:x0<224
 .have a:x0 / 32=6:=by omega
  have a2:¬ (x0 / 16=14):=by omega
  have a3:¬ (x0 / 8=30):=by omega
  have lh:=Vs x0 x1;simp only[more,if_neg c0,if_neg c1,if_pos c2];rw[if_neg (show ¬ ((1:Int)<0) by decide)];simp only[show (1:Int).toNat=1 from rfl];by_cases c:p+1<s.size∧x1 / 64=2
  .have v:128≤x0 % 32*64+x1 % 64:=by omega
   rw[goes_yes x1 (e1 c.1) ⟨by omega,by omega⟩];simp[goes,first,a,c,v]
  .have f:¬ (1<t.size∧lo1 x0≤bt t 1∧bt t 1≤hi1 x0):=by
    intro ⟨f1,f2⟩;rw[e1 (by omega)]at f2;omega
   rw[goes_no f];simp only[beq_iff_eq,Bool.and_eq_true,decide_eq_true_eq];rw[if_neg (fun q=>c ⟨q.2.1,q.2.2⟩),if_neg (fun q=>a2 q.1.1),if_neg (fun q=>a3 q.1.1.1)];simp[Utf8.runeError]
 by_cases c3:x0<240
 .have a:¬ (x0 / 32=6):=by omega
  have a2:x0 / 16=14:=by omega
  have a3:¬ (x0 / 8=30):=by omega
  have lh:=Vs x0 x1;simp only[more,if_neg c0,if_neg c1,if_neg c2,if_pos c3];rw[if_neg (show ¬ ((2:Int)<0) by decide)];simp only[show (2:Int).toNat=2 from rfl];simp only[beq_iff_eq,Bool.and_eq_true,decide_eq_true_eq];rw[if_neg (fun q=>a q.1)];by_cases c:p+1<s.size∧lo1 x0≤x1∧x1≤hi1 x0
  .rw[goes_yes x1 (e1 c.1) ⟨by omega,c.2⟩]
   by_cases cc:p+2<s.size∧x2 / 64=2
   .have v:x0 % 16*4096+x1 % 64*64+x2 % 64 ≥ 2048∧Utf8.valid ((x0 % 16*4096+x1 % 64*64+x2 % 64:Nat):Int)=true:=by
     simp only[Utf8.valid,Bool.or_eq_true,Bool.and_eq_true,decide_eq_true_eq];omega
    rw[goes_yes x2 (e2 cc.1) ⟨by omega,by omega,by omega⟩];rw[if_pos ⟨⟨a2,c.1,by omega⟩,cc⟩,if_pos v];simp[goes,first];omega
   .have f:¬ (1+1<t.size∧128≤bt t (1+1)∧bt t (1+1)≤191):=by
     intro ⟨f1,f2⟩;have:=e2 (by omega);rw[show 1+1=2 from rfl,this]at f2;omega
    rw[goes_no f,if_neg (fun q=>cc q.2),if_neg (fun q=>a3 q.1.1.1)];simp[Utf8.runeError]
  .have f:¬ (1<t.size∧lo1 x0≤bt t 1∧bt t 1≤hi1 x0):=by
    intro ⟨f1,f2⟩;rw[e1 (by omega)]at f2;exact c ⟨by omega,f2⟩
   rw[goes_no f];by_cases cc:(x0 / 16=14∧p+1<s.size∧x1 / 64=2)∧p+2<s.size∧x2 / 64=2
   .have v:¬ (x0 % 16*4096+x1 % 64*64+x2 % 64 ≥ 2048∧Utf8.valid ((x0 % 16*4096+x1 % 64*64+x2 % 64:Nat):Int)=true):=by
     simp only[Utf8.valid,Bool.or_eq_true,Bool.and_eq_true,decide_eq_true_eq];omega
    rw[if_pos cc,if_neg v];simp[Utf8.runeError]
   .rw[if_neg cc,if_neg (fun q=>a3 q.1.1.1)]
    simp[Utf8.runeError]
 by_cases c4:x0<245
 .have a:¬ (x0 / 32=6):=by omega
  have a2:¬ (x0 / 16=14):=by omega
  have a3:x0 / 8=30:=by omega
  have lh:=Vs x0 x1;simp only[more,if_neg c0,if_neg c1,if_neg c2,if_neg c3,if_pos c4];rw[if_neg (show ¬ ((3:Int)<0) by decide)];simp only[show (3:Int).toNat=3 from rfl];simp only[beq_iff_eq,Bool.and_eq_true,decide_eq_true_eq];rw[if_neg (fun q=>a q.1),if_neg (fun q=>a2 q.1.1)];by_cases c:p+1<s.size∧lo1 x0≤x1∧x1≤hi1 x0
  .rw[goes_yes x1 (e1 c.1) ⟨by omega,c.2⟩]
   by_cases cc:p+2<s.size∧x2 / 64=2
   .rw[goes_yes x2 (e2 cc.1) ⟨by omega,by omega,by omega⟩]
    by_cases c5:p+3<s.size∧x3 / 64=2
    .have v:x0 % 8*262144+x1 % 64*4096+x2 % 64*64+x3 % 64 ≥ 65536∧Utf8.valid ((x0 % 8*262144+x1 % 64*4096+x2 % 64*64+x3 % 64:Nat):Int)=true:=by
      simp only[Utf8.valid,Bool.or_eq_true,Bool.and_eq_true,decide_eq_true_eq];omega
     rw[goes_yes x3 (e3 c5.1) ⟨by omega,by omega,by omega⟩];rw[if_pos ⟨⟨⟨a3,c.1,by omega⟩,cc⟩,c5⟩,if_pos v];simp[goes,first];omega
    .have f:¬ (1+1+1<t.size∧128≤bt t (1+1+1)∧bt t (1+1+1)≤191):=by
      intro ⟨f1,f2⟩;have:=e3 (by omega);rw[show 1+1+1=3 from rfl,this]at f2;omega
     rw[goes_no f,if_neg (fun q=>c5 q.2)];simp[Utf8.runeError]
   .have f:¬ (1+1<t.size∧128≤bt t (1+1)∧bt t (1+1)≤191):=by
     intro ⟨f1,f2⟩;have:=e2 (by omega);rw[show 1+1=2 from rfl,this]at f2;omega
    rw[goes_no f,if_neg (fun q=>cc q.1.2)];simp[Utf8.runeError]
  .have f:¬ (1<t.size∧lo1 x0≤bt t 1∧bt t 1≤hi1 x0):=by
    intro ⟨f1,f2⟩;rw[e1 (by omega)]at f2;exact c ⟨by omega,f2⟩
   rw[goes_no f];by_cases cc:((x0 / 8=30∧p+1<s.size∧x1 / 64=2)∧p+2<s.size∧x2 / 64=2)∧p+3<s.size∧x3 / 64=2
   .have v:¬ (x0 % 8*262144+x1 % 64*4096+x2 % 64*64+x3 % 64 ≥ 65536∧Utf8.valid ((x0 % 8*262144+x1 % 64*4096+x2 % 64*64+x3 % 64:Nat):Int)=true):=by
     simp only[Utf8.valid,Bool.or_eq_true,Bool.and_eq_true,decide_eq_true_eq];omega
    rw[if_pos cc,if_neg v];simp[Utf8.runeError]
   .rw[if_neg cc]
    simp[Utf8.runeError]
 .have a:¬ (x0 / 32=6):=by omega
  have a2:¬ (x0 / 16=14):=by omega
  simp only[more,if_neg c0,if_neg c1,if_neg c2,if_neg c3,if_neg c4];rw[if_pos (show ((-1:Int)<0) by decide)];simp only[beq_iff_eq,Bool.and_eq_true,decide_eq_true_eq];rw[if_neg (fun q=>a q.1),if_neg (fun q=>a2 q.1.1)];by_cases cc:((x0 / 8=30∧p+1<s.size∧x1 / 64=2)∧p+2<s.size∧x2 / 64=2)∧p+3<s.size∧x3 / 64=2
  .have v:¬ (x0 % 8*262144+x1 % 64*4096+x2 % 64*64+x3 % 64 ≥ 65536∧Utf8.valid ((x0 % 8*262144+x1 % 64*4096+x2 % 64*64+x3 % 64:Nat):Int)=true):=by
    simp only[Utf8.valid,Bool.or_eq_true,Bool.and_eq_true,decide_eq_true_eq];omega
   rw[if_pos cc,if_neg v];simp[Utf8.runeError]
  .rw[if_neg cc]
   simp[Utf8.runeError]
theorem Z9 (t:ByteArray) (m:Nat):∀ f k lo hi r,128≤lo→hi≤191→1≤k→(∀ j,1≤j→j<k→128≤bt t j∧bt t j≤191) →
  (goes t m f k lo hi r).2.2=false→∀ j,1≤j→j<(goes t m f k lo hi r).2.1→128≤bt t j∧bt t j≤191:=by
 intro f;induction f with
 | zero=>intro k lo hi r _ _ _ _ h;simp[goes]at h
 | succ f ih =>
  intro k lo hi r a1 a0 hk hj h;simp only[goes]at h ⊢;split
  .rename_i c
   rw[if_pos c]at h;refine ih (k+1) 128 191 _ (by omega) (by omega) (by omega) ?_ h;intro j j1 j2;by_cases e:j=k
   .subst e;omega
   .exact hj j j1 (by omega)
  .exact hj
theorem one_cont (t:ByteArray) (h:(one t).2.2=false):∀ j,1≤j→j<(one t).2.1→128≤bt t j∧bt t j≤191:=by
 unfold one at h ⊢;split
 .intro j j1 j2;simp at j2;omega
 .rename_i c
  rw[if_neg c]at h;refine Z9 t _ _ _ _ _ _ ?_ ?_ bR (fun j j1 j2=>by omega) h
  .unfold lo1;repeat' split
   all_goals omega
  .unfold hi1;repeat' split
   all_goals omega
theorem decode_cont (s:ByteArray) (p:Nat) (h:p<s.size) (h1:128≤bt s p) (h2:bt s p≤191):(Utf8.decode s p).2=1:=by
 rw[(decode_one s p h).2];have e0:=bt_extract s p 0 (by omega);have m:more (bt (s.extract p s.size) 0)=-1:=by
  rw[e0,Nat.add_zero];unfold more;repeat' split
  all_goals omega
 have o:one (s.extract p s.size)=(65533,1,false):=by unfold one;rw[m];rfl
 rw[o];rfl
end Dec
open Go.RowKit
theorem aw0 {a a' b b' c c':Int}(h1:a=a') (h2:b=b') (h3:c=c') :
  Ending.returned (.tuple #[.int .i64 a,.int .u8 b,.int .u8 c])=.returned (.tuple #[.int .i64 a',.int .u8 b',.int .u8 c']):=by rw[h1,h2,h3]
theorem N3 (b:Nat) (hb:b<256) (w:World) :
  Calls prog 222 #[.int .u8 (b:Int)] w fun e w'=>e=.returned (.tuple #[.int .i64 (Dec.more b+1),.int .u8 (Dec.lo1 b:Int),.int .u8 (Dec.hi1 b:Int)])∧w'=w:=by
 go_enter func222,ntmps222;go_wp2;all_goals
  go_ret3
  refine⟨aw0 ?_ ?_ ?_,rfl⟩;all_goals
   try simp only[beq_iff_eq,beq_eq_false_iff_ne,ne_eq]at *
   simp only[Dec.more,Dec.lo1,Dec.hi1];repeat' split
   all_goals omega
theorem Nt (b:Nat) (hb:b<256) (w:World) :
  Calls prog 125 #[.int .u8 (b:Int)] w fun e w'=>e=.returned (.tuple #[.int .i64 (Dec.more b),.int .u8 (Dec.lo0 b:Int),.int .u8 (Dec.hi0 b:Int)])∧w'=w:=by
 go_enter func125,ntmps125;go_wp2;all_goals
  go_ret3
  refine⟨aw0 ?_ ?_ ?_,rfl⟩;all_goals
   try simp only[beq_iff_eq,beq_eq_false_iff_ne,ne_eq]at *
   simp only[Dec.more,Dec.lo0,Dec.hi0,Dec.lo1,Dec.hi1];repeat' split
   all_goals omega
theorem at3 (b m:Nat) (hb:b<256) (hm:Dec.more b=(m:Int)) (w:World) :
  Calls prog 222 #[.int .u8 (b:Int)] w fun e w'=>e=.returned (.tuple #[.int .i64 ((m:Int)+1),.int .u8 (Dec.lo1 b:Int),.int .u8 (Dec.hi1 b:Int)])∧w'=w:=by
 have h:=N3 b hb w;rw[hm]at h;exact h
theorem an1 (b:Nat) (hb:b<256) (hm:Dec.more b=-1) (w:World) :
  Calls prog 222 #[.int .u8 (b:Int)] w fun e w'=>e=.returned (.tuple #[.int .i64 0,.int .u8 (Dec.lo1 b:Int),.int .u8 (Dec.hi1 b:Int)])∧w'=w:=by
 have h:=N3 b hb w;rw[hm]at h;exact h
theorem Hx {a a':Int} {b b':Bool}(h1:a=a') (h2:b=b') :
  Ending.returned (.tuple #[.int .i64 a,.bool b])=.returned (.tuple #[.int .i64 a',.bool b']):=by rw[h1,h2]
theorem yc (t:ByteArray) (m k lo hi r:Nat) (o:Int × Nat × Bool) (h:Dec.goes t m (m+1-k) k lo hi r=o) (hk:k≤m+1)
  (hn:¬ k<m+1∨¬ (k<t.size∧lo≤Dec.bt t k∧Dec.bt t k≤hi)):(k:Int)=(o.2.1:Int)∧((k:Int) == (m:Int)+1)=o.2.2:=by
 by_cases c:k<m+1
 .have a0:¬ (k<t.size∧lo≤Dec.bt t k∧Dec.bt t k≤hi):=by rcases hn with h|h;exact absurd c h;exact h
  rw[show m+1-k=(m-k)+1 by omega,Dec.goes_no a0]at h;subst h;refine⟨rfl,?_⟩;simp;omega
 .have:k=m+1:=by omega
  subst this;rw[show m+1-(m+1)=0 by omega]at h;subst h;simp[Dec.goes]
theorem Hg (t:ByteArray) (m k lo hi r:Nat) (o:Int × Nat × Bool) (h:Dec.goes t m (m+1-k) k lo hi r=o) (hk:k<m+1)
  (hy:k<t.size∧lo≤Dec.bt t k∧Dec.bt t k≤hi):Dec.goes t m (m+1-(k+1)) (k+1) 128 191 (r*64+Dec.bt t k % 64)=o:=by
 rw[show m+1-k=(m+1-(k+1))+1 by omega,Dec.goes_yes _ rfl hy]at h;exact h
theorem Z5 (t:ByteArray) (h0:0<t.size) (ht:t.size≤maxLen) (w:World) :
  Calls prog 209 #[.string t] w fun e w'=>e=.returned (.tuple #[.int .i64 ((Dec.one t).2.1:Int),.bool (Dec.one t).2.2])∧w'=w:=by
 unfold maxLen at ht;have a2:(t[0]'h0).toNat<256:=(t[0]'h0).toNat_lt;have e0:=Dec.bt_get t 0 h0;rcases Dec.more_cases (t[0]'h0).toNat with hm|hm
 .have ho:Dec.one t=(65533,1,false):=by unfold Dec.one;rw[<- e0,hm];rfl
  rw[ho];clear ho e0;have F:=fun w=>an1 _ a2 hm w
  clear hm;go_enter func209,ntmps209;go_wp2_with (go_at_call 222;refine (F _).mono ?_;rintro e w' ⟨rfl,rfl⟩)
  go_loop [5,6,7] (fun _ _ k=>k=.int .i64 1) (fun _ _ _=>0)
  case atStart=>rfl
  case round =>
   subst hrel;go_wp2;go_ret2;exact⟨rfl,rfl⟩
 .obtain⟨m,hm3,hm⟩:∃ m:Nat,m≤3∧Dec.more (t[0]'h0).toNat=(m:Int):=by
   rcases hm with h|h|h|h
   .exact⟨0,by omega,h⟩
   .exact⟨1,by omega,h⟩
   .exact⟨2,by omega,h⟩
   .exact⟨3,by omega,h⟩
  have HO:Hid (Dec.goes t m m 1 (Dec.lo1 (t[0]'h0).toNat) (Dec.hi1 (t[0]'h0).toNat) (Dec.first (t[0]'h0).toNat m)=Dec.one t):=by
   show _=_
   unfold Dec.one;rw[<- e0,hm,if_neg (by omega)];rfl
  have F:=fun w=>at3 _ m a2 hm w
  clear hm e0;generalize Dec.one t=o at *;have a4:Dec.lo1 (t[0]'h0).toNat<256:=by
    unfold Dec.lo1;repeat' split
    all_goals omega
  have a3:Dec.hi1 (t[0]'h0).toNat<256:=by
    unfold Dec.hi1;repeat' split
    all_goals omega
  go_enter func209,ntmps209;go_wp2_with (go_at_call 222;refine (F _).mono ?_;rintro e w' ⟨rfl,rfl⟩)
  go_loop [5,6,7] (fun lo hi k=>∃ k' lo' hi' r:Nat,1≤k'∧k'≤m+1∧k'≤t.size∧lo'<256∧hi'<256∧k=.int .i64 k'∧lo=.int .u8 lo'∧hi=.int .u8 hi'∧Hid (Dec.goes t m (m+1-k') k' lo' hi' r=o)) (fun _ _ k=>m+1-(intOf k).toNat)
  case atStart=>exact⟨1,_,_,_,by omega,by omega,by omega,a4,a3,rfl,rfl,rfl,HO⟩
  case round =>
   obtain⟨k,lo,hi,r,a7,a1,a8,a9,a6,rfl,rfl,rfl,HG⟩:=hrel;clear HO F;by_cases c1:k<m+1
   .by_cases c2:k<t.size
    .have ek:=Dec.bt_get t k c2
     have EK:Hid (Dec.bt t k=(t[k]'c2).toNat):=ek.symm;clear ek;have a5:(t[k]'c2).toNat<256:=(t[k]'c2).toNat_lt;by_cases c3:(lo:Int)≤((t[k]'c2).toNat:Int)
     .by_cases c4:((t[k]'c2).toNat:Int)≤(hi:Int)
      .have HS:Hid _:=Hg t m k lo hi r o HG.out c1 ⟨c2,by rw[EK.out];omega⟩
       go_wp2;go_round
       case rel=>exact⟨k+1,128,191,_,by omega,by omega,by omega,by omega,by omega,by go_num,rfl,rfl,HS⟩
       case measure=>simp[intOf];omega
      .have HS:=yc t m k lo hi r o HG.out a1 (.inr (by rw[EK.out];omega))
       have a0:Hid _:=HS;clear HS;go_wp2;go_ret2;exact⟨Hx a0.out.1 a0.out.2,rfl⟩
     .have a0:Hid _:=yc t m k lo hi r o HG.out a1 (.inr (by rw[EK.out];omega))
      go_wp2;go_ret2;exact⟨Hx a0.out.1 a0.out.2,rfl⟩
    .have a0:Hid _:=yc t m k lo hi r o HG.out a1 (.inr (by omega))
     go_wp2;go_ret2;exact⟨Hx a0.out.1 a0.out.2,rfl⟩
   .have a0:Hid _:=yc t m k lo hi r o HG.out a1 (.inl c1)
    go_wp2;go_ret2;exact⟨Hx a0.out.1 a0.out.2,rfl⟩
theorem au7 (b m:Nat) (hb:b<256) (h1:1≤m) (hm:Dec.more b=(m:Int)) (w:World) :
  Calls prog 125 #[.int .u8 (b:Int)] w fun e w'=>e=.returned (.tuple #[.int .i64 (m:Int),.int .u8 (Dec.lo1 b:Int),.int .u8 (Dec.hi1 b:Int)])∧w'=w:=by
 have h:=Nt b hb w;have e1:Dec.lo0 b=Dec.lo1 b:=by unfold Dec.lo0;rw[hm,if_neg (by omega)]
 have e2:Dec.hi0 b=Dec.hi1 b:=by unfold Dec.hi0;rw[hm,if_neg (by omega)]
 rw[hm,e1,e2]at h;exact h
theorem Zr (b:Nat) (hb:b<256) (c:Int) (hc:c≤0) (hm:Dec.more b=c) (w:World) :
  Calls prog 125 #[.int .u8 (b:Int)] w fun e w'=>e=.returned (.tuple #[.int .i64 c,.int .u8 0,.int .u8 0])∧w'=w:=by
 have h:=Nt b hb w;have e1:Dec.lo0 b=0:=by unfold Dec.lo0;rw[hm,if_pos (by omega)]
 have e2:Dec.hi0 b=0:=by unfold Dec.hi0;rw[hm,if_pos (by omega)]
 rw[hm,e1,e2]at h;exact h
theorem Dx {a a' c c':Int} {b b':Bool}(h1:a=a') (h0:c=c') (h2:b=b') :
  Ending.returned (.tuple #[.int .i64 a,.int .i64 c,.bool b])=.returned (.tuple #[.int .i64 a',.int .i64 c',.bool b']):=by rw[h1,h2,h0]
theorem Ti (n:Int) (h0:0≤n) (h1:n<2 ^ 40):IntKind.i64.wrap n=n:=by
 have e:(2:Int) ^ 40=1099511627776:=by decide
 rw[e]at h1;rw[IntKind.wrap_i64];omega
theorem Dk (x i:Nat) (hi:i≤6) (hx:x<256):bits .and .i64 (x:Int) (2 ^ i-1)=((x % 2 ^ i:Nat):Int):=by
 have e:(2:Int) ^ 40=1099511627776:=by decide
 rw[bits_mask .i64 40 (by decide) Ti i (by omega) (x:Int) (by omega) (by rw[e];omega)];simp
theorem Ui (x m:Nat) (hx:x<256) (h1:1≤m) (h3:m≤3):bits .and .i64 (x:Int) (63 / 2 ^ m)=(Dec.first x m:Int):=by
 match m,h1,h3 with
 | 1,_,_=>exact Dk x 5 (by omega) hx
 | 2,_,_=>exact Dk x 4 (by omega) hx
 | 3,_,_=>exact Dk x 3 (by omega) hx
theorem b08 (r x:Nat) (hr:r<262144) (hx:x<256):bits .or .i64 ((r:Int)*64) (bits .and .i64 (x:Int) 63)=((r*64+x % 64:Nat):Int):=by
 have e:(2:Int) ^ 40=1099511627776:=by decide
 have e6:(2:Int) ^ 6=64:=by decide
 have h:=Dk x 6 (by omega) hx;have a0:((2:Int) ^ 6-1)=63:=by decide
 have a1:2 ^ 6=64:=by decide
 rw[a0,a1]at h;rw[h,bits_join .i64 40 (by decide) Ti 6 _ _ (by omega) (by rw[e6];omega) (by rw[e];omega) (by omega) (by rw[e6];omega) (by rw[e];omega)];omega
theorem av8 (k:Nat) (h:k≤3):64 ^ k≤262144:=by
 match k,h with
 | 0,_=>decide
 | 1,_=>decide
 | 2,_=>decide
 | 3,_=>decide
theorem aa0 (x m:Nat) (h1:1≤m) (h3:m≤3):Dec.first x m<64:=by
 match m,h1,h3 with
 | 1,_,_=>show x % 32<64;omega
 | 2,_,_=>show x % 16<64;omega
 | 3,_,_=>show x % 8<64;omega
theorem ap2 (t:ByteArray) (m k lo hi r:Nat) (o:Int × Nat × Bool) (h:Dec.goes t m (m+1-k) k lo hi r=o)
  (hk:k=m+1):(r:Int)=o.1∧((m:Int)+1)=(o.2.1:Int)∧true=o.2.2:=by
 subst hk;rw[show m+1-(m+1)=0 by omega]at h;subst h;simp[Dec.goes]
theorem J2 (t:ByteArray) (m k lo hi r:Nat) (o:Int × Nat × Bool) (h:Dec.goes t m (m+1-k) k lo hi r=o) (hk:k<m+1)
  (hn:¬ (k<t.size∧lo≤Dec.bt t k∧Dec.bt t k≤hi)):(65533:Int)=o.1∧(k:Int)=(o.2.1:Int)∧false=o.2.2:=by
 rw[show m+1-k=(m-k)+1 by omega,Dec.goes_no hn]at h;subst h;exact⟨rfl,rfl,rfl⟩
theorem ap1 (t:ByteArray) (h0:0<t.size) (ht:t.size≤maxLen) (w:World) :
  Calls prog 90 #[.string t] w fun e w'=>e=.returned (.tuple #[.int .i64 (Dec.one t).1,.int .i64 ((Dec.one t).2.1:Int),.bool (Dec.one t).2.2])∧w'=w:=by
 unfold maxLen at ht;have a0:(t[0]'h0).toNat<256:=(t[0]'h0).toNat_lt;have e0:=Dec.bt_get t 0 h0;rcases Dec.more_cases (t[0]'h0).toNat with hm|hm|hm
 .have ho:Dec.one t=(65533,1,false):=by unfold Dec.one;rw[<- e0,hm];rfl
  rw[ho];clear ho e0;have F:=fun w=>Zr _ a0 (-1) (by omega) hm w
  clear hm;go_enter func90,ntmps90;go_wp2_with (go_at_call 125;refine (F _).mono ?_;rintro e w' ⟨rfl,rfl⟩)
  go_ret3
  exact⟨rfl,rfl⟩
 .have ho:Dec.one t=(((t[0]'h0).toNat:Int),1,true):=by unfold Dec.one;rw[<- e0,hm];rfl
  rw[ho];clear ho e0;have F:=fun w=>Zr _ a0 0 (by omega) hm w
  clear hm;go_enter func90,ntmps90;go_wp2_with (go_at_call 125;refine (F _).mono ?_;rintro e w' ⟨rfl,rfl⟩)
  go_ret3
  exact⟨rfl,rfl⟩
 .obtain⟨m,hm1,hm3,hm⟩:∃ m:Nat,1≤m∧m≤3∧Dec.more (t[0]'h0).toNat=(m:Int):=by
   rcases hm with h|h|h
   .exact⟨1,by omega,by omega,h⟩
   .exact⟨2,by omega,by omega,h⟩
   .exact⟨3,by omega,by omega,h⟩
  have HO:Hid (Dec.goes t m m 1 (Dec.lo1 (t[0]'h0).toNat) (Dec.hi1 (t[0]'h0).toNat) (Dec.first (t[0]'h0).toNat m)=Dec.one t):=by
   show _=_
   unfold Dec.one;rw[<- e0,hm,if_neg (by omega)];rfl
  have F:=fun w=>au7 _ m a0 hm1 hm w
  clear hm e0;generalize Dec.one t=o at *;have a5:Dec.lo1 (t[0]'h0).toNat<256:=by
    unfold Dec.lo1;repeat' split
    all_goals omega
  have a3:Dec.hi1 (t[0]'h0).toNat<256:=by
    unfold Dec.hi1;repeat' split
    all_goals omega
  go_enter func90,ntmps90;go_wp2_with (go_at_call 125;refine (F _).mono ?_;rintro e w' ⟨rfl,rfl⟩)
  have HF:Hid _:=Ui (t[0]'h0).toNat m a0 hm1 hm3;have a2:=aa0 (t[0]'h0).toNat m hm1 hm3;go_loop [6,7,8,9] (fun lo hi a k=>∃ k' lo' hi' r:Nat,1≤k'∧k'≤m+1∧k'≤t.size∧lo'<256∧hi'<256∧r<64 ^ k'∧k=.int .i64 k'∧lo=.int .u8 lo'∧hi=.int .u8 hi'∧a=.int .i64 r∧Hid (Dec.goes t m (m+1-k') k' lo' hi' r=o)) (fun _ _ _ k=>m+1-(intOf k).toNat)
  case atStart=>exact⟨1,_,_,_,by omega,by omega,by omega,a5,a3,by omega,rfl,rfl,rfl,by rw[HF.out],HO⟩
  case round =>
   obtain⟨k,lo,hi,r,a8,a9,aa,ab,a7,hr,rfl,rfl,rfl,rfl,HG⟩:=hrel;clear HO F HF a2;by_cases c1:k<m+1
   .have a6:r<262144:=Nat.lt_of_lt_of_le hr (av8 k (by omega))
    by_cases c2:k<t.size
    .have EK:Hid (Dec.bt t k=(t[k]'c2).toNat):=(Dec.bt_get t k c2).symm
     have a1:(t[k]'c2).toNat<256:=(t[k]'c2).toNat_lt;have a4:((k:Int) == (t.size:Int))=false:=by simp;omega
     by_cases c3:(lo:Int)≤((t[k]'c2).toNat:Int)
     .by_cases c4:((t[k]'c2).toNat:Int)≤(hi:Int)
      .have HS:Hid _:=Hg t m k lo hi r o HG.out c1 ⟨c2,by rw[EK.out];omega⟩
       have HJ:Hid _:=b08 r (t[k]'c2).toNat a6 a1;have HR:Hid (r<64 ^ k):=hr;clear hr;go_wp2;go_round
       case rel =>
        (repeat apply Exists.intro)
        refine⟨?_,rfl,rfl,rfl,rfl,rfl,rfl,rfl⟩;exact⟨k+1,by omega,by omega,by omega,128,by omega,191,by omega,r*64+Dec.bt t k % 64,by have:=HR.out;rw[Nat.pow_succ];omega,by go_num,rfl,rfl,by rw[EK.out,HJ.out],HS⟩
       case measure=>simp[intOf];omega
      .have HS:Hid _:=J2 t m k lo hi r o HG.out c1 (by rw[EK.out];omega)
       go_wp2;go_ret3
       exact⟨Dx HS.out.1 HS.out.2.1 HS.out.2.2,rfl⟩
     .have HS:Hid _:=J2 t m k lo hi r o HG.out c1 (by rw[EK.out];omega)
      go_wp2;go_ret3
      exact⟨Dx HS.out.1 HS.out.2.1 HS.out.2.2,rfl⟩
    .have HS:Hid _:=J2 t m k lo hi r o HG.out c1 (by omega)
     have a4:((k:Int) == (t.size:Int))=true:=by simp;omega
     go_wp2;go_ret3
     exact⟨Dx HS.out.1 HS.out.2.1 HS.out.2.2,rfl⟩
   .have HS:Hid _:=ap2 t m k lo hi r o HG.out (by omega)
    go_wp2;go_ret3
    exact⟨Dx HS.out.1 HS.out.2.1 HS.out.2.2,rfl⟩
end Go.Proofs.YtjbmgghehdemdaaGreatDoor
