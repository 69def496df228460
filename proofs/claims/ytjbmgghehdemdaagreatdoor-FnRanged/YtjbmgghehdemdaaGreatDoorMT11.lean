/- Norm3 -/
import Derived.Test.YtjbmgghehdemdaaGreatDoorMT2
import Derived.Laws.DeepStrings4
import Derived.Laws.Concat
import Derived.Test.YtjbmgghehdemdaaGreatDoorMT6
import Derived.Lib.IndexLaws
import Derived.Lib.Bytealg
import Derived.WalkMore
import Derived.Laws.CopyOwn
import Derived.OwnWalk
namespace Go.Proofs.YtjbmgghehdemdaaGreatDoor
set_option maxRecDepth 100000
set_option maxHeartbeats 16000000
open _root_.Go.Proofs.Tryz
def ri:List Int→Int→List Int
 | [],r=>[r]
 | x::t,r=>if 0<cls r∧cls r<cls x then x::ri t r else r::x::t
theorem Sx {x r:Int} {t:List Int}(h:0<cls r∧cls r<cls x):ri (x::t) r=x::ri t r:=by simp only[ri,if_pos h]
theorem Kc {x r:Int} {t:List Int}(h:¬ (0<cls r∧cls r<cls x)):ri (x::t) r=r::x::t:=by simp only[ri,if_neg h]
theorem M2 (l m:List Int) (k:Nat) (h:k<l.length):at0 (l++m) k=at0 l k:=by
 simp[at0,List.getElem?_append_left h]
theorem Sc (l m:List Int) (x:Int):at0 (l++x::m) l.length=x:=by simp[at0]
theorem Gy (l m:List Int) (k:Nat) (h:k<l.length):bub (l++m) k=bub l k++m:=by
 induction k generalizing l with
 | zero=>rfl
 | succ k ih =>
  have e1:=M2 l m (k+1) h;have e2:=M2 l m k (by omega);by_cases c:0<cls (at0 l (k+1))∧cls (at0 l (k+1))<cls (at0 l k)
  .rw[zo l k c,zo (l++m) k (by rw[e1,e2];exact c),e1,e2,List.set_append_left _ _ h,List.set_append_left _ _ (by simp;omega)]
   exact ih _ (by simp;omega)
  .rw[oe l k c,oe (l++m) k (by rw[e1,e2];exact c)]
theorem Xd (l m:List Int) (i:Nat) (h:i≤l.length):srt (l++m) i=srt l i++m:=by
 induction i with
 | zero=>rfl
 | succ i ih=>rw[srt,ih (by omega),Gy _ _ _ (by rw[rt];omega)];rfl
theorem a79 (l:List Int) (r:Int):bub (l++[r]) l.length=(ri l.reverse r).reverse:=by
 generalize hn:l.length=n;induction n generalizing l with
 | zero =>
  obtain rfl:l=[]:=List.eq_nil_of_length_eq_zero hn;rfl
 | succ n ih =>
  obtain⟨l',x,rfl⟩:∃ l' x,l=l'++[x]:=⟨l.dropLast,l.getLast (by intro h;rw[h]at hn;simp at hn),(List.dropLast_concat_getLast _).symm⟩
  have hl:l'.length=n:=by simpa using hn
  have e1:at0 (l'++[x]++[r]) (n+1)=r:=by
   have:=Sc (l'++[x]) [] r;rw[show (l'++[x]).length=n+1 by simp[hl]]at this;exact this
  have e2:at0 (l'++[x]++[r]) n=x:=by
   have:=Sc l' [r] x;rw[hl]at this;rw[List.append_assoc];exact this
  rw[List.reverse_append];by_cases c:0<cls r∧cls r<cls x
  .rw[zo _ _ (by rw[e1,e2];exact c),e1,e2]
   have e3:((l'++[x]++[r]).set (n+1) x).set n r=(l'++[r])++[x]:=by
    rw[List.append_assoc,List.append_assoc];subst hl;rw[List.set_append_right _ _ (by omega),List.set_append_right _ _ (by omega)];simp
   rw[e3,Gy _ _ _ (by simp;omega),ih l' hl];show _=(ri (x::l'.reverse) r).reverse
   rw[Sx c];simp
  .rw[oe _ _ (by rw[e1,e2];exact c)]
   show _=(ri (x::l'.reverse) r).reverse
   rw[Kc c];simp
def stk (l:List Int):List Int:=l.foldl ri []
theorem ah6 (l:List Int) (r:Int):stk (l++[r])=ri (stk l) r:=by simp[stk,List.foldl_append]
theorem a44 (l:List Int):mc l=(stk l).reverse:=by
 generalize hn:l.length=n;induction n generalizing l with
 | zero =>
  obtain rfl:l=[]:=List.eq_nil_of_length_eq_zero hn;rfl
 | succ n ih =>
  obtain⟨l',x,rfl⟩:∃ l' x,l=l'++[x]:=⟨l.dropLast,l.getLast (by intro h;rw[h]at hn;simp at hn),(List.dropLast_concat_getLast _).symm⟩
  have hl:l'.length=n:=by simpa using hn
  have h1:mc (l'++[x])=bub (mc l'++[x]) n:=by
   unfold mc;rw[List.length_append,List.length_singleton,srt,Xd _ _ _ bR,hl]
  have h2:=a79 (mc l') x;rw[xz,hl,ih l' hl,List.reverse_reverse]at h2;rw[h1,ih l' hl,h2,ah6]
theorem ac9 {x r:Int} {s:List Int}:x ∈ ri s r↔x=r∨x ∈ s:=by
 induction s with
 | nil=>simp[ri]
 | cons y t ih =>
  by_cases c:0<cls r∧cls r<cls y
  .rw[Sx c];simp only[List.mem_cons,ih]
   constructor
   .rintro (h|h|h) <;> simp[h]
   .rintro (h|h|h) <;> simp[h]
  .rw[Kc c];simp
theorem ac8 {x:Int}(l s:List Int):x ∈ l.foldl ri s↔x ∈ l∨x ∈ s:=by
 induction l generalizing s with
 | nil=>simp
 | cons r l ih =>
  simp only[List.foldl_cons,ih,ac9,List.mem_cons];constructor
  .rintro (h|h|h) <;> simp[h]
  .rintro ((h|h)|h) <;> simp[h]
theorem Kk {x:Int} {l:List Int}:x ∈ mc l↔x ∈ l:=by
 rw[a44,List.mem_reverse];have:=ac8 (x:=x) l [];simpa [stk] using this
open Go.RowKit
theorem Nj:(prog.info? 9).map (fun i=>(i.zero,i.size,i.bytes))=some (some (.string ⟨#[]⟩),1,16):=by kernel_rfl
def ak (w:World) (B:Nat) (v:Value) (ss:List ByteArray):Prop:=w.ownsRow B 9 1 v ss.length (ss.map Value.string)
theorem ak.snoc {w:World} {base:Nat} {v:Value} {ss:List ByteArray} {x:ByteArray}(h:w.ownsRow base 9 1 v (ss.length+1) (ss.map Value.string++[.string x])):ak w base v (ss++[x]):=by
 unfold ak;simpa using h
theorem ak.form {w:World} {B:Nat} {v:Value} {ss:List ByteArray}(h:ak w B v ss):(v=.slice none 0 0∧ss=[])∨∃ g cap,v=.slice (some ⟨g,0,none⟩) ss.length cap∧ss.length≤cap∧cap≤maxLen:=by
 rcases h.2 with ⟨a,b⟩|⟨g,cap,cur,a,b,c,d,e,_⟩
 .exact .inl ⟨a,by simpa using b⟩
 .exact .inr ⟨g,cap,a,d,e⟩
theorem ak.cell {w:World} {B:Nat} {g cap:Nat} {ss:List ByteArray}(h:ak w B (.slice (some ⟨g,0,none⟩) ss.length cap) ss) (j:Nat) (x:ByteArray) (hx:ss[j]? = some x) :
  w.cell? ⟨g,j,none⟩=some (.string x):=by
 have hj:=(List.getElem?_eq_some_iff.1 hx).1;rw[World.ownsRow.cellAt h j (by omega)];simp[hx]
theorem ak.below {w w':World} {B:Nat} {v:Value} {ss:List ByteArray}(h:ak w B v ss) (hb:Below w.heap.size w w'):ak w' B v ss :=
 World.ownsRow.kept h (row:=none) ⟨hb.os,hb.tape,hb.output,hb.size,fun k hk _=>hb.block k hk⟩ (by cases h:v.ownBlock <;> simp)
def wst (s:ByteArray):Nat→List ByteArray × ByteArray
 | 0=>([],⟨#[]⟩)
 | k+1 =>
  if k<s.size∧Dec.bt s k≠32 then ((wst s k).1,(wst s k).2++s.extract k (k+1))
  else ((if (wst s k).2.size=0 then (wst s k).1 else (wst s k).1++[(wst s k).2]),⟨#[]⟩)
def rx (s:ByteArray):List ByteArray:=(wst s (s.size+1)).1
theorem L0 (s:ByteArray) (k:Nat):(wst s k).1.length≤k∧(wst s k).2.size≤k:=by
 induction k with
 | zero=>exact⟨Nat.zero_le _,bR⟩
 | succ k ih =>
  unfold wst;split
  .rename_i h
   refine⟨by show (wst s k).1.length≤_;omega,?_⟩;show ((wst s k).2++s.extract k (k+1)).size≤_
   rw[ByteArray.size_append,ByteArray.size_extract];omega
  .refine⟨?_,Nat.zero_le _⟩
   show (if _ then _ else _:List ByteArray).length≤_
   split
   .omega
   .rw[List.length_append];simp;omega
def b26 (w:World) (s:ByteArray) (out word i:Value) (wr:World):Prop :=
 ∃ (k:Nat) (os:List ByteArray) (cur:ByteArray),k≤s.size+1∧i=.int .i64 k∧wst s k=(os,cur)∧word=.string cur∧ak wr w.heap.size out os∧Below w.heap.size w wr
theorem Cf (c:ByteArray):c.toList.isEmpty=decide (c.size=0):=by
 rw[ByteArray.toList_eq];rcases c with ⟨⟨l⟩⟩
 cases l <;> simp[ByteArray.size]
theorem a62 (s:ByteArray) (w:World) (hs:s.size≤1073741824) :
  Calls prog 53 #[.string s] w fun e w'=>∃ v,e=.returned v∧ak w' w.heap.size v (rx s)∧Below w.heap.size w w':=by
 obtain⟨i0,hi,a7,a8,a9⟩:=info_parts Nj;go_enter func53,ntmps53;go_wp2;go_loopw [3,4,5] (fun out word i wr=>b26 w s out word i wr) (fun _ _ i _=>s.size+1-(intOf i).toNat)
 case atStart=>exact⟨0,[],⟨#[]⟩,Nat.zero_le _,rfl,rfl,rfl,World.ownsRow_nil _ _ _ _,bX⟩
 case round =>
  obtain⟨k,os,cur,hk,rfl,hw,rfl,ho,hb⟩:=hrel;have a4:=L0 s k;rw[hw]at a4;have ab:os.length≤k:=a4.1;have ac:cur.size≤k:=a4.2;have HW:Hid (wst s k=(os,cur)):=hw;clear hw a4;unfold ak at ho;by_cases ad:k≤s.size
  .by_cases a0:k<s.size∧Dec.bt s k≠32
   .obtain⟨a0,hc⟩:=a0
    have EK:Hid (Dec.bt s k=(s[k]'a0).toNat):=(Dec.bt_get s k a0).symm;have c':(((s[k]'a0).toNat:Int) != 32)=true:=by rw[EK.out]at hc;simp;omega
    have HN:Hid (wst s (k+1)=(os,cur++s.extract k (k+1))):=by
     show _=_
     rw[wst,if_pos ⟨a0,hc⟩,HW.out]
    clear hc EK HW;go_wp2;exact⟨⟨k+1,_,_,by omega,by go_num,HN.out,rfl,ho,hb⟩,by simp[intOf];omega⟩
   .have a3:Hid (wst s (k+1)=((if cur.size=0 then os else os++[cur]),⟨#[]⟩)):=by
     show _=_
     rw[wst,if_neg a0,HW.out]
    clear HW;have hd:k<s.size→Dec.bt s k=32:=fun h=>Decidable.byContradiction fun c=>a0 ⟨h,c⟩
    clear a0;have a6:=Cf cur;by_cases hc:cur.size=0
    .rw[decide_eq_true hc]at a6
     have HN:Hid (wst s (k+1)=(os,⟨#[]⟩)):=by show _=_;rw[a3.out,if_pos hc]
     clear a3 hc;by_cases a0:k<s.size
     .have EK:=Dec.bt_get s k a0
      rw[hd a0]at EK;have c':(((s[k]'a0).toNat:Int) != 32)=false:=by simp;omega
      clear hd EK;go_wp2;exact⟨⟨k+1,_,_,by omega,by go_num,HN.out,rfl,ho,hb⟩,by simp[intOf];omega⟩
     .have c1:¬ (k:Int)<(s.size:Int):=by omega
      clear hd;go_wp2;exact⟨⟨k+1,_,_,by omega,by go_num,HN.out,rfl,ho,hb⟩,by simp[intOf];omega⟩
    .rw[decide_eq_false hc]at a6
     have HN:Hid (wst s (k+1)=(os++[cur],⟨#[]⟩)):=by show _=_;rw[a3.out,if_neg hc]
     have ae:=hb.size;clear a3 hc;by_cases a0:k<s.size
     .have EK:=Dec.bt_get s k a0
      rw[hd a0]at EK;have c':(((s[k]'a0).toNat:Int) != 32)=false:=by simp;omega
      clear hd EK;go_wp2_with (at_builtin;refine wpList_append_own _ rfl _ _ 23 rfl w.heap.size 9 i0 (.string ⟨#[]⟩) 1 16 underlying23 hi a7 a8 a9 rfl (by decide) _ _ _ rfl (ho.alloc _) ⟨_,0,none⟩ 1 1 [.string cur] rfl rfl (cell_one_new _ _ _) (fun x hx=>by simp at hx;subst hx;rfl) (by unfold maxLen;omega) (by omega) (by simp;omega) ?_;intro v' w3 a2 a1 _)
      have a5:=Below.grown (hb.alloc (by omega) _) a1 (by simp;omega) (fun j hj=>(ho.lt _ hj).1);exact⟨⟨k+1,_,_,by omega,by go_num,HN.out,rfl,ak.snoc a2,a5⟩,by simp[intOf];omega⟩
     .have c1:¬ (k:Int)<(s.size:Int):=by omega
      clear hd;go_wp2_with (at_builtin;refine wpList_append_own _ rfl _ _ 23 rfl w.heap.size 9 i0 (.string ⟨#[]⟩) 1 16 underlying23 hi a7 a8 a9 rfl (by decide) _ _ _ rfl (ho.alloc _) ⟨_,0,none⟩ 1 1 [.string cur] rfl rfl (cell_one_new _ _ _) (fun x hx=>by simp at hx;subst hx;rfl) (by unfold maxLen;omega) (by omega) (by simp;omega) ?_;intro v' w3 a2 a1 _)
      have a5:=Below.grown (hb.alloc (by omega) _) a1 (by simp;omega) (fun j hj=>(ho.lt _ hj).1);exact⟨⟨k+1,_,_,by omega,by go_num,HN.out,rfl,ak.snoc a2,a5⟩,by simp[intOf];omega⟩
  .have aa:k=s.size+1:=by omega
   subst aa;have HF:Hid (os=rx s):=by show _=_;unfold rx;rw[HW.out]
   clear HW;go_wp2;go_ret;exact⟨_,rfl,by rw[<- HF.out];exact ho,hb⟩
def wf:List UInt8→List UInt8→List ByteArray
 | [],cur=>if cur=[] then [] else [⟨cur.toArray⟩]
 | b::l,cur=>if b=32 then (if cur=[] then wf l [] else ⟨cur.toArray⟩::wf l []) else wf l (cur++[b])
def dn (l:List UInt8):List UInt8 × List UInt8 :=
 ((l.dropWhile (· == 32)).takeWhile (· != 32),((l.dropWhile (· == 32)).dropWhile (· != 32)).drop 1)
theorem ax1 (cur:List UInt8):wf [] cur=if cur=[] then [] else [⟨cur.toArray⟩]:=rfl
theorem E4 (b:UInt8) (l cur:List UInt8):wf (b::l) cur=if b=32 then (if cur=[] then wf l [] else ⟨cur.toArray⟩::wf l []) else wf l (cur++[b]):=rfl
theorem ax0 (l cur:List UInt8) (h:cur≠[]):wf l cur=⟨(cur++l.takeWhile (· != 32)).toArray⟩::wf ((l.dropWhile (· != 32)).drop 1) []:=by
 induction l generalizing cur with
 | nil=>simp[wf,h]
 | cons b l ih =>
  rw[E4];by_cases hb:b=32
  .simp[hb,h]
  .rw[if_neg hb,ih (cur++[b]) (by simp)]
   simp[hb]
theorem Th (l:List UInt8):wf l []=if (dn l).1=[] then [] else ⟨(dn l).1.toArray⟩::wf (dn l).2 []:=by
 induction l with
 | nil=>simp[wf,dn]
 | cons b l ih =>
  rw[E4];by_cases hb:b=32
  .have e:dn (b::l)=dn l:=by simp[dn,hb]
   rw[if_pos hb,if_pos rfl,e];exact ih
  .rw[if_neg hb,ax0 l ([]++[b]) (by simp)]
   simp[dn,hb]
theorem Hu (l:List UInt8):(dn l).1.length≤l.length∧(dn l).2.length≤l.length:=by
 unfold dn;have h1:=(List.dropWhile_sublist (l:=l) (p:=fun x=>x == 32)).length_le;have h2:=(List.takeWhile_sublist (l:=l.dropWhile (fun x=>x == 32)) (p:=fun x=>x != 32)).length_le;have h3:=(List.dropWhile_sublist (l:=l.dropWhile (fun x=>x == 32)) (p:=fun x=>x != 32)).length_le;simp only[List.length_drop];omega
theorem aj0 (s:ByteArray) (k:Nat) (hk:k<s.size):(wst s k).1++wf (s.data.toList.drop k) (wst s k).2.data.toList=(wst s (k+1)).1++wf (s.data.toList.drop (k+1)) (wst s (k+1)).2.data.toList:=by
 have hd:s.data.toList.drop k=s.data.toList[k]'hk::s.data.toList.drop (k+1):=List.drop_eq_getElem_cons hk;have hb:Dec.bt s k=(s.data.toList[k]'hk).toNat:=by rw[<- Dec.bt_get s k hk];rfl
 rw[hd];generalize hx:s.data.toList[k]'hk=b at *;conv=>rhs;unfold wst
 by_cases c:b=32
 .have c2:¬ (k<s.size∧Dec.bt s k≠32):=by rw[hb,c];simp
  rw[if_neg c2];simp only;rw[E4,if_pos c];by_cases z:(wst s k).2.data.toList=[]
  .have z2:(wst s k).2.size=0:=by show (wst s k).2.data.size=0;rw[<- Array.length_toList,z];rfl
   rw[if_pos z,if_pos z2]
  .have z2:¬ (wst s k).2.size=0:=fun e=>z (List.eq_nil_of_length_eq_zero (by rw[Array.length_toList];exact e))
   rw[if_neg z,if_neg z2];simp
 .have c2:k<s.size∧Dec.bt s k≠32:=⟨hk,by
   rw[hb];intro e;exact c (UInt8.toNat_inj.1 e)⟩
  rw[if_pos c2];simp only;rw[E4,if_neg c];congr 2
  rw[ByteArray.data_append,Array.toList_append,ByteArray.data_extract,Array.toList_extract];congr 1
  rw[List.extract_eq_take_drop,hd];simp
theorem ai9 (s:ByteArray):rx s=wf s.data.toList []:=by
 have h:∀ k,k≤s.size→wf s.data.toList []=(wst s k).1++wf (s.data.toList.drop k) (wst s k).2.data.toList:=by
  intro k;induction k with
  | zero=>intro _;simp[wst]
  | succ k ih=>intro hk;rw[ih (by omega),aj0 s k (by omega)]
 rw[h s.size bR];have e:s.data.toList.drop s.size=[]:=List.drop_eq_nil_of_le (by simp);rw[e];unfold rx;conv=>lhs;unfold wst
 rw[if_neg (by omega)];rw[ax1];by_cases z:(wst s s.size).2.data.toList=[]
 .have z2:(wst s s.size).2.size=0:=by show (wst s s.size).2.data.size=0;rw[<- Array.length_toList,z];rfl
  rw[if_pos z,if_pos z2];simp
 .have z2:¬ (wst s s.size).2.size=0:=fun e=>z (List.eq_nil_of_length_eq_zero (by rw[Array.length_toList];exact e))
  rw[if_neg z,if_neg z2]
theorem Mn:∀ (t:List UInt8),Lib.indexByte t 32=-1→t.takeWhile (· != 32)=t∧(t.dropWhile (· != 32)).drop 1=[]
 | [],_=>by simp
 | b::t,h=>by
  have n:=Lib.indexByte_none h;have hb:b≠32:=fun e=>n 0 (by simp[e])
  unfold Lib.indexByte at h;have a0:(b == 32)=false:=by simpa using hb
  rw[a0]at h;have h2:Lib.indexByte t 32=-1:=by
   have g:=Lib.indexByte_ge t 32;by_cases c:Lib.indexByte t 32=-1
   .exact c
   .exfalso
    have c2:(Lib.indexByte t 32 == -1)=false:=by simpa using c
    rw[c2]at h;simp at h;omega
  obtain⟨i1,i2⟩:=Mn t h2;refine⟨?_,?_⟩
  .rw[List.takeWhile_cons];simp[hb,i1]
  .rw[List.dropWhile_cons];simp[hb];simpa using i2
theorem So:∀ (t:List UInt8) (i:Nat),Lib.indexByte t 32=(i:Int)→i<t.length∧t.takeWhile (· != 32)=t.take i∧(t.dropWhile (· != 32)).drop 1=t.drop (i+1)
 | [],i,h=>by simp[Lib.indexByte]at h
 | b::t,i,h=>by
  unfold Lib.indexByte at h;by_cases hb:b=32
  .have a0:(b == 32)=true:=by simpa using hb
   rw[a0]at h;have:i=0:=by simpa using h.symm
   subst this;simp[hb]
  .have a0:(b == 32)=false:=by simpa using hb
   rw[a0]at h;have g:=Lib.indexByte_ge t 32;by_cases c:Lib.indexByte t 32=-1
   .rw[c]at h;simp at h
   .have c2:(Lib.indexByte t 32 == -1)=false:=by simpa using c
    rw[c2]at h;simp at h;obtain⟨j,rfl⟩:∃ j,i=j+1:=⟨i-1,by omega⟩
    obtain⟨i0,i1,i2⟩:=So t j (by omega);refine⟨by simp;omega,?_,?_⟩
    .rw[List.takeWhile_cons];simp[hb,i1]
    .rw[List.dropWhile_cons];simp[hb];simpa using i2
structure Rw where
 key:ByteArray
 text:ByteArray
 val:ByteArray
def rwC (x:Rw):List Value:=[.string x.key,.string x.text,.string x.val]
def rwV (x:Rw):Value:=.agg #[.string x.key,.string x.text,.string x.val]
def go (l:List Rw):List Value:=l.flatMap rwC
def rwZ:Rw:=⟨⟨#[]⟩,⟨#[]⟩,⟨#[]⟩⟩
instance:Inhabited Rw:=⟨rwZ⟩
theorem yk (l:List Rw):(go l).length=l.length*3:=by
 induction l with
 | nil=>rfl
 | cons e es ih=>show (rwC e++go es).length=_;rw[List.length_append,ih,List.length_cons];show 3+_=_;omega
theorem xv (a b:List Rw):go (a++b)=go a++go b:=by simp[go]
theorem Ox (es:List Rw) (k i:Nat) (e:Rw) (h:es[k]? = some e) (hi:i<3):(go es)[k*3+i]? = (rwC e)[i]?:=by
 induction es generalizing k with
 | nil=>simp at h
 | cons x es ih =>
  show (rwC x++go es)[k*3+i]? = _
  cases k with
  | zero =>
   simp at h;subst h;rw[Nat.zero_mul,Nat.zero_add,List.getElem?_append_left (by show i<3;exact hi)]
  | succ k =>
   have h':es[k]? = some e:=by simpa using h
   rw[List.getElem?_append_right (by show 3≤_;omega)];have e4:(k+1)*3+i-(rwC x).length=k*3+i:=by show (k+1)*3+i-3=_;omega
   rw[e4];exact ih k h'
def Rws (w:World) (B:Nat) (v:Value) (l:List Rw):Prop:=w.ownsRow B 37 3 v l.length (go l)
theorem Rws.form {w:World} {B:Nat} {v:Value} {es:List Rw}(h:Rws w B v es):(v=.slice none 0 0∧es=[])∨∃ g cap,v=.slice (some ⟨g,0,none⟩) es.length cap∧es.length≤cap∧cap≤maxLen:=by
 rcases h.2 with ⟨a,b⟩|⟨g,cap,cur,a,b,c,d,e,_⟩
 .exact .inl ⟨a,List.eq_nil_of_length_eq_zero b⟩
 .exact .inr ⟨g,cap,a,d,e⟩
theorem Rws.cells {w:World} {B g cap:Nat} {es:List Rw}(h:Rws w B (.slice (some ⟨g,0,none⟩) es.length cap) es) (k:Nat) (e:Rw) (hk:es[k]? = some e) :
  w.cell? ⟨g,k*3,none⟩=some (.string e.key)∧w.cell? ⟨g,k*3+1,none⟩=some (.string e.text)∧w.cell? ⟨g,k*3+2,none⟩=some (.string e.val):=by
 have a1:=(List.getElem?_eq_some_iff.1 hk).1;have a0:∀ i,i<3→w.cell? ⟨g,k*3+i,none⟩=(rwC e)[i]?:=fun i hi=>by
  rw[World.ownsRow.cellAt h (k*3+i) (by omega),Ox es k i e hk hi]
 exact⟨a0 0 (by omega),a0 1 (by omega),a0 2 (by omega)⟩
theorem Rws.below {w w':World} {B:Nat} {v:Value} {es:List Rw}(h:Rws w B v es) (hb:Below w.heap.size w w'):Rws w' B v es :=
 World.ownsRow.kept h (row:=none) ⟨hb.os,hb.tape,hb.output,hb.size,fun k hk _=>hb.block k hk⟩ (by cases h:v.ownBlock <;> simp)
def dd (w:World) (a:Option Addr) (l:List Rw):Prop :=
 l=[]∨∃ b o,a=some ⟨b,o,none⟩∧∀ (k:Nat) (e:Rw),l[k]? = some e→w.cell? ⟨b,o+k*3,none⟩=some (.string e.key)∧w.cell? ⟨b,o+k*3+1,none⟩=some (.string e.text)∧w.cell? ⟨b,o+k*3+2,none⟩=some (.string e.val)
theorem ag {w:World} {b o:Nat} {v:Value}(h:w.cell? ⟨b,o,none⟩=some v):b<w.heap.size:=by
 apply Classical.byContradiction
 intro hn;have:w.heap[b]? = none:=by simp;omega
 simp[World.cell?,this]at h
theorem dd.below {w w':World} {B:Nat} {a:Option Addr} {l:List Rw}(h:dd w a l) (hb:Below B w w') (hB:w.heap.size≤B):dd w' a l:=by
 rcases h with rfl|⟨b,o,rfl,h⟩
 .exact .inl rfl
 .refine .inr ⟨b,o,rfl,fun k e he=>?_⟩
  obtain⟨c0,c1,c2⟩:=h k e he;have hl:=Nat.lt_of_lt_of_le (ag c0) hB;exact⟨by rw[hb.cell hl];exact c0,by rw[hb.cell hl];exact c1,by rw[hb.cell hl];exact c2⟩
theorem Rws.sl {w:World} {B g cap:Nat} {l:List Rw}(h:Rws w B (.slice (some ⟨g,0,none⟩) l.length cap) l):dd w (some ⟨g,0,none⟩) l :=
 .inr ⟨g,0,rfl,fun k e he=>by simpa using h.cells k e he⟩
theorem dd.drop {w:World} {b o:Nat} {l:List Rw}(h:dd w (some ⟨b,o,none⟩) l) (n:Nat):dd w (some ⟨b,o+n*3,none⟩) (l.drop n):=by
 rcases h with rfl|⟨b',o',hb,h⟩
 .exact .inl (by simp)
 .cases hb
  refine .inr ⟨b,o+n*3,rfl,fun k e he=>?_⟩;rw[List.getElem?_drop]at he;have:=h (n+k) e he;rw[show o+(n+k)*3=o+n*3+k*3 by omega]at this;exact this
theorem dd.take {w:World} {a:Option Addr} {l:List Rw}(h:dd w a l) (n:Nat):dd w a (l.take n):=by
 rcases h with rfl|⟨b',o',hb,h⟩
 .exact .inl (by simp)
 .refine .inr ⟨b',o',hb,fun k e he=>h k e ?_⟩
  rw[List.getElem?_take]at he;split at he
  .exact he
  .cases he
theorem aq1 {l:List Rw} {k:Nat} {x:Rw}(h:l[k]? = some x):l.drop k=x::l.drop (k+1):=by
 obtain⟨hk,rfl⟩:=List.getElem?_eq_some_iff.1 h;exact List.drop_eq_getElem_cons hk
def sz1 (x:Rw):Bool:=decide (x.key.size≤200) && decide (x.text.size≤80) && decide (x.val.size≤80)
def ltK (a b:ByteArray):Bool:=Op.bytesLess a.toList b.toList
def dh (l:List Rw) (i:Nat):Rw:=(l[i]?).getD rwZ
def lq (l:List Rw) (i:Nat):Bool:=sz1 (dh l i) && (i == 0 || ltK (dh l (i-1)).key (dh l i).key)
def dm (l:List Rw):Bool:=decide (l.length≤60) && (List.range l.length).all (lq l)
theorem Hh {l:List Rw}(h:¬ l.length≤60):dm l=false:=by simp[dm,h]
theorem n5 {l:List Rw} {k:Nat}(hk:k<l.length) (h:lq l k=false):dm l=false:=by
 unfold dm;have:(List.range l.length).all (lq l)=false:=by
  rw[List.all_eq_false];exact⟨k,by simpa using hk,by simp[h]⟩
 rw[this,Bool.and_false]
theorem ue {l:List Rw}(h:l.length≤60) (ha:∀ i,i<l.length→lq l i=true):dm l=true:=by
 unfold dm;have:(List.range l.length).all (lq l)=true:=by
  rw[List.all_eq_true];intro i hi;exact ha i (by simpa using hi)
 rw[this];simp[h]
theorem mz {l:List Rw}(h:dm l=true):l.length≤60:=by
 unfold dm at h;simp at h;exact h.1
theorem xj {l:List Rw}(h:dm l=true){i:Nat}(hi:i<l.length):lq l i=true:=by
 unfold dm at h;simp at h;exact h.2 i hi
theorem Ko {l:List Rw} {x:Rw}(hx:l[0]? = some x):lq l 0=sz1 x:=by
 simp[lq,dh,hx]
theorem Kn {l:List Rw} {j:Nat} {x y:Rw}(hx:l[j+1]? = some x) (hy:l[j]? = some y):lq l (j+1)=(sz1 x && ltK y.key x.key):=by
 simp[lq,dh,hx,hy]
theorem wk {l:List Rw} {k:Nat} {x:Rw}(hx:l[k]? = some x) (h:sz1 x=false):lq l k=false:=by
 simp[lq,dh,hx,h]
theorem Gd {x:Rw}(h0:x.key.size≤200) (h1:x.text.size≤80) (h2:x.val.size≤80):sz1 x=true:=by simp[sz1,h0,h1,h2]
theorem Tf {x:Rw}(h0:¬ x.key.size≤200):sz1 x=false:=by simp[sz1,h0]
theorem Pl {x:Rw}(h0:¬ x.text.size≤80):sz1 x=false:=by simp[sz1,h0]
theorem Tg {x:Rw}(h0:¬ x.val.size≤80):sz1 x=false:=by simp[sz1,h0]
theorem a55 {x:Rw}(h:sz1 x=true):x.key.size≤200∧x.text.size≤80∧x.val.size≤80:=by
 simp[sz1]at h
 exact⟨h.1.1,h.1.2,h.2⟩
theorem N9 {l:List Rw}(h:dm l=true):∀ x ∈ l,x.key.size≤200∧x.text.size≤80∧x.val.size≤80:=by
 intro x hx;obtain⟨i,hi⟩:=List.getElem?_of_mem hx;have:=xj h (List.getElem?_eq_some_iff.1 hi).1;unfold lq dh at this;rw[hi]at this;simp only[Option.getD_some,Bool.and_eq_true]at this;exact a55 this.1
theorem yh {l:List Rw} {k:Nat}(h:∀ j,j<k→lq l j=true) (hk:lq l k=true):∀ j,j<k+1→lq l j=true:=by
 intro j hj;by_cases e:j=k
 .rw[e];exact hk
 .exact h j (by omega)
def shL:List UInt8→List UInt8→Nat
 | a::x,b::y=>if a=b then shL x y+1 else 0
 | _,_=>0
def shB (a k:ByteArray):Nat:=shL a.data.toList k.data.toList
theorem Tb:∀ (x y:List UInt8),shL x y≤x.length
 | [],y=>by cases y <;> simp[shL]
 | a::x,[]=>by simp[shL]
 | a::x,b::y=>by
  unfold shL;split
  .have:=Tb x y
   simp;omega
  .simp
theorem Tc:∀ (x y:List UInt8),shL x y≤y.length
 | [],y=>by cases y <;> simp[shL]
 | a::x,[]=>by simp[shL]
 | a::x,b::y=>by
  unfold shL;split
  .have:=Tc x y
   simp;omega
  .simp
theorem Dz (a k:ByteArray):shB a k≤a.size:=by
 have:=Tb a.data.toList k.data.toList;rw[Array.length_toList]at this;exact this
theorem E3 (a k:ByteArray):shB a k≤k.size:=by
 have:=Tc a.data.toList k.data.toList;rw[Array.length_toList]at this;exact this
theorem P0 (x y:List UInt8) (h:x=[]):shL x y=0:=by subst h;cases y <;> rfl
theorem P6 (x y:List UInt8) (h:y=[]):shL x y=0:=by subst h;cases x <;> rfl
def bAt (s:ByteArray) (n:Nat):UInt8:=s.data.toList.getD n 0
theorem oc {s:ByteArray} {n:Nat}(h:n<s.size):s.data.toList.drop n=bAt s n::s.data.toList.drop (n+1):=by
 have h':n<s.data.toList.length:=by rw[Array.length_toList];exact h
 rw[List.drop_eq_getElem_cons h',bAt,List.getD,List.getElem?_eq_getElem h'];rfl
theorem yb {s:ByteArray} {n:Nat}(h:¬ n<s.size):s.data.toList.drop n=[]:=by
 apply List.drop_eq_nil_of_le
 rw[Array.length_toList];exact Nat.le_of_not_lt h
def bI (s:ByteArray):List Int:=s.data.toList.map fun b=>(b.toNat:Int)
theorem Gq (s:ByteArray):(bI s).length=s.size:=by
 unfold bI;rw[List.length_map,Array.length_toList];rfl
theorem Jf (a b:ByteArray):bI (a++b)=bI a++bI b:=by
 unfold bI;rw[<- List.map_append];congr 1
def byT (bs:List Int):ByteArray:=⟨(bs.map fun x=>x.toNat.toUInt8).toArray⟩
theorem qe (bs:List Int):(byT bs).size=bs.length:=by
 show (byT bs).data.size=_
 simp[byT]
theorem as5 (s:ByteArray):byT (bI s)=s:=by
 unfold byT bI;rw[List.map_map];have:((fun x:Int=>x.toNat.toUInt8) ∘ fun b:UInt8=>(b.toNat:Int))=id:=by
  funext b
  simp
 rw[this,List.map_id]
def je (p:ByteArray) (x:Rw):List Int :=
 [(shB p x.key:Int),(x.key.size:Int)-(shB p x.key:Int),(x.text.size:Int),(x.val.size:Int)]++bI (x.key.extract (shB p x.key) x.key.size)++bI x.text++bI x.val
def eh:ByteArray→List Rw→List Int
 | _,[]=>[]
 | p,x::l=>je p x++eh x.key l
def ie:ByteArray→List Rw→ByteArray
 | p,[]=>p
 | _,x::l=>ie x.key l
def et (l:List Rw):List Int:=[80,71,(l.length:Int)]++eh ⟨#[]⟩ l
theorem Bb:∀ (p:ByteArray) (l:List Rw) (x:Rw),eh p (l++[x])=eh p l++je (ie p l) x
 | p,[],x=>by simp[eh,ie]
 | p,y::l,x=>by
  show je p y++eh y.key (l++[x])=je p y++eh y.key l++je (ie y.key l) x
  rw[Bb y.key l x,List.append_assoc]
theorem Hq:∀ (p:ByteArray) (l:List Rw) (x:Rw),ie p (l++[x])=x.key
 | _,[],_=>rfl
 | _,y::l,x=>Hq y.key l x
theorem Bc {l:List Rw} {k:Nat} {x:Rw}(p:ByteArray) (h:l[k]? = some x):eh p (l.take (k+1))=eh p (l.take k)++je (ie p (l.take k)) x:=by
 rw[List.take_add_one,h];exact Bb p _ x
theorem Av {l:List Rw} {k:Nat} {x:Rw}(p:ByteArray) (h:l[k]? = some x):ie p (l.take (k+1))=x.key:=by
 rw[List.take_add_one,h];exact Hq p _ x
theorem xh (s:ByteArray) (n:Nat) (_h:n≤s.size):(s.extract n s.size).size=s.size-n:=by
 simp
theorem sm (p:ByteArray) (x:Rw):((je p x).length:Int)=4+(x.key.size:Int)-(shB p x.key:Int)+(x.text.size:Int)+(x.val.size:Int):=by
 have h:=E3 p x.key;unfold je;simp only[List.length_append,Gq,xh _ _ h,List.length_cons,List.length_nil];omega
def RwB (l:List Rw):Prop:=l.length≤255∧∀ x ∈ l,x.key.size≤255∧x.text.size≤255∧x.val.size≤255
theorem RwB.at {l:List Rw}(h:RwB l){k:Nat} {x:Rw}(hx:l[k]? = some x):x.key.size≤255∧x.text.size≤255∧x.val.size≤255:=h.2 x (List.mem_of_getElem? hx)
theorem ud {l:List Rw}(h:dm l=true):RwB l:=by
 refine⟨by have:=mz h;omega,fun x hx=>?_⟩;have:=N9 h x hx;omega
theorem F7 {p:ByteArray} {x:Rw}(h:x.key.size≤255∧x.text.size≤255∧x.val.size≤255):(je p x).length≤769:=by
 have:=sm p x;omega
theorem xt:∀ (p:ByteArray) (l:List Rw),(∀ x ∈ l,x.key.size≤255∧x.text.size≤255∧x.val.size≤255)→(eh p l).length≤769*l.length
 | _,[],_=>by simp[eh]
 | p,x::l,h=>by
  have h1:=F7 (p:=p) (h x (by simp));have h2:=xt x.key l (fun y hy=>h y (by simp[hy]));simp only[eh,List.length_append,List.length_cons];omega
theorem Ns:∀ (p:ByteArray) (l:List Rw),p.size≤255→(∀ x ∈ l,x.key.size≤255∧x.text.size≤255∧x.val.size≤255)→(ie p l).size≤255
 | p,[],h,_=>h
 | p,x::l,_,h=>Ns x.key l (h x (by simp)).1 (fun y hy=>h y (by simp[hy]))
theorem Kl {l:List Rw} {k:Nat}(h:∀ x ∈ l,x.key.size≤255∧x.text.size≤255∧x.val.size≤255):∀ x ∈ l.take k,x.key.size≤255∧x.text.size≤255∧x.val.size≤255 :=
 fun x hx=>h x (List.mem_of_mem_take hx)
theorem zi {l:List Rw}(h:RwB l) (k:Nat):(eh ⟨#[]⟩ (l.take k)).length≤196095:=by
 have h1:=xt ⟨#[]⟩ (l.take k) (Kl h.2);have h2:(l.take k).length≤255:=by rw[List.length_take];have:=h.1;omega
 omega
theorem uu {l:List Rw}(h:RwB l) (k:Nat):(ie ⟨#[]⟩ (l.take k)).size≤255:=Ns _ _ (Nat.zero_le _) (Kl h.2)
theorem Bk (l:List Rw):l.take l.length=l:=by simp
def ko (l:List Rw):Bool:=!(l.length == 0) && dm l && decide ((et l).length≤300)
def pbT (l:List Rw):ByteArray:=if ko l then byT (et l) else ⟨#[]⟩
def hd (t:ByteArray) (i:Nat):Nat:=(bAt t i).toNat
theorem jc (t:ByteArray) (i:Nat):hd t i<256:=(bAt t i).toNat_lt
def o6 (p t:ByteArray):Bool:=decide (4≤t.size) && decide (hd t 0≤p.size) && decide (4+hd t 1+hd t 2+hd t 3≤t.size)
def ld (p t:ByteArray):Rw:=⟨p.extract 0 (hd t 0)++t.extract 4 (4+hd t 1),t.extract (4+hd t 1) (4+hd t 1+hd t 2),t.extract (4+hd t 1+hd t 2) (4+hd t 1+hd t 2+hd t 3)⟩
def kp (t:ByteArray):ByteArray:=t.extract (4+hd t 1+hd t 2+hd t 3) t.size
def rdF:Nat→ByteArray→ByteArray→Option (List Rw)
 | 0,_,_=>some []
 | k+1,p,t=>if o6 p t then (rdF k (ld p t).key (kp t)).map (ld p t::·) else none
theorem fh (s:ByteArray){a q:Nat}(h:q≤s.size):(s.extract a q).size=q-a:=by simp[ByteArray.size_extract];omega
theorem xf (s:ByteArray) (a q:Nat):(s.extract a q).data=s.data.extract a q:=by simp
theorem qo (s:ByteArray){a q i j:Nat}(_hq:q≤s.size) (hj:a+j≤q):(s.extract a q).extract i j=s.extract (a+i) (a+j):=by
 apply ByteArray.ext
 rw[xf,xf,xf,Array.extract_extract];congr 1
 omega
theorem zl (s:ByteArray){a q i:Nat}(hq:q≤s.size) (hi:a+i<q):bAt (s.extract a q) i=bAt s (a+i):=by
 unfold bAt;rw[xf];have hs:s.data.size=s.size:=rfl;have h1:i<(s.data.extract a q).size:=by rw[Array.size_extract];omega
 have h2:a+i<s.data.size:=by omega
 simp only[List.getD,Array.getElem?_toList,Array.getElem?_eq_getElem h1,Array.getElem?_eq_getElem h2,Array.getElem_extract]
theorem td {p t:ByteArray}(h:o6 p t=true):4≤t.size∧hd t 0≤p.size∧4+hd t 1+hd t 2+hd t 3≤t.size:=by
 simp[o6]at h
 exact⟨h.1.1,h.1.2,h.2⟩
theorem Rq {p t:ByteArray}(h:o6 p t=true):(ld p t).key.size=hd t 0+hd t 1∧(ld p t).text.size=hd t 2∧(ld p t).val.size=hd t 3:=by
 obtain⟨h1,h2,h3⟩:=td h;refine⟨?_,?_,?_⟩
 .show (p.extract 0 (hd t 0)++t.extract 4 (4+hd t 1)).size=_
  rw[ByteArray.size_append,fh p h2,fh t (by omega)];omega
 .show (t.extract _ _).size=_
  rw[fh t (by omega)];omega
 .show (t.extract _ _).size=_
  rw[fh t (by omega)];omega
theorem Rp {p t:ByteArray}(h:o6 p t=true):(kp t).size+4≤t.size:=by
 obtain⟨h1,h2,h3⟩:=td h;unfold kp;rw[fh t bR];omega
def lf1 (t:ByteArray):ByteArray:=t.extract 4 t.size
def lf2 (t:ByteArray):ByteArray:=(lf1 t).extract (hd t 1) (lf1 t).size
def lf3 (t:ByteArray):ByteArray:=(lf2 t).extract (hd t 2) (lf2 t).size
theorem Fm (t:ByteArray){a k:Nat}(ha:a+k≤t.size):(t.extract a t.size).extract k (t.extract a t.size).size=t.extract (a+k) t.size:=by
 rw[fh t bR,qo t bR (by omega)];congr 1
 omega
theorem Nu {t:ByteArray}:(lf1 t).size=t.size-4:=fh t bR
theorem Nv {t:ByteArray}(h:4+hd t 1≤t.size):lf2 t=t.extract (4+hd t 1) t.size:=Fm t h
theorem Nw {t:ByteArray}(h:4+hd t 1≤t.size):(lf2 t).size=t.size-(4+hd t 1):=by rw[Nv h];exact fh t bR
theorem Nx {t:ByteArray}(h:4+hd t 1+hd t 2≤t.size):lf3 t=t.extract (4+hd t 1+hd t 2) t.size:=by
 unfold lf3;rw[Nv (by omega)];exact Fm t h
theorem Ny {t:ByteArray}(h:4+hd t 1+hd t 2≤t.size):(lf3 t).size=t.size-(4+hd t 1+hd t 2):=by rw[Nx h];exact fh t bR
theorem a27 {p t:ByteArray}(h:o6 p t=true):ld p t=⟨p.extract 0 (hd t 0)++(lf1 t).extract 0 (hd t 1),(lf2 t).extract 0 (hd t 2),(lf3 t).extract 0 (hd t 3)⟩∧kp t=(lf3 t).extract (hd t 3) (lf3 t).size:=by
 obtain⟨h1,h2,h3⟩:=td h;have e1:(lf1 t).extract 0 (hd t 1)=t.extract 4 (4+hd t 1):=qo t bR (by omega);have e2:(lf2 t).extract 0 (hd t 2)=t.extract (4+hd t 1) (4+hd t 1+hd t 2):=by rw[Nv (by omega)];exact qo t bR (by omega)
 have e3:(lf3 t).extract 0 (hd t 3)=t.extract (4+hd t 1+hd t 2) (4+hd t 1+hd t 2+hd t 3):=by rw[Nx (by omega)];exact qo t bR (by omega)
 have e4:(lf3 t).extract (hd t 3) (lf3 t).size=kp t:=by rw[Nx (by omega)];exact Fm t (by omega)
 rw[e1,e2,e3,e4];exact⟨rfl,rfl⟩
def lp (s:ByteArray):Bool:=decide (hd s 0=80) && decide (hd s 1=71)
def kl (s:ByteArray) (l:List Rw):Bool:=!(l.length == 0) && dm l && decide (byT (et l)=s)
def f4 (s:ByteArray):Option (List Rw):=match rdF (hd s 2) ⟨#[]⟩ (s.extract 3 s.size) with
 | none=>none
 | some l=>if kl s l then some l else none
def m9 (s:ByteArray):Bool:=decide (3≤s.size) && decide (s.size≤300)
def an (s:ByteArray):List Rw:=if m9 s && lp s then (f4 s).getD [] else []
def da (s:ByteArray):Int:=if m9 s then (if lp s then (if (f4 s).isSome then 0 else 3) else 2) else 1
theorem av6 {s:ByteArray} {l:List Rw}(h3:3≤s.size) (h:s.size≤300):decide (pbT l=s)=kl s l:=by
 unfold pbT kl
 cases hok:ko l
 .have h0:¬ (⟨#[]⟩:ByteArray)=s:=fun e=>by rw[<- e]at h3;exact absurd h3 (by decide)
  rw[if_neg (by simp),decide_eq_false h0];unfold ko at hok;by_cases hs:byT (et l)=s
  .have hl:(et l).length≤300:=by rw[<- qe,hs];exact h
   rw[decide_eq_true hl,Bool.and_true]at hok;rw[hok,Bool.false_and]
  .rw[decide_eq_false hs,Bool.and_false]
 .rw[if_pos rfl]
  unfold ko at hok;rw[Bool.and_eq_true]at hok;rw[hok.1,Bool.true_and]
theorem yj (s:ByteArray):(an s).length≤60:=by
 unfold an;split
 .unfold f4
  split
  .exact Nat.zero_le _
  .rename_i l h
   split
   .rename_i hp
    unfold kl at hp;rw[Bool.and_eq_true,Bool.and_eq_true]at hp;exact mz hp.1.2
   .exact Nat.zero_le _
 .exact Nat.zero_le _
def lnP (l:List Rw):Nat:=(et l).length
theorem Ck (l:List Rw):lnP l=3+(eh ⟨#[]⟩ l).length:=by
 unfold lnP et;rw[List.length_append];rfl
theorem Nz (l:List Rw) (x:Rw):lnP (l++[x])=lnP l+(je (ie ⟨#[]⟩ l) x).length:=by
 rw[Ck,Ck,Bb,List.length_append];omega
theorem ao2:lnP []=3:=rfl
theorem aq4 (k:ByteArray):shB ⟨#[]⟩ k=0:=by
 have:=Dz ⟨#[]⟩ k;have h:(⟨#[]⟩:ByteArray).size=0:=rfl;omega
theorem Hp:∀ (p:ByteArray) (q:List Rw),(ie p q).size≤p.size+(eh p q).length
 | p,[]=>Nat.le_add_right _ _
 | p,x::q=>by
  have h:=Hp x.key q;have h1:=sm p x;have h2:=Dz p x.key;show (ie x.key q).size≤p.size+(je p x++eh x.key q).length
  rw[List.length_append];omega
theorem Zu (q:List Rw) (x:Rw):lnP [x]≤lnP (q++[x]):=by
 have h1:=sm (⟨#[]⟩:ByteArray) x;have h2:=sm (ie ⟨#[]⟩ q) x;have h3:=Hp ⟨#[]⟩ q;have h4:=Dz (ie ⟨#[]⟩ q) x.key;have h5:=Nz [] x;have h6:ie ⟨#[]⟩ []=(⟨#[]⟩:ByteArray):=rfl;have h7:(⟨#[]⟩:ByteArray).size=0:=rfl;have h8:=Nz q x;have h9:=Ck q;rw[List.nil_append,ao2,h6]at h5;rw[aq4]at h1;omega
theorem Cl {l:List Rw}(h:RwB l):lnP l≤196098:=by
 rw[Ck];have h1:=xt ⟨#[]⟩ l h.2;have h2:=h.1;omega
def wn (l:List Rw) (lim:Nat):Nat:=((List.range l.length).find? fun k=>decide (lim<lnP (l.take (k+1)))).getD l.length
theorem ak3 (l:List Rw) (a0:Nat):wn l a0≤l.length∧(∀ j,j<wn l a0→lnP (l.take (j+1))≤a0)∧(wn l a0<l.length→a0<lnP (l.take (wn l a0+1))):=by
 cases h:(List.range l.length).find? (fun k=>decide (a0<lnP (l.take (k+1)))) with
 | none =>
  have hw:wn l a0=l.length:=by unfold wn;rw[h];rfl
  rw[hw];refine⟨bR,fun j hj=>?_,fun c=>absurd c (Nat.lt_irrefl _)⟩;rw[List.find?_eq_none]at h;have:=h j (by simpa using hj);simp at this;exact this
 | some k =>
  have hw:wn l a0=k:=by unfold wn;rw[h];rfl
  rw[hw];rw[List.find?_eq_some_iff_getElem]at h;obtain⟨h1,i,hi,a1,h2⟩:=h;simp at a1 hi h1;subst a1;refine⟨by omega,fun j hj=>?_,fun _=>h1⟩;have:=h2 j hj;simp at this;exact this
def us (acc:List (List Rw)) (l:List Rw):Option (List (List Rw)) :=
 if _h:l.length=0 then some acc
 else if _h1:wn l 300=0∨acc.length=40 then none
 else us (acc++[l.take (wn l 300)]) (l.drop (wn l 300))
termination_by l.length
decreasing_by
 rw[List.length_drop];omega
theorem Af {acc:List (List Rw)} {l:List Rw}(h:l.length=0):us acc l=some acc:=by rw[us,dif_pos h]
theorem Dq {acc:List (List Rw)} {l:List Rw}(h:l.length≠0) (h1:wn l 300=0∨acc.length=40):us acc l=none:=by rw[us,dif_neg h,dif_pos h1]
theorem Ml {acc:List (List Rw)} {l:List Rw}(h:l.length≠0) (h1:¬ wn l 300=0) (h2:¬ acc.length=40):us acc l=us (acc++[l.take (wn l 300)]) (l.drop (wn l 300)):=by
 rw[us,dif_neg h,dif_neg (fun c=>c.elim h1 h2)]
def scF:List (List Rw)→List Rw→Option (List (List Rw))
 | out,[]=>some out
 | out,x::l =>
  if 300<lnP [x] then none
  else match out.getLast? with
   | none=>scF (out++[[x]]) l
   | some p=>if lnP (p++[x])≤300 then scF (out.dropLast++[p++[x]]) l else scF (out++[[x]]) l
theorem xw {out:List (List Rw)} {l:List Rw} {x:Rw}(h:300<lnP [x]):scF out (x::l)=none:=by rw[scF,if_pos h]
theorem yl {l:List Rw} {x:Rw}(h:¬ 300<lnP [x]):scF [] (x::l)=scF [[x]] l:=by rw[scF,if_neg h];rfl
theorem xx {out:List (List Rw)} {p l:List Rw} {x:Rw}(h:¬ 300<lnP [x]) (h1:lnP (p++[x])≤300):scF (out++[p]) (x::l)=scF (out++[p++[x]]) l:=by
 rw[scF,if_neg h];simp[h1]
theorem zz {out:List (List Rw)} {p l:List Rw} {x:Rw}(h:¬ 300<lnP [x]) (h1:¬ lnP (p++[x])≤300):scF (out++[p]) (x::l)=scF (out++[p]++[[x]]) l:=by
 rw[scF,if_neg h];simp[h1]
theorem aq2 (l:List Rw):∀ (out r:List (List Rw)),scF out l=some r→out.length≤r.length:=by
 induction l with
 | nil =>
  intro out r h;have h':some out=some r:=h
  cases h'
  exact bR
 | cons x l ih =>
  intro out r h;by_cases h0:300<lnP [x]
  .rw[xw h0]at h;cases h
  .cases hg:out.getLast? with
   | none =>
    obtain rfl:out=[]:=List.getLast?_eq_none_iff.1 hg;exact Nat.zero_le _
   | some p =>
    obtain⟨o,rfl⟩:∃ o,out=o++[p]:=List.getLast?_eq_some_iff.1 hg
    by_cases h1:lnP (p++[x])≤300
    .rw[xx h0 h1]at h
     have:=ih _ _ h;simp at this ⊢;omega
    .rw[zz h0 h1]at h
     have:=ih _ _ h;simp at this ⊢;omega
def vg:Option (List (List Rw))→Option (List (List Rw))
 | none=>none
 | some r=>if r.length≤40 then some r else none
theorem Oz (out:List (List Rw)):∀ (m:Nat) (p l:List Rw),m≤l.length→(∀ j,j<m→lnP (p++l.take (j+1))≤300)→scF (out++[p]) l=scF (out++[p++l.take m]) (l.drop m)
 | 0,p,l,_,_=>by simp
 | m+1,p,[],h,_=>by simp at h
 | m+1,p,x::l,h,hj=>by
  have h1:lnP (p++[x])≤300:=by simpa using hj 0 (by omega)
  have h0:¬ 300<lnP [x]:=by have:=Zu p x;omega
  rw[xx h0 h1,Oz out m (p++[x]) l (by simpa using h) (fun j hjm=>?_)]
  .simp
  .have:=hj (j+1) (by omega)
   simpa using this
theorem Mo:∀ (n:Nat) (l:List Rw) (out:List (List Rw)),l.length≤n→out.length≤40→(∀ p x,out.getLast? = some p→l.head? = some x→¬ lnP (p++[x])≤300)→us out l=vg (scF out l)
 | 0,l,out,hn,ho,_=>by
  obtain rfl:l=[]:=List.eq_nil_of_length_eq_zero (by omega);rw[Af rfl];show some out=if out.length≤40 then some out else none
  rw[if_pos ho]
 | n+1,l,out,hn,ho,hi=>by
  cases l with
  | nil =>
   rw[Af rfl];show some out=if out.length≤40 then some out else none
   rw[if_pos ho]
  | cons x l =>
   obtain⟨w1,w2,w3⟩:=ak3 (x::l) 300;by_cases hw:wn (x::l) 300=0
   .rw[Dq (by simp) (.inl hw)]
    have:=w3 (by rw[hw];simp);rw[hw]at this;rw[xw (by simpa using this)];rfl
   .obtain⟨m,hm⟩:∃ m,wn (x::l) 300=m+1:=⟨wn (x::l) 300-1,by omega⟩
    rw[hm]at w1 w2 w3;have hx:¬ 300<lnP [x]:=by have:=w2 0 (by omega);simp at this;omega
    have a0:scF out (x::l)=scF (out++[(x::l).take (m+1)]) ((x::l).drop (m+1)):=by
     have e1:scF out (x::l)=scF (out++[[x]]) l:=by
      cases hg:out.getLast? with
      | none =>
       obtain rfl:out=[]:=List.getLast?_eq_none_iff.1 hg;exact yl hx
      | some p =>
       obtain⟨a4,rfl⟩:∃ o,out=o++[p]:=List.getLast?_eq_some_iff.1 hg
       exact zz hx (hi p x hg rfl)
     rw[e1,Oz out m [x] l (by simpa using w1) (fun j hj=>?_)]
     .simp
     .have:=w2 (j+1) (by omega)
      simpa using this
    by_cases a1:out.length=40
    .rw[Dq (by simp) (.inr a1),a0]
     cases hs:scF (out++[(x::l).take (m+1)]) ((x::l).drop (m+1)) with
     | none=>rfl
     | some r =>
      have:=aq2 _ _ _ hs;rw[List.length_append]at this;simp at this;have a2:¬ r.length≤40:=by omega
      show none=if r.length≤40 then some r else none
      rw[if_neg a2]
    .rw[Ml (by simp) hw a1,hm,a0]
     refine Mo n _ _ (by rw[List.length_drop];simp at hn ⊢;omega) (by simp;omega) (fun p y hp hy=>?_);simp at hp;subst hp;rw[List.head?_drop]at hy;have a3:m+1<(x::l).length:=(List.getElem?_eq_some_iff.1 hy).1;have:=w3 a3;rw[List.take_add_one,hy]at this;simp at this ⊢;omega
def ur (l:List Rw):Option (List (List Rw)):=if dm l then us [] l else none
theorem am1 (l:List Rw):us [] l=vg (scF [] l) :=
 Mo l.length l [] bR (by simp) (fun p x hp=>by simp at hp)
theorem V6 {l:List Rw}(h:dm l=true) (n:Nat):dm (l.drop n)=true:=by
 refine ue (by have:=mz h;rw[List.length_drop];omega) (fun i hi=>?_);rw[List.length_drop]at hi;have h1:=xj h (show n+i<l.length by omega);have e:∀ j,dh (l.drop n) j=dh l (n+j):=fun j=>by unfold dh;rw[List.getElem?_drop]
 unfold lq at h1 ⊢;rw[e];rw[Bool.and_eq_true]at h1 ⊢;refine⟨h1.1,?_⟩;by_cases c:i=0
 .simp[c]
 .have h2:=h1.2
  rw[e];have c1:(n+i == 0)=false:=by simp;omega
  have c2:(i == 0)=false:=by simp[c]
  rw[c1,Bool.false_or]at h2;rw[c2,Bool.false_or,show n+(i-1)=n+i-1 by omega];exact h2
theorem V7 {l:List Rw}(h:dm l=true) (n:Nat):dm (l.take n)=true:=by
 refine ue (by have:=mz h;rw[List.length_take];omega) (fun i hi=>?_);rw[List.length_take]at hi;have h1:=xj h (show i<l.length by omega);have e:∀ j,j<n→dh (l.take n) j=dh l j:=fun j hj=>by unfold dh;rw[List.getElem?_take_of_lt hj]
 unfold lq at h1 ⊢;rw[e i (by omega),e (i-1) (by omega)];exact h1
theorem a05 {l:List Rw}(hg:dm l=true) (_h0:l.length≠0) (hw:¬ wn l 300=0):ko (l.take (wn l 300))=true:=by
 obtain⟨w1,w2,w3⟩:=ak3 l 300;unfold ko;have h1:=V7 hg (wn l 300);have h2:(et (l.take (wn l 300))).length≤300:=by
  have:=w2 (wn l 300-1) (by omega);rw[show wn l 300-1+1=wn l 300 by omega]at this;exact this
 have h3:((l.take (wn l 300)).length == 0)=false:=by
  have h4:(l.take (wn l 300)).length=wn l 300:=by rw[List.length_take];omega
  rw[h4];simp[hw]
 rw[h1,h3,decide_eq_true h2];rfl
theorem Sn:∀ (n:Nat) (l:List Rw) (acc r:List (List Rw)),l.length≤n→dm l=true→acc.length≤40→(∀ p ∈ acc,ko p=true)→us acc l=some r→r.length≤40∧∀ p ∈ r,ko p=true
 | 0,l,acc,r,hn,_,ha,hp,h=>by
  rw[Af (by omega)]at h
  cases h
  exact⟨ha,hp⟩
 | n+1,l,acc,r,hn,hg,ha,hp,h=>by
  by_cases h0:l.length=0
  .rw[Af h0]at h
   cases h
   exact⟨ha,hp⟩
  .by_cases h1:wn l 300=0
   .rw[Dq h0 (.inl h1)]at h;cases h
   .by_cases h2:acc.length=40
    .rw[Dq h0 (.inr h2)]at h;cases h
    .rw[Ml h0 h1 h2]at h
     refine Sn n _ _ r (by rw[List.length_drop];omega) (V6 hg _) (by simp;omega) (fun p hpm=>?_) h;rcases List.mem_append.1 hpm with hpm|hpm
     .exact hp p hpm
     .simp at hpm
      rw[hpm];exact a05 hg h0 h1
theorem Sm {l:List Rw} {r:List (List Rw)}(h:ur l=some r):r.length≤40∧∀ p ∈ r,ko p=true:=by
 unfold ur at h;split at h
 .rename_i hg
  exact Sn l.length l [] r bR hg (by simp) (fun p hp=>by simp at hp) h
 .cases h
def gB (x:Int):UInt8:=x.toNat.toUInt8
theorem wy (bs:List Int):(byT bs).data.toList=bs.map gB:=by simp[byT,gB]
theorem Ts (s:ByteArray):(bI s).map gB=s.data.toList:=by
 have:=congrArg (fun t:ByteArray=>t.data.toList) (as5 s);rw[wy]at this;exact this
theorem xg (s:ByteArray) (a b:Nat):(s.extract a b).data.toList=(s.data.toList.drop a).take (b-a):=by
 rw[xf,Array.toList_extract,List.extract_eq_take_drop]
theorem Gr {s t:ByteArray}(h:s.data.toList=t.data.toList):s=t:=ByteArray.ext (Array.toList_inj.1 h)
theorem seg {t:ByteArray} {a b c:List UInt8} {i n:Nat}(h:t.data.toList=a++(b++c)) (ha:a.length=i) (hb:b.length=n):(t.extract i (i+n)).data.toList=b:=by
 subst ha;subst hb;rw[xg,h,List.drop_left];simp
theorem Ta {t:ByteArray} {a c:List UInt8} {i:Nat}(h:t.data.toList=a++c) (ha:a.length=i):(t.extract i t.size).data.toList=c:=by
 subst ha;have hs:t.size=a.length+c.length:=by
  have h1:t.data.toList.length=t.size:=Array.length_toList;rw[h,List.length_append]at h1;exact h1.symm
 rw[xg,h,List.drop_left,hs];simp
theorem Pa:∀ (x y:List UInt8),x.take (shL x y)=y.take (shL x y)
 | [],y=>by cases y <;> simp[shL]
 | a::x,[]=>by simp[shL]
 | a::x,b::y=>by
  unfold shL;split
  .rename_i h
   simp[h,Pa x y]
  .simp
theorem Cd {n:Nat}(h:n≤255):(gB (n:Int)).toNat=n:=by
 unfold gB;simp
 omega
theorem aa2 {a c:List UInt8} {i:Nat}(h:i<a.length):(a++c).getD i 0=a.getD i 0:=by
 simp[List.getD,List.getElem?_append_left h]
theorem ag1 (p:ByteArray) (x:Rw) (rs:List Int):(byT (je p x++rs)).data.toList=[gB (shB p x.key:Int),gB ((x.key.size:Int)-(shB p x.key:Int)),gB (x.text.size:Int),gB (x.val.size:Int)]++((x.key.data.toList.drop (shB p x.key))++(x.text.data.toList++(x.val.data.toList++rs.map gB))):=by
 rw[wy,List.map_append];unfold je;rw[List.map_append,List.map_append,List.map_append,Ts,Ts,Ts,xg];have h:(x.key.data.toList.drop (shB p x.key)).take (x.key.size-shB p x.key)=x.key.data.toList.drop (shB p x.key):=by
  apply List.take_of_length_le
  have h1:x.key.data.toList.length=x.key.size:=Array.length_toList;rw[List.length_drop,h1];exact bR
 rw[h];simp
theorem Ap {t:ByteArray} {a c:List UInt8} {i n:Nat}(h:t.data.toList=a++c) (hi:i<a.length) (hn:(a.getD i 0).toNat=n):hd t i=n:=by
 unfold hd bAt;rw[h,aa2 hi];exact hn
theorem ag0 {p:ByteArray} {x:Rw} {rs:List Int}(hp:p.size≤255) (h0:x.key.size≤255) (h1:x.text.size≤255) (h2:x.val.size≤255) :
  o6 p (byT (je p x++rs))=true∧ld p (byT (je p x++rs))=x∧kp (byT (je p x++rs))=byT rs:=by
 have hL:=ag1 p x rs;have s1:=Dz p x.key;have s2:=E3 p x.key;have lk:x.key.data.toList.length=x.key.size:=Array.length_toList;have lt:x.text.data.toList.length=x.text.size:=Array.length_toList;have lv:x.val.data.toList.length=x.val.size:=Array.length_toList;have a4:(byT (je p x++rs)).size=(je p x).length+rs.length:=by rw[qe,List.length_append]
 have a3:=sm p x;generalize byT (je p x++rs)=t at *;have d0:hd t 0=shB p x.key:=Ap hL (by simp) (Cd (n:=shB p x.key) (by omega));have d1:hd t 1=x.key.size-shB p x.key:=Ap hL (by simp) (by
  have e:((x.key.size:Int)-(shB p x.key:Int))=((x.key.size-shB p x.key:Nat):Int):=by omega
  show (gB ((x.key.size:Int)-(shB p x.key:Int))).toNat=_
  rw[e];exact Cd (by omega))
 have d2:hd t 2=x.text.size:=Ap hL (by simp) (Cd h1);have d3:hd t 3=x.val.size:=Ap hL (by simp) (Cd h2);generalize hA:[gB (shB p x.key:Int),gB ((x.key.size:Int)-(shB p x.key:Int)),gB (x.text.size:Int),gB (x.val.size:Int)]=A at hL;have lA:A.length=4:=by rw[<- hA];rfl
 have lK:(x.key.data.toList.drop (shB p x.key)).length=x.key.size-shB p x.key:=by rw[List.length_drop,lk]
 have e1:(t.extract 4 (4+hd t 1)).data.toList=x.key.data.toList.drop (shB p x.key):=by rw[d1];exact seg hL lA lK
 have a0:t.data.toList=(A++x.key.data.toList.drop (shB p x.key))++(x.text.data.toList++(x.val.data.toList++rs.map gB)):=by rw[hL];simp
 have e2:(t.extract (4+hd t 1) (4+hd t 1+hd t 2)).data.toList=x.text.data.toList:=by
  rw[d2];exact seg a0 (by rw[List.length_append,lA,lK,d1]) lt
 have a1:t.data.toList=(A++x.key.data.toList.drop (shB p x.key)++x.text.data.toList)++(x.val.data.toList++rs.map gB):=by rw[hL];simp
 have e3:(t.extract (4+hd t 1+hd t 2) (4+hd t 1+hd t 2+hd t 3)).data.toList=x.val.data.toList:=by
  rw[d3];exact seg a1 (by rw[List.length_append,List.length_append,lA,lK,lt,d1,d2]) lv
 have a2:t.data.toList=(A++x.key.data.toList.drop (shB p x.key)++x.text.data.toList++x.val.data.toList)++rs.map gB:=by rw[hL];simp
 have e4:(t.extract (4+hd t 1+hd t 2+hd t 3) t.size).data.toList=rs.map gB:=Ta a2 (by rw[List.length_append,List.length_append,List.length_append,lA,lK,lt,lv,d1,d2,d3]);have e5:(p.extract 0 (hd t 0)).data.toList=x.key.data.toList.take (shB p x.key):=by
  rw[d0,xg];have:=Pa p.data.toList x.key.data.toList;simp
  exact this
 refine⟨?_,?_,?_⟩
 .unfold o6
  rw[d0,d1,d2,d3];simp
  omega
 .unfold ld
  obtain⟨k,tx,vl⟩:=x;congr 1
  .apply Gr
   have:(p.extract 0 (hd t 0)++t.extract 4 (4+hd t 1)).data.toList=(p.extract 0 (hd t 0)).data.toList++(t.extract 4 (4+hd t 1)).data.toList:=by simp
   rw[this,e5,e1];simp
  .exact Gr e2
  .exact Gr e3
 .unfold kp
  apply Gr
  rw[e4,wy]
theorem Kx:∀ (l:List Rw) (p:ByteArray),p.size≤255→(∀ x ∈ l,x.key.size≤255∧x.text.size≤255∧x.val.size≤255)→rdF l.length p (byT (eh p l))=some l
 | [],p,_,_=>rfl
 | x::l,p,hp,h=>by
  obtain⟨h0,h1,h2⟩:=h x (by simp);obtain⟨a1,a2,a3⟩:=ag0 (rs:=eh x.key l) hp h0 h1 h2;show rdF (l.length+1) p (byT (je p x++eh x.key l))=_
  unfold rdF;rw[a1,a2,a3,if_pos rfl,Kx l x.key h0 (fun y hy=>h y (by simp[hy]))];rfl
def pgB (g:List Rw):ByteArray:=byT (et g)
theorem Of (g:List Rw):(pgB g).size=lnP g:=qe _
theorem ae3 (g:List Rw):(pgB g).data.toList=[gB 80,gB 71,gB (g.length:Int)]++(eh ⟨#[]⟩ g).map gB:=by
 unfold pgB et;rw[wy,List.map_append];rfl
theorem Kq {g:List Rw}(h0:0<g.length) (hg:dm g=true) (hl:lnP g≤300):da (pgB g)=0∧an (pgB g)=g:=by
 have hB:=ud hg;have hL:=ae3 g;have hs:=Of g;have h3:3≤lnP g:=by rw[Ck];omega
 have a0:m9 (pgB g)=true:=by unfold m9;rw[hs,decide_eq_true h3,decide_eq_true hl];rfl
 have d0:hd (pgB g) 0=80:=Ap hL (by simp) rfl;have d1:hd (pgB g) 1=71:=Ap hL (by simp) rfl;have d2:hd (pgB g) 2=g.length:=Ap hL (by simp) (Cd hB.1);have hm:lp (pgB g)=true:=by unfold lp;rw[d0,d1];rfl
 have he:(pgB g).extract 3 (pgB g).size=byT (eh ⟨#[]⟩ g):=by
  apply Gr
  rw[wy];exact Ta hL rfl
 have hr:f4 (pgB g)=some g:=by
  unfold f4;rw[d2,he,Kx g ⟨#[]⟩ (Nat.zero_le _) hB.2];have hp:kl (pgB g) g=true:=by
   unfold kl;rw[hg,decide_eq_true (show byT (et g)=pgB g from rfl)];have:(g.length == 0)=false:=by rw[beq_eq_false_iff_ne];omega
   rw[this];rfl
  simp[hp]
 constructor
 .unfold da;rw[a0,hm,hr];rfl
 .unfold an;rw[a0,hm,hr];rfl
theorem a13 {g:List Rw}(hl:¬ lnP g≤300):da (pgB g)=1:=by
 unfold da m9;rw[Of,decide_eq_false hl];simp
def n7 (a b:ByteArray):Int:=Lib.compareBytes a.data.toList b.data.toList
theorem E5 (a b:ByteArray) (w:World) :
  Calls prog 150 #[.string a,.string b] w fun e w'=>e=.returned (.int .i64 (n7 a b))∧w'=w:=by
 go_enter func150,ntmps150;go_wp2;rw[run_callFunc_extern func174 (by kernel_rfl) (by kernel_rfl) (by kernel_rfl) (e:=Extern.BytealgCompare.compare) (by kernel_rfl),Lib.run_compareString];simp only[Result.andThen];rw[Oper.upon_value];go_wp2;go_ret;exact⟨rfl,rfl⟩
theorem J7 (a b:ByteArray) (w:World) :
  Calls prog 130 #[.string a,.string b] w fun e w'=>e=.returned (.int .i64 (n7 a b))∧w'=w:=by
 have A:=fun w=>E5 a b w
 go_enter func130,ntmps130;go_wp2_with fail;refine (A _).mono ?_;rintro e w1 ⟨rfl,rfl⟩;clear A;go_wp2;go_ret;exact⟨rfl,rfl⟩
theorem Ct (x:Rw) (key:ByteArray) (w:World) :
  Calls prog 129 #[.agg #[.string x.key,.string x.text,.string x.val],.string key] w fun e w'=>e=.returned (.int .i64 (n7 x.key key))∧Below w.heap.size w w':=by
 have A:=fun w=>J7 x.key key w
 have HB:Hid (∀ o,Below w.heap.size w (w.alloc o)):=fun o=>(Below.refl w.heap.size w).alloc bR o
 go_enter func129,ntmps129;go_wp2_with fail;refine (A _).mono ?_;rintro e w1 ⟨rfl,rfl⟩;clear A;go_wp2;go_ret;exact⟨rfl,HB.out _⟩
end Go.Proofs.YtjbmgghehdemdaaGreatDoor
